/-
  CanBe and AlwaysSame: the model's.
-/
import Derived.Test.YtklcfbjaodildaaGi10
namespace Go.Proofs.Ytklcfbjaodildaa
open Go.ChangeShapes Go.WideShapes Go.ChangeAt Go.RowKit

set_option maxRecDepth 100000 in
set_option maxHeartbeats 8000000 in
theorem specCan_any (A : Option Addr) (n cap : Nat) (xs : List Gt) (w : World) (r0 : Bool) (r1 : List Bool) (r2 : Bool) (HR : Hid (rCan xs = (r0, r1, r2))) (hl : Hid (GLies w A xs)) (HX : Hid (xs.length = n)) (hn : n ≤ 1048576) :
    Calls Try.prog 32 #[.slice A n cap] w (GaveCan w r0 r1 r2) := by
  cases q1 : goodGB xs
  · have E := Lib.hid (rCan_no HR.out q1)
    go_enter Try.func32, Try.ntmps32
    go_wp2_with (go_at_call 60; refine (specGoodG_any _ _ _ xs _ hl HX hn).mono ?_; rintro e w1 ⟨rfl, hb1⟩; rw [q1]; have B1 := Lib.hid hb1; clear hb1)
    go_ret3
    exact can_no E.out B1.out
  obtain ⟨q, hq⟩ : ∃ q, (inpN xs n).length = q := ⟨_, rfl⟩
  have QN := Lib.hid hq
  have hqn : q ≤ n := by rw [← hq]; exact inpN_le _ _
  have hn12 : n ≤ 12 := by have := goodG_len q1; have := HX.out; omega
  have h1n : 1 ≤ n := by have := goodG_len q1; have := HX.out; omega
  have HG := Lib.hid q1
  have EN : Hid (nIn xs = q) := Lib.hid (by unfold nIn; rw [HX.out]; exact hq)
  have HQ : Hid (q = (inpN xs n).length) := Lib.hid hq.symm
  clear hq
  have E := Lib.hid (rCan_yes HR.out q1)
  rw [EN.out] at E
  have E2 := Lib.hid E.out.2
  have HF := Lib.hid E.out.1
  clear E
  obtain ⟨T, hT⟩ : ∃ T : Nat, 2 ^ q = T := ⟨_, rfl⟩
  have hq12 : q ≤ 12 := by omega
  have hT2 : T ≤ 4096 := by rw [← hT]; exact pow_le hq12
  have hsh := shl_one q hq12
  rw [hT] at hsh HF
  have hsh2 : IntKind.i64.wrap (2 ^ q) = (T : Int) := by rw [← hsh, Int.one_mul]
  obtain ⟨p, hp⟩ : ∃ p, n - 1 = p := ⟨_, rfl⟩
  have hpn : p < n := by omega
  have hpe : (n : Int) - 1 = (p : Int) := by omega
  have HP := Lib.hid hp
  clear hT hp
  go_enter Try.func32, Try.ntmps32
  go_wp2_with fail
  refine (specGoodG_any _ _ _ xs _ hl HX hn).mono ?_
  rintro e w1 ⟨rfl, hb1⟩
  rw [q1]
  have B1 := Lib.hid hb1
  clear hb1
  go_wp2_with fail
  refine (inputsS_any _ _ _ xs _ (Lib.hid (hl.out.below B1.out)) HX hn).mono ?_
  rintro e w2 ⟨A2, c2, rfl, _, hb2⟩
  rw [inpI_len, QN.out]
  have B2 := Lib.hid (Below.tr B1.out hb2)
  clear hb2
  go_wp2_with fail
  go_loopw [6] (fun i wr => ∃ k : Nat, k ≤ T ∧ i = .int .i64 k ∧ (∀ j, j < k → outG xs (modelN q j) = false) ∧ Below w.heap.size w wr) (fun i _ => T - (intOf i).toNat)
  case atStart => exact ⟨0, Nat.zero_le _, rfl, fun j hj => absurd hj (Nat.not_lt_zero _), B2.out⟩
  case round =>
    obtain ⟨k, hk, rfl, hno, hb⟩ := hrel
    have NO := Lib.hid hno
    have B3 := Lib.hid hb
    clear hno hb
    by_cases hlt : k < T
    · go_wp2_with fail
      refine (l4Model_any q k _ (by omega) (by omega)).mono ?_
      rintro e w4 ⟨rfl, hk1, hb1⟩
      have M1 := Lib.hid hk1.blies
      have B4 := Lib.hid (Below.tr B3.out hb1)
      have O1 := Lib.hid (own_baseG (own_of_vblk (n := q) hk1 (by rw [List.length_map, modelN_len]) (by omega)) B3.out.size)
      clear hk1 hb1
      go_wp2_with fail
      refine (evalS_any _ _ n q _ _ xs (modelN q k) _ (Lib.hid (hl.out.below B4.out)) HX hn12 HG M1 (Lib.hid (modelN_len q k)) HQ).mono ?_
      rintro e w5 ⟨A5, c5, rfl, ho5, hb5⟩
      have OO := own_blies ho5
      rw [evK_len] at *
      obtain ⟨b5, off5, rfl, hbl5, c5'⟩ := OO (n - 1) _ (outG_at HX.out h1n)
      rw [HP.out] at c5'
      have B5 := Lib.hid (Below.tr B4.out hb5)
      have O5 := Lib.hid (own_below O1.out hb5)
      clear ho5 hb5 OO
      cases hv : outG xs (modelN q k)
      · have N2 := Lib.hid (find_step (p := fun N => outG xs (modelN q N)) NO.out hv)
        rw [hv] at c5'
        go_wp2
        go_roundw
        case rel => exact ⟨k + 1, by omega, by go_num, N2.out, B5.out⟩
        case measure => simp [intOf]; omega
      · have E := Lib.hid (HF.out.at hlt NO.out hv)
        rw [hv] at c5'
        go_wp2
        go_ret3
        exact ⟨_, q, by rw [E.out.1, E.out.2, E2.out, modelN_len]; rfl, by rw [E.out.2, modelN_len]; exact O5.out, B5.out⟩
    · obtain rfl : k = T := by omega
      have E := Lib.hid (HF.out.end_ NO.out)
      go_wp2
      go_ret3
      exact ⟨none, 0, by rw [E.out.1, E.out.2, E2.out]; rfl, by rw [E.out.2]; exact World.ownsRow_nil _ _ _ _, B3.out⟩
set_option maxRecDepth 100000 in
set_option maxHeartbeats 8000000 in
theorem specAlw_any (A : Option Addr) (na cap : Nat) (B : Option Addr) (nb cap2 : Nat) (xs ys : List Gt) (w : World) (r0 r1 : Bool) (HR : Hid (rAlw xs ys = (r0, r1))) (hla : Hid (GLies w A xs)) (HXa : Hid (xs.length = na)) (hna : na ≤ 1048576) (hlb : Hid (GLies w B ys)) (HXb : Hid (ys.length = nb)) (hnb : nb ≤ 1048576) :
    Calls Try.prog 43 #[.slice A na cap, .slice B nb cap2] w fun e w' => e = .returned (.tuple #[.bool r0, .bool r1]) ∧ Below w.heap.size w w' := by
  cases qa : goodGB xs
  · have E := Lib.hid (rAlw_no HR.out (.inl qa))
    go_enter Try.func43, Try.ntmps43
    go_wp2_with fail
    refine (specGoodG_any _ _ _ xs _ hla HXa hna).mono ?_
    rintro e w1 ⟨rfl, hb⟩
    rw [qa]
    have B1 := Lib.hid hb
    clear hb
    go_wp2
    go_ret2
    exact ⟨(ret_bbG E.out), B1.out⟩
  cases qb : goodGB ys
  · have E := Lib.hid (rAlw_no HR.out (.inr (.inl qb)))
    go_enter Try.func43, Try.ntmps43
    go_wp2_with fail
    refine (specGoodG_any _ _ _ xs _ hla HXa hna).mono ?_
    rintro e w1 ⟨rfl, hb⟩
    rw [qa]
    have B1 := Lib.hid hb
    clear hb
    go_wp2_with fail
    refine (specGoodG_any _ _ _ ys _ (Lib.hid (hlb.out.below B1.out)) HXb hnb).mono ?_
    rintro e w2 ⟨rfl, hb⟩
    rw [qb]
    have B2 := Lib.hid (Below.tr B1.out hb)
    clear hb
    go_wp2
    go_ret2
    exact ⟨(ret_bbG E.out), B2.out⟩
  obtain ⟨qan, hqa⟩ : ∃ q, (inpN xs na).length = q := ⟨_, rfl⟩
  have QNa := Lib.hid hqa
  have hqan : qan ≤ na := by rw [← hqa]; exact inpN_le _ _
  have hna2 : na ≤ 12 := by have := goodG_len qa; have := HXa.out; omega
  have HGa := Lib.hid qa
  have ENa : Hid (nIn xs = qan) := Lib.hid (by unfold nIn; rw [HXa.out]; exact hqa)
  have HQa : Hid (qan = (inpN xs na).length) := Lib.hid hqa.symm
  clear hqa
  obtain ⟨qbn, hqb⟩ : ∃ q, (inpN ys nb).length = q := ⟨_, rfl⟩
  have QNb := Lib.hid hqb
  have hqbn : qbn ≤ nb := by rw [← hqb]; exact inpN_le _ _
  have hnb2 : nb ≤ 12 := by have := goodG_len qb; have := HXb.out; omega
  have HGb := Lib.hid qb
  have ENb : Hid (nIn ys = qbn) := Lib.hid (by unfold nIn; rw [HXb.out]; exact hqb)
  have HQb : Hid (qbn = (inpN ys nb).length) := Lib.hid hqb.symm
  clear hqb
  by_cases hne : qan ≠ qbn
  · have E := Lib.hid (rAlw_no HR.out (.inr (.inr (by rw [ENa.out, ENb.out]; exact hne))))
    have em : ((qan : Int) != (qbn : Int)) = true := by simp; omega
    go_enter Try.func43, Try.ntmps43
    go_wp2_with fail
    refine (specGoodG_any _ _ _ xs _ hla HXa hna).mono ?_
    rintro e w1 ⟨rfl, hb⟩
    rw [qa]
    have B1 := Lib.hid hb
    clear hb
    go_wp2_with fail
    refine (specGoodG_any _ _ _ ys _ (Lib.hid (hlb.out.below B1.out)) HXb hnb).mono ?_
    rintro e w2 ⟨rfl, hb⟩
    rw [qb]
    have B2 := Lib.hid (Below.tr B1.out hb)
    clear hb
    go_wp2_with fail
    refine (inputsS_any _ _ _ xs _ (Lib.hid (hla.out.below B2.out)) HXa hna).mono ?_
    rintro e w3 ⟨A3, c3, rfl, _, hb⟩
    rw [inpI_len, QNa.out]
    have B3 := Lib.hid (Below.tr B2.out hb)
    clear hb
    go_wp2_with fail
    refine (inputsS_any _ _ _ ys _ (Lib.hid (hlb.out.below B3.out)) HXb hnb).mono ?_
    rintro e w4 ⟨A4, c4, rfl, _, hb⟩
    rw [inpI_len, QNb.out]
    have B4 := Lib.hid (Below.tr B3.out hb)
    clear hb
    go_wp2
    go_ret2
    exact ⟨(ret_bbG E.out), B4.out⟩
  obtain rfl : qan = qbn := by omega
  clear hne
  have em : ((qan : Int) != (qan : Int)) = false := by simp
  obtain ⟨f, l, hf⟩ := findR_any (fun N => outG xs (modelN qan N) != outG ys (modelN qan N)) qan (2 ^ qan)
  have HF := Lib.hid hf
  have E := Lib.hid (rAlw_yes HR.out qa qb (by rw [ENa.out, ENb.out]) (f := f) (l := l) (by rw [ENa.out]; exact hf))
  clear hf
  obtain ⟨T, hT⟩ : ∃ T : Nat, 2 ^ qan = T := ⟨_, rfl⟩
  have hq12 : qan ≤ 12 := by omega
  have hT2 : T ≤ 4096 := by rw [← hT]; exact pow_le hq12
  have hsh := shl_one qan hq12
  rw [hT] at hsh HF
  have hsh2 : IntKind.i64.wrap (2 ^ qan) = (T : Int) := by rw [← hsh, Int.one_mul]
  clear hT
  have h1na : 1 ≤ na := by have := goodG_len qa; have := HXa.out; omega
  obtain ⟨pa, hpa⟩ : ∃ p, na - 1 = p := ⟨_, rfl⟩
  have hpan : pa < na := by omega
  have hwra : IntKind.i64.wrap ((na : Int) - 1) = (pa : Int) := by rw [IntKind.wrap_i64]; omega
  have HPa := Lib.hid hpa
  clear hpa
  have h1nb : 1 ≤ nb := by have := goodG_len qb; have := HXb.out; omega
  obtain ⟨pb, hpb⟩ : ∃ p, nb - 1 = p := ⟨_, rfl⟩
  have hpbn : pb < nb := by omega
  have hwrb : IntKind.i64.wrap ((nb : Int) - 1) = (pb : Int) := by rw [IntKind.wrap_i64]; omega
  have HPb := Lib.hid hpb
  clear hpb
  go_enter Try.func43, Try.ntmps43
  go_wp2_with fail
  refine (specGoodG_any _ _ _ xs _ hla HXa hna).mono ?_
  rintro e w1 ⟨rfl, hb⟩
  rw [qa]
  have B1 := Lib.hid hb
  clear hb
  go_wp2_with fail
  refine (specGoodG_any _ _ _ ys _ (Lib.hid (hlb.out.below B1.out)) HXb hnb).mono ?_
  rintro e w2 ⟨rfl, hb⟩
  rw [qb]
  have B2 := Lib.hid (Below.tr B1.out hb)
  clear hb
  go_wp2_with fail
  refine (inputsS_any _ _ _ xs _ (Lib.hid (hla.out.below B2.out)) HXa hna).mono ?_
  rintro e w3 ⟨A3, c3, rfl, _, hb⟩
  rw [inpI_len, QNa.out]
  have B3 := Lib.hid (Below.tr B2.out hb)
  clear hb
  go_wp2_with fail
  refine (inputsS_any _ _ _ ys _ (Lib.hid (hlb.out.below B3.out)) HXb hnb).mono ?_
  rintro e w4 ⟨A4, c4, rfl, _, hb⟩
  rw [inpI_len, QNb.out]
  have B4 := Lib.hid (Below.tr B3.out hb)
  clear hb
  go_wp2_with fail
  refine (inputsS_any _ _ _ xs _ (Lib.hid (hla.out.below B4.out)) HXa hna).mono ?_
  rintro e w5 ⟨A5, c5, rfl, _, hb⟩
  rw [inpI_len, QNa.out]
  have B5 := Lib.hid (Below.tr B4.out hb)
  clear hb
  go_wp2_with fail
  go_loopw [7] (fun i wr => ∃ k : Nat, k ≤ T ∧ i = .int .i64 k ∧ (∀ j, j < k → (outG xs (modelN qan j) != outG ys (modelN qan j)) = false) ∧ Below w.heap.size w wr) (fun i _ => T - (intOf i).toNat)
  case atStart => exact ⟨0, Nat.zero_le _, rfl, fun j hj => absurd hj (Nat.not_lt_zero _), B5.out⟩
  case round =>
    obtain ⟨k, hk, rfl, hno, hb⟩ := hrel
    have NO := Lib.hid hno
    have B6 := Lib.hid hb
    clear hno hb
    by_cases hlt : k < T
    · go_wp2_with fail
      refine (l4Model_any qan k _ (by omega) (by omega)).mono ?_
      rintro e w7 ⟨rfl, hk1, hb1⟩
      have M1 := Lib.hid hk1.blies
      have B7 := Lib.hid (Below.tr B6.out hb1)
      clear hk1 hb1
      go_wp2_with fail
      refine wp_region_any (by kernel_rfl) ?_
      change wpAny _ _ _ _ _ _ _ (World.drew _)
      obtain ⟨w8, hw8⟩ : ∃ W, W = World.drew w7 := ⟨_, rfl⟩
      rw [← hw8]
      have hb8 : Below w7.heap.size w7 w8 := by rw [hw8]; exact (Below.refl _ _).drew
      have M8 := Lib.hid (M1.out.below hb8)
      have B8 := Lib.hid (Below.tr B7.out hb8)
      clear hw8 hb8 M1
      refine wpAny_take (i := 0) (v := ?_) rfl (by kernel_rfl) (by kernel_rfl) (by kernel_rfl) (fun _ _ _ h => h) (Or.inl ⟨by rfl, ?_⟩) ?_
      rotate_left
      · intro W
        go_simp
        try with_reducible rfl
      simp only [Act.put, List.setIfInBounds_toArray]
      refine wpAny_take (i := 1) (v := ?_) rfl (by kernel_rfl) (by kernel_rfl) (by kernel_rfl) (fun _ _ _ h => h) (Or.inl ⟨by rfl, ?_⟩) ?_
      rotate_left
      · intro W
        go_simp
        try with_reducible rfl
      simp only [Act.put]
      refine wpAny_take (i := 3) (v := ?_) rfl (by kernel_rfl) (by kernel_rfl) (by kernel_rfl) (fun _ _ _ h => h) (Or.inl ⟨by rfl, ?_⟩) ?_
      rotate_left
      · intro W
        go_simp
        try with_reducible rfl
      simp only [Act.put]
      refine wpAny_take (i := 4) (v := ?_) rfl (by kernel_rfl) (by kernel_rfl) (by kernel_rfl) (fun _ _ _ h => h) (Or.inl ⟨by rfl, ?_⟩) ?_
      rotate_left
      · intro W
        go_simp
        try with_reducible rfl
      simp only [Act.put]
      refine wpAny_take (i := 5) (v := ?_) rfl (by kernel_rfl) (by kernel_rfl) (by kernel_rfl) (fun _ _ _ h => h) (Or.inl ⟨by rfl, ?_⟩) ?_
      rotate_left
      · intro W
        go_simp
        try with_reducible rfl
      simp only [Act.put]
      refine wpAny_take (i := 8) (v := ?_) rfl (by kernel_rfl) (by kernel_rfl) (by kernel_rfl) (fun _ _ _ h => h) (Or.inl ⟨by rfl, ?_⟩) ?_
      rotate_left
      · intro W
        go_simp
        try with_reducible rfl
      simp only [Act.put]
      refine wpAny_take (i := 9) (v := ?_) rfl (by kernel_rfl) (by kernel_rfl) (by kernel_rfl) (fun _ _ _ h => h) (Or.inl ⟨by rfl, ?_⟩) ?_
      rotate_left
      · intro W
        go_simp
        try with_reducible rfl
      simp only [Act.put]
      refine wpAny_take (i := 11) (v := ?_) rfl (by kernel_rfl) (by kernel_rfl) (by kernel_rfl) (fun _ _ _ h => h) (Or.inl ⟨by rfl, ?_⟩) ?_
      rotate_left
      · intro W
        go_simp
        try with_reducible rfl
      simp only [Act.put]
      refine wpAny_take (i := 12) (v := ?_) rfl (by kernel_rfl) (by kernel_rfl) (by kernel_rfl) (fun _ _ _ h => h) (Or.inl ⟨by rfl, ?_⟩) ?_
      rotate_left
      · intro W
        go_simp
        try with_reducible rfl
      simp only [Act.put]
      refine wpAny_take (i := 13) (v := ?_) rfl (by kernel_rfl) (by kernel_rfl) (by kernel_rfl) (fun _ _ _ h => h) (Or.inl ⟨by rfl, ?_⟩) ?_
      rotate_left
      · intro W
        go_simp
        try with_reducible rfl
      simp only [Act.put]
      refine wpAny_ready (rs := [2]) (by kernel_rfl) (by simp) ?_
      refine AllReady.cons rfl (fun K hK => ?_) AllReady.nil
      go_simp
      refine (evalS_any _ _ na qan _ _ xs (modelN qan k) _ (Lib.hid (hla.out.below B8.out)) HXa hna2 HGa M8 (Lib.hid (modelN_len qan k)) HQa).mono ?_
      rintro e w9 ⟨A9, c9, rfl, ho, hb⟩
      have OO := own_blies ho
      rw [evK_len] at ho ⊢
      obtain ⟨ba, offa, hAa, hbla, ra⟩ := OO (na - 1) _ (outG_at HXa.out h1na)
      subst hAa
      rw [HPa.out] at ra
      obtain ⟨va, hva⟩ : ∃ v, outG xs (modelN qan k) = v := ⟨_, rfl⟩
      rw [hva] at ra
      have Va := Lib.hid hva
      have B9 := Lib.hid (Below.tr B8.out hb)
      have M9 := Lib.hid (M8.out.below hb)
      clear ho hb OO hva
      refine hK _ _ ?_
      clear hK K
      try simp only [Act.put, List.setIfInBounds_toArray, List.set_cons_zero, List.set_cons_succ]
      try simp only [hwra]
      refine wpAny_take (i := 6) (v := ?_) rfl (by kernel_rfl) (by kernel_rfl) (by kernel_rfl) (fun _ _ _ h => h) (Or.inl ⟨by rfl, ?_⟩) ?_
      rotate_left
      · intro W
        go_simp
        try with_reducible rfl
      simp only [Act.put, List.setIfInBounds_toArray]
      refine wpAny_ready (rs := [7, 10]) (by kernel_rfl) (by simp) ?_
      refine AllReady.cons rfl (fun K hK => ?_) (AllReady.cons rfl (fun K hK => ?_) AllReady.nil)
      · go_simp
        refine hK _ _ ?_
        clear hK K
        try simp only [Act.put, List.setIfInBounds_toArray, List.set_cons_zero, List.set_cons_succ]
        refine wpAny_ready (rs := [10]) (by kernel_rfl) (by simp) ?_
        refine AllReady.cons rfl (fun K hK => ?_) AllReady.nil
        go_simp
        refine (evalS_any _ _ nb qan _ _ ys (modelN qan k) _ (Lib.hid (hlb.out.below B9.out)) HXb hnb2 HGb M9 (Lib.hid (modelN_len qan k)) HQb).mono ?_
        rintro e w10 ⟨A10, c10, rfl, ho, hb⟩
        have OO := own_blies ho
        rw [evK_len] at ho ⊢
        obtain ⟨bb, offb, hAb, hblb, rb⟩ := OO (nb - 1) _ (outG_at HXb.out h1nb)
        subst hAb
        rw [HPb.out] at rb
        obtain ⟨vb, hvb⟩ : ∃ v, outG ys (modelN qan k) = v := ⟨_, rfl⟩
        rw [hvb] at rb
        have Vb := Lib.hid hvb
        have B10 := Lib.hid (Below.tr B9.out hb)
        have ra2 := ((bcell hb).1 ba _ hbla).trans ra
        have hbla2 := Nat.lt_of_lt_of_le hbla hb.size
        clear ho hb OO hvb ra hbla
        refine hK _ _ ?_
        clear hK K
        try simp only [Act.put, List.setIfInBounds_toArray, List.set_cons_zero, List.set_cons_succ]
        try simp only [hwrb]
        refine wpAny_take (i := 14) (v := ?_) rfl (by kernel_rfl) (by kernel_rfl) (by kernel_rfl) (fun _ _ _ h => h) (Or.inl ⟨by rfl, ?_⟩) ?_
        rotate_left
        · intro W
          go_simp
          try with_reducible rfl
        simp only [Act.put, List.setIfInBounds_toArray]
        refine wpAny_ready (rs := [15]) (by kernel_rfl) (by simp) ?_
        refine AllReady.cons rfl (fun K hK => ?_) AllReady.nil
        go_simp
        refine hK _ _ ?_
        clear hK K
        try simp only [Act.put, List.setIfInBounds_toArray, List.set_cons_zero, List.set_cons_succ]
        refine wpAny_take (i := 16) (v := ?_) rfl (by kernel_rfl) (by kernel_rfl) (by kernel_rfl) (fun _ _ _ h => h) (Or.inl ⟨by rfl, ?_⟩) ?_
        rotate_left
        · intro W
          go_simp
          try with_reducible rfl
        simp only [Act.put, List.setIfInBounds_toArray]
        refine wpAny_done (by kernel_rfl) ?_ _
        cases va
        · cases vb
          · have N2 := Lib.hid (find_step (p := fun N => outG xs (modelN qan N) != outG ys (modelN qan N)) NO.out (by show (outG xs (modelN qan k) != outG ys (modelN qan k)) = false; rw [Va.out, Vb.out]; rfl))
            go_wp2
            go_roundw
            case rel => exact ⟨k + 1, by omega, by go_num, N2.out, B10.out⟩
            case measure => simp [intOf]; omega
          · have E3 := Lib.hid (HF.out.at hlt NO.out (by show (outG xs (modelN qan k) != outG ys (modelN qan k)) = true; rw [Va.out, Vb.out]; rfl))
            go_wp2
            go_ret2
            exact ⟨ret_bbG (by rw [E.out.1, E.out.2, E3.out.1]; exact ⟨rfl, rfl⟩), B10.out⟩
        · cases vb
          · have E3 := Lib.hid (HF.out.at hlt NO.out (by show (outG xs (modelN qan k) != outG ys (modelN qan k)) = true; rw [Va.out, Vb.out]; rfl))
            go_wp2
            go_ret2
            exact ⟨ret_bbG (by rw [E.out.1, E.out.2, E3.out.1]; exact ⟨rfl, rfl⟩), B10.out⟩
          · have N2 := Lib.hid (find_step (p := fun N => outG xs (modelN qan N) != outG ys (modelN qan N)) NO.out (by show (outG xs (modelN qan k) != outG ys (modelN qan k)) = false; rw [Va.out, Vb.out]; rfl))
            go_wp2
            go_roundw
            case rel => exact ⟨k + 1, by omega, by go_num, N2.out, B10.out⟩
            case measure => simp [intOf]; omega
      · go_simp
        refine (evalS_any _ _ nb qan _ _ ys (modelN qan k) _ (Lib.hid (hlb.out.below B9.out)) HXb hnb2 HGb M9 (Lib.hid (modelN_len qan k)) HQb).mono ?_
        rintro e w10 ⟨A10, c10, rfl, ho, hb⟩
        have OO := own_blies ho
        rw [evK_len] at ho ⊢
        obtain ⟨bb, offb, hAb, hblb, rb⟩ := OO (nb - 1) _ (outG_at HXb.out h1nb)
        subst hAb
        rw [HPb.out] at rb
        obtain ⟨vb, hvb⟩ : ∃ v, outG ys (modelN qan k) = v := ⟨_, rfl⟩
        rw [hvb] at rb
        have Vb := Lib.hid hvb
        have B10 := Lib.hid (Below.tr B9.out hb)
        have ra2 := ((bcell hb).1 ba _ hbla).trans ra
        have hbla2 := Nat.lt_of_lt_of_le hbla hb.size
        clear ho hb OO hvb ra hbla
        refine hK _ _ ?_
        clear hK K
        try simp only [Act.put, List.setIfInBounds_toArray, List.set_cons_zero, List.set_cons_succ]
        try simp only [hwrb]
        refine wpAny_take (i := 14) (v := ?_) rfl (by kernel_rfl) (by kernel_rfl) (by kernel_rfl) (fun _ _ _ h => h) (Or.inl ⟨by rfl, ?_⟩) ?_
        rotate_left
        · intro W
          go_simp
          try with_reducible rfl
        simp only [Act.put, List.setIfInBounds_toArray]
        refine wpAny_ready (rs := [7, 15]) (by kernel_rfl) (by simp) ?_
        refine AllReady.cons rfl (fun K hK => ?_) (AllReady.cons rfl (fun K hK => ?_) AllReady.nil)
        · go_simp
          refine hK _ _ ?_
          clear hK K
          try simp only [Act.put, List.setIfInBounds_toArray, List.set_cons_zero, List.set_cons_succ]
          refine wpAny_ready (rs := [15]) (by kernel_rfl) (by simp) ?_
          refine AllReady.cons rfl (fun K hK => ?_) AllReady.nil
          go_simp
          refine hK _ _ ?_
          clear hK K
          try simp only [Act.put, List.setIfInBounds_toArray, List.set_cons_zero, List.set_cons_succ]
          refine wpAny_take (i := 16) (v := ?_) rfl (by kernel_rfl) (by kernel_rfl) (by kernel_rfl) (fun _ _ _ h => h) (Or.inl ⟨by rfl, ?_⟩) ?_
          rotate_left
          · intro W
            go_simp
            try with_reducible rfl
          simp only [Act.put, List.setIfInBounds_toArray]
          refine wpAny_done (by kernel_rfl) ?_ _
          cases va
          · cases vb
            · have N2 := Lib.hid (find_step (p := fun N => outG xs (modelN qan N) != outG ys (modelN qan N)) NO.out (by show (outG xs (modelN qan k) != outG ys (modelN qan k)) = false; rw [Va.out, Vb.out]; rfl))
              go_wp2
              go_roundw
              case rel => exact ⟨k + 1, by omega, by go_num, N2.out, B10.out⟩
              case measure => simp [intOf]; omega
            · have E3 := Lib.hid (HF.out.at hlt NO.out (by show (outG xs (modelN qan k) != outG ys (modelN qan k)) = true; rw [Va.out, Vb.out]; rfl))
              go_wp2
              go_ret2
              exact ⟨ret_bbG (by rw [E.out.1, E.out.2, E3.out.1]; exact ⟨rfl, rfl⟩), B10.out⟩
          · cases vb
            · have E3 := Lib.hid (HF.out.at hlt NO.out (by show (outG xs (modelN qan k) != outG ys (modelN qan k)) = true; rw [Va.out, Vb.out]; rfl))
              go_wp2
              go_ret2
              exact ⟨ret_bbG (by rw [E.out.1, E.out.2, E3.out.1]; exact ⟨rfl, rfl⟩), B10.out⟩
            · have N2 := Lib.hid (find_step (p := fun N => outG xs (modelN qan N) != outG ys (modelN qan N)) NO.out (by show (outG xs (modelN qan k) != outG ys (modelN qan k)) = false; rw [Va.out, Vb.out]; rfl))
              go_wp2
              go_roundw
              case rel => exact ⟨k + 1, by omega, by go_num, N2.out, B10.out⟩
              case measure => simp [intOf]; omega
        · go_simp
          refine hK _ _ ?_
          clear hK K
          try simp only [Act.put, List.setIfInBounds_toArray, List.set_cons_zero, List.set_cons_succ]
          refine wpAny_ready (rs := [7]) (by kernel_rfl) (by simp) ?_
          refine AllReady.cons rfl (fun K hK => ?_) AllReady.nil
          go_simp
          refine hK _ _ ?_
          clear hK K
          try simp only [Act.put, List.setIfInBounds_toArray, List.set_cons_zero, List.set_cons_succ]
          refine wpAny_take (i := 16) (v := ?_) rfl (by kernel_rfl) (by kernel_rfl) (by kernel_rfl) (fun _ _ _ h => h) (Or.inl ⟨by rfl, ?_⟩) ?_
          rotate_left
          · intro W
            go_simp
            try with_reducible rfl
          simp only [Act.put, List.setIfInBounds_toArray]
          refine wpAny_done (by kernel_rfl) ?_ _
          cases va
          · cases vb
            · have N2 := Lib.hid (find_step (p := fun N => outG xs (modelN qan N) != outG ys (modelN qan N)) NO.out (by show (outG xs (modelN qan k) != outG ys (modelN qan k)) = false; rw [Va.out, Vb.out]; rfl))
              go_wp2
              go_roundw
              case rel => exact ⟨k + 1, by omega, by go_num, N2.out, B10.out⟩
              case measure => simp [intOf]; omega
            · have E3 := Lib.hid (HF.out.at hlt NO.out (by show (outG xs (modelN qan k) != outG ys (modelN qan k)) = true; rw [Va.out, Vb.out]; rfl))
              go_wp2
              go_ret2
              exact ⟨ret_bbG (by rw [E.out.1, E.out.2, E3.out.1]; exact ⟨rfl, rfl⟩), B10.out⟩
          · cases vb
            · have E3 := Lib.hid (HF.out.at hlt NO.out (by show (outG xs (modelN qan k) != outG ys (modelN qan k)) = true; rw [Va.out, Vb.out]; rfl))
              go_wp2
              go_ret2
              exact ⟨ret_bbG (by rw [E.out.1, E.out.2, E3.out.1]; exact ⟨rfl, rfl⟩), B10.out⟩
            · have N2 := Lib.hid (find_step (p := fun N => outG xs (modelN qan N) != outG ys (modelN qan N)) NO.out (by show (outG xs (modelN qan k) != outG ys (modelN qan k)) = false; rw [Va.out, Vb.out]; rfl))
              go_wp2
              go_roundw
              case rel => exact ⟨k + 1, by omega, by go_num, N2.out, B10.out⟩
              case measure => simp [intOf]; omega
    · obtain rfl : k = T := by omega
      have E3 := Lib.hid (HF.out.end_ NO.out)
      go_wp2
      go_ret2
      exact ⟨ret_bbG (by rw [E.out.1, E.out.2, E3.out.1]; exact ⟨rfl, rfl⟩), B6.out⟩
end Go.Proofs.Ytklcfbjaodildaa
