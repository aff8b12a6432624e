/-
  WalksOf of the model.
-/
import Derived.Test.YtbmmajdacebncaaAc9
namespace Go.Proofs.Ytbmmajdacebncaa
open Go.ChangeShapes Go.WideShapes Go.ChangeAt Go.RowKit

/-- a row of numbers -/
def mL (h : Nat → Nat) (n : Nat) : List Value := (List.range n).map (fun i => .int .i64 (h i : Nat))
theorem mL_at (h : Nat → Nat) {n i : Nat} (hi : i < n) : (mL h n)[i]? = some (.int .i64 (h i : Nat)) := by simp [mL, hi]
theorem mL_zero (n : Nat) : mL (fun _ => 0) n = List.replicate n (.int .i64 0) := by
  unfold mL
  apply List.ext_getElem?
  intro i
  rw [List.getElem?_replicate]
  by_cases c : i < n
  · rw [if_pos c]; simp [c]
  · rw [if_neg c]; simp [Nat.le_of_not_lt c]
theorem mL_set (h : Nat → Nat) {b : Nat} (n : Nat) (hb : b < n) (v : Nat) : (mL h n).set b (.int .i64 (v : Nat)) = mL (fun j => if j = b then v else h j) n := by
  unfold mL
  apply List.ext_getElem?
  intro i
  rw [List.getElem?_set]
  by_cases c : b = i
  · subst c
    rw [if_pos rfl]
    simp [hb]
  · rw [if_neg c]
    simp only [List.getElem?_map]
    by_cases d : i < n
    · rw [List.getElem?_range d]
      simp only [Option.map_some]
      rw [if_neg (fun e => c e.symm)]
    · rw [List.getElem?_eq_none (by simpa using Nat.le_of_not_lt d)]
      rfl
set_option maxRecDepth 100000 in
set_option maxHeartbeats 8000000 in
theorem specWlk_any (s f t c : Int) (A : Option Addr) (n cap : Nat) (l : AL) (w : World) (r0 : Int) (r1 : Bool) (HR : Hid (rWlk s l f t c = (r0, r1))) (hl : Hid (ALies w A l)) (HX : Hid (l.length = n)) (hn : n ≤ 1048576) :
    Calls Try.prog 33 #[.int .i64 s, .slice A n cap, .int .i64 f, .int .i64 t, .int .i64 c] w (fun e w' => e = .returned (.tuple #[.int .i64 r0, .bool r1]) ∧ Below w.heap.size w w') := by
  obtain ⟨g, hg⟩ : ∃ g, goodAB s l = g := ⟨_, rfl⟩
  have HG := Lib.hid hg
  clear hg
  obtain ⟨p, hp⟩ : ∃ p, ixB f s = p := ⟨_, rfl⟩
  have HP := Lib.hid hp
  clear hp
  obtain ⟨q, hq⟩ : ∃ q, ixB t s = q := ⟨_, rfl⟩
  have HQ := Lib.hid hq
  clear hq
  obtain ⟨k, hk⟩ : ∃ k, inB 1 8 c = k := ⟨_, rfl⟩
  have HK := Lib.hid hk
  clear hk
  cases g with
  | false =>
    have E := Lib.hid (Prod.mk.inj (HR.out.symm.trans (rWlk_1 HG.out)))
    go_enter Try.func33, Try.ntmps33
    go_wp2_with fail
    refine (specGoodA_any s _ _ _ l _ _ HG hl HX hn).mono ?_
    rintro e w2 ⟨rfl, hb⟩
    go_wp2
    go_ret2
    exact ⟨ret_ib E.out.1.symm E.out.2.symm, hb⟩
  | true =>
    cases p with
    | false =>
      have E := Lib.hid (Prod.mk.inj (HR.out.symm.trans (rWlk_2 HP.out)))
      have hss := (good_s HG.out).1
      go_enter Try.func33, Try.ntmps33
      go_wp2_with fail
      refine (specGoodA_any s _ _ _ l _ _ HG hl HX hn).mono ?_
      rintro e w2 ⟨rfl, hb⟩
      go_wp2_with ((go_at_call 54; refine (l1In_any _ _ _ _).mono ?_; rintro e w' ⟨rfl, rfl⟩; first | rw [inB_ixA, HP.out] | rw [inB_ixA, HQ.out] | rw [HK.out]))
      go_ret2
      exact ⟨ret_ib E.out.1.symm E.out.2.symm, hb⟩
    | true =>
      cases q with
      | false =>
        have E := Lib.hid (Prod.mk.inj (HR.out.symm.trans (rWlk_3 HQ.out)))
        have hss := (good_s HG.out).1
        go_enter Try.func33, Try.ntmps33
        go_wp2_with fail
        refine (specGoodA_any s _ _ _ l _ _ HG hl HX hn).mono ?_
        rintro e w2 ⟨rfl, hb⟩
        go_wp2_with ((go_at_call 54; refine (l1In_any _ _ _ _).mono ?_; rintro e w' ⟨rfl, rfl⟩; first | rw [inB_ixA, HP.out] | rw [inB_ixA, HQ.out] | rw [HK.out]))
        go_ret2
        exact ⟨ret_ib E.out.1.symm E.out.2.symm, hb⟩
      | true =>
        cases k with
        | false =>
          have E := Lib.hid (Prod.mk.inj (HR.out.symm.trans (rWlk_4 HK.out)))
          have hss := (good_s HG.out).1
          go_enter Try.func33, Try.ntmps33
          go_wp2_with fail
          refine (specGoodA_any s _ _ _ l _ _ HG hl HX hn).mono ?_
          rintro e w2 ⟨rfl, hb⟩
          go_wp2_with ((go_at_call 54; refine (l1In_any _ _ _ _).mono ?_; rintro e w' ⟨rfl, rfl⟩; first | rw [inB_ixA, HP.out] | rw [inB_ixA, HQ.out] | rw [HK.out]))
          go_ret2
          exact ⟨ret_ib E.out.1.symm E.out.2.symm, hb⟩
        | true =>
          have hss := (good_s HG.out).1
          have E := Lib.hid (Prod.mk.inj (HR.out.symm.trans (rWlk_yes HG.out HP.out HQ.out HK.out)))
          have hgA := (good_s HG.out).2.2
          obtain ⟨N, hN⟩ : ∃ N : Nat, s = (N : Int) := ⟨s.toNat, by omega⟩
          have hNs : s.toNat = N := by omega
          rw [hNs] at hgA
          have hif := ixB_iff.1 HP.out
          obtain ⟨F, hF⟩ : ∃ F : Nat, f = (F : Int) := ⟨f.toNat, by omega⟩
          have hFs : f.toNat = F := by omega
          have hFN : F < N := by omega
          have hit := ixB_iff.1 HQ.out
          obtain ⟨T, hT⟩ : ∃ T : Nat, t = (T : Int) := ⟨t.toNat, by omega⟩
          have hTs : t.toNat = T := by omega
          have hTN : T < N := by omega
          have hic := inB_yes HK.out
          obtain ⟨C, hC⟩ : ∃ C : Nat, c = (C : Int) := ⟨c.toNat, by omega⟩
          have hCs : (c - 1).toNat = C - 1 := by omega
          have E1 : Hid (r0 = (wk (arcE l) N F (C - 1) T : Int)) := Lib.hid (by rw [E.out.1, hNs, hFs, hTs, hCs])
          have GA := Lib.hid hgA
          have hN6 := hgA.hi
          have hN1 := hgA.lo
          have hn30 : n ≤ 30 := by rw [← HX.out]; exact hgA.len
          have hC1 : 1 ≤ C ∧ C ≤ 8 := by omega
          rw [hN] at HG HP HQ ⊢
          rw [hF] at HP ⊢
          rw [hT] at HQ ⊢
          rw [hC] at HK ⊢
          clear hgA hNs hss hif hFs hTs hCs hit hic hN hF hT hC
          go_enter Try.func33, Try.ntmps33
          go_wp2_with fail
          refine (specGoodA_any N _ _ _ l _ _ HG hl HX hn).mono ?_
          rintro e w2 ⟨rfl, hb⟩
          have B2 := Lib.hid hb
          clear hb
          have hmk := fun w : World => run_make_row' (P := Try.prog) 24 3 (.int .i64 0) 8 Try.underlying24 info_int rfl .i64 .i64 N (by omega) (by omega) w
          have hFi : (F : Int) < (N : Int) := by omega
          go_upto_region 4 with ((go_at_call 54; refine (l1In_any _ _ _ _).mono ?_; rintro e w' ⟨rfl, rfl⟩; first | rw [inB_ixA, HP.out] | rw [inB_ixA, HQ.out] | rw [HK.out]))
          obtain ⟨w3, hw3⟩ : ∃ W, W = w2.alloc (.cells (madeCells #[.int .i64 0] N) 3) := ⟨_, rfl⟩
          have hb3 : Below w2.heap.size w2 w3 := by rw [hw3]; exact below1 _ _
          have hk3 : Blk w3 w2.heap.size 3 (mL (fun _ => 0) N) := by rw [hw3, made_rep, mL_zero]; exact heap_alloc_new _ _
          rw [← hw3]
          clear hw3
          obtain ⟨g3, hg3⟩ : ∃ g, w2.heap.size = g := ⟨_, rfl⟩
          have S2 : Hid (w.heap.size ≤ g3) := Lib.hid (by rw [← hg3]; exact B2.out.size)
          rw [hg3] at hk3 ⊢
          have B3 := Lib.hid (Below.tr B2.out hb3)
          have K3 := Lib.hid hk3
          have t3 := (hk3.cell F).trans (mL_at (fun _ => 0) hFN)
          have f3 := hk3.frozen F
          clear hg3 hb3 hk3 B2
          go_upto_region 5 with fail
          obtain ⟨w4, hw4⟩ : ∃ W, W = w3.setCell ⟨g3, F, none⟩ (.int .i64 1) := ⟨_, rfl⟩
          have hk4 : Blk w4 g3 3 (mL (wk (arcE l) N F 0) N) := by
            have := K3.out.set F (.int .i64 ((1 : Nat) : Int))
            rw [mL_set _ _ hFN] at this
            rw [hw4, wk_zero]
            exact this
          have hb4 : Below w.heap.size w w4 := by rw [hw4]; exact B3.out.setCell S2.out _
          rw [← hw4]
          have K4 := Lib.hid hk4
          have B4 := Lib.hid hb4
          clear hw4 hk4 hb4 t3 f3 K3 B3
          go_wp2_with fail
          go_loopw [12, 13] (fun mv kv wr => ∃ k p g : Nat, k = p + 1 ∧ k ≤ C ∧ kv = .int .i64 k ∧ mv = .slice (some ⟨g, 0, none⟩) N N ∧ w.heap.size ≤ g ∧ Blk wr g 3 (mL (wk (arcE l) N F p) N) ∧ Below w.heap.size w wr) (fun _ kv _ => C - (intOf kv).toNat)
          case atStart => exact ⟨1, 0, g3, rfl, hC1.1, rfl, rfl, S2.out, K4.out, B4.out⟩
          case round =>
            obtain ⟨k, p, g, hkp, hkC, rfl, rfl, hgs, hbk, hb⟩ := hrel
            have K1 := Lib.hid hbk
            have B1 := Lib.hid hb
            have HKP := Lib.hid hkp
            have GS := Lib.hid hgs
            clear hbk hb hkp hgs S2
            by_cases hlt : k < C
            · go_upto_region 9 with fail
              obtain ⟨w5, hw5⟩ : ∃ W, W = wr.alloc (.cells (madeCells #[.int .i64 0] N) 3) := ⟨_, rfl⟩
              have hb5 : Below wr.heap.size wr w5 := by rw [hw5]; exact below1 _ _
              have hk5 : Blk w5 wr.heap.size 3 (mL (wq l N F p []) N) := by rw [hw5, made_rep, show mL (wq l N F p []) N = mL (fun _ => 0) N from rfl, mL_zero]; exact heap_alloc_new _ _
              rw [← hw5]
              clear hw5
              obtain ⟨G, hG⟩ : ∃ G, wr.heap.size = G := ⟨_, rfl⟩
              have S5 : Hid (w.heap.size ≤ G ∧ g < G) := Lib.hid (by rw [← hG]; exact ⟨B1.out.size, K1.out.lt⟩)
              rw [hG] at hk5 ⊢
              have B5 := Lib.hid (Below.tr B1.out hb5)
              have K5 := Lib.hid (K1.out.below hb5)
              have Q5 := Lib.hid hk5
              clear hG hb5 hk5 B1 K1
              go_wp2_with fail
              go_loopw [54] (fun iv wq' => ∃ j : Nat, j ≤ n ∧ iv = .int .i64 j ∧ Blk wq' g 3 (mL (wk (arcE l) N F p) N) ∧ Blk wq' G 3 (mL (wq l N F p (l.take j)) N) ∧ Below w.heap.size w wq') (fun iv _ => n - (intOf iv).toNat)
              case atStart => exact ⟨0, Nat.zero_le _, rfl, K5.out, by rw [List.take_zero]; exact Q5.out, B5.out⟩
              case round =>
                obtain ⟨j, hj, rfl, hk6, hq6, hb6⟩ := hrel
                have K6 := Lib.hid hk6
                have Q6 := Lib.hid hq6
                have B6 := Lib.hid hb6
                clear hk6 hq6 hb6 K5 Q5 B5
                by_cases hlj : j < n
                · obtain ⟨x, hx⟩ : ∃ x, l[j]? = some x := ⟨_, List.getElem?_eq_getElem (by have := HX.out; omega)⟩
                  obtain ⟨a, b, rfl, ha, hb, _⟩ := GA.out.nat (List.mem_of_getElem? hx)
                  obtain ⟨bb, off, rfl, hbl, e0, e1⟩ := (hl.out.below B6.out) j _ hx
                  simp only at e0 e1
                  go_upto_region 12 with fail
                  obtain ⟨w7, hw7⟩ : ∃ W, W = wr.alloc (.cells #[.int .i64 (a : Int), .int .i64 (b : Int)] 36) := ⟨_, rfl⟩
                  have hbb : Below wr.heap.size wr w7 := by rw [hw7]; exact below1 _ _
                  have hnb : Blk w7 wr.heap.size 36 [.int .i64 (a : Int), .int .i64 (b : Int)] := by rw [hw7]; exact heap_alloc_new _ _
                  rw [← hw7]
                  clear hw7 e0 e1 hbl
                  have n0 : w7.cell? ⟨wr.heap.size, 0, none⟩ = some (.int .i64 (a : Int)) := hnb.cell 0
                  have n1 : w7.cell? ⟨wr.heap.size, 1, none⟩ = some (.int .i64 (b : Int)) := hnb.cell 1
                  have B7 := Lib.hid (Below.tr B6.out hbb)
                  have K7 := Lib.hid (K6.out.below hbb)
                  have Q7 := Lib.hid (Q6.out.below hbb)
                  obtain ⟨u, hu⟩ : ∃ u, wk (arcE l) N F p a = u := ⟨_, rfl⟩
                  obtain ⟨v, hv⟩ : ∃ v, wq l N F p (l.take j) b = v := ⟨_, rfl⟩
                  have hu7 : u ≤ 1679616 := by rw [← hu]; exact wk_small hN6 (by have := HKP.out; omega)
                  have hv7 : v ≤ 1679616 := by rw [← hv]; exact Nat.le_trans (wq_le GA.out j b) (wk_small hN6 (by have := HKP.out; omega))
                  have p0 := (K7.out.cell a).trans (mL_at (wk (arcE l) N F p) ha)
                  have p2 := (Q7.out.cell b).trans (mL_at (wq l N F p (l.take j)) hb)
                  have f2 := Q7.out.frozen b
                  rw [hu] at p0
                  rw [hv] at p2
                  have HN : Hid ((mL (wq l N F p (l.take j)) N).set b (.int .i64 ((v + u : Nat) : Int)) = mL (wq l N F p (l.take (j + 1))) N) := Lib.hid (by
                    rw [mL_set _ _ hb]
                    unfold mL
                    apply List.map_congr_left
                    intro i _
                    rw [wq_step hx i, hv, hu])
                  clear hx hu hv hbb hnb K6 Q6 B6
                  have hai : (a : Int) < (N : Int) := by omega
                  have hbi : (b : Int) < (N : Int) := by omega
                  go_still_tail 11, (by kernel_rfl)
                  change wpList _ _ _ _ _ w7.drew
                  have p2 : w7.drew.cell? ⟨G, b, none⟩ = some (.int .i64 (v : Int)) := p2
                  have f2 : w7.drew.frozen? ⟨G, b, none⟩ = false := f2
                  have B8 : Hid (Below w.heap.size w w7.drew) := Lib.hid B7.out.drew
                  have K8 : Hid (Blk w7.drew g 3 (mL (wk (arcE l) N F p) N)) := K7
                  have Q8 : Hid (Blk w7.drew G 3 (mL (wq l N F p (l.take j)) N)) := Q7
                  generalize w7.drew = w8 at p2 f2 B8 K8 Q8 ⊢
                  clear n0 n1 p0
                  go_wp2
                  go_roundw
                  case rel =>
                    refine ⟨j + 1, by omega, by go_num, K8.out.far (by have := S5.out; omega) _, ?_, B8.out.setCell S5.out.1 _⟩
                    have := Q8.out.set b (.int .i64 ((v + u : Nat) : Int))
                    rw [HN.out] at this
                    exact_mod_cast this
                  case measure => simp [intOf]; omega
                · obtain rfl : j = n := by omega
                  have e : mL (wq l N F p (l.take j)) N = mL (wk (arcE l) N F (p + 1)) N := by unfold mL; apply List.map_congr_left; intro i _; rw [List.take_of_length_le (by rw [HX.out]; exact Nat.le_refl _), wq_end GA.out]
                  rw [e] at Q6
                  go_wp2
                  go_roundw
                  case rel => exact ⟨k + 1, p + 1, G, by have := HKP.out; omega, by omega, by go_num, rfl, S5.out.1, Q6.out, B6.out⟩
                  case measure => simp [intOf]; omega
            · obtain rfl : k = C := by omega
              have hTi : (T : Int) < (N : Int) := by omega
              have t4 := (K1.out.cell T).trans (mL_at (wk (arcE l) N F p) hTN)
              have E2 : Hid (r0 = (wk (arcE l) N F p T : Int)) := Lib.hid (by rw [E1.out, HKP.out]; rfl)
              go_wp2
              go_ret2
              exact ⟨ret_ib E2.out.symm E.out.2.symm, B1.out⟩
end Go.Proofs.Ytbmmajdacebncaa
