/-
  The walk of the law FnCounted.
-/
import Derived.Test.YtilnegmjnbffhaaSpTwo
import Derived.Test.YtilnegmjnbffhaaDw11
namespace Go.Proofs.Ytilnegmjnbffhaa
open Go.ChangeShapes Go.WideShapes Go.ChangeAt Go.RowKit

theorem ends_len (xs : List Stp) (x : Int) : (endsR xs x).length ≤ xs.length := by
  unfold endsR endsL
  rw [castL_len]
  have h1 := List.length_filter_le (fun k => decide (kkA (ktOf xs) k = 11)) (reachL (edg (ktOf xs)) (ktOf xs).length x.toNat)
  have h2 := reach_len (edg (ktOf xs)) (ktOf xs).length x.toNat
  rw [castL_len, ktOf_len] at h2
  rw [ktOf_len] at h1 ⊢
  omega
set_option maxRecDepth 100000 in
set_option maxHeartbeats 16000000 in
theorem lawCtd (a0 : Option Addr) (len0 cap0 : Nat) (a1 : Option Addr) (len1 cap1 : Nat) (w : World) (h0 : Hid (Bytes w a0 len0)) (h1 : Hid (Bytes w a1 len1)) :
    Calls Try.prog 3 #[.slice a0 len0 cap0, .slice a1 len1 cap1] w fun e w' => e = .returned (.bool true) ∧ Below w.heap.size w w' := by
  go_enter Try.func3, Try.ntmps3
  go_wp2_with fail
  · go_ret
    exact ⟨rfl, Below.refl _ _⟩
  refine (drawWay_any a0 len0 cap0 _ h0).mono ?_
  rintro e w1 ⟨xs, A, c1, at_, rfl, hlx, -, ho, hb⟩
  have LX := Lib.hid (own_liesN ho rfl)
  obtain ⟨n, hn⟩ : ∃ n, xs.length = n := ⟨_, rfl⟩
  rw [hn] at hlx ⊢
  have HN := Lib.hid hn
  have hn20 : n ≤ 20 := hlx.2
  clear ho hn hlx
  have BB := Lib.hid hb
  clear hb
  by_cases hT : There xs n at_
  · skip
    have GX := Lib.hid hT.1
    obtain ⟨f, rfl⟩ := Int.eq_ofNat_of_zero_le hT.2.1
    have hfn : f < n := by have := hT.2.2; omega
    have TH := Lib.hid hT
    clear hT
    have HKL : Hid ((ktOf xs).length = n) := Lib.hid (by rw [ktOf_len]; exact HN.out)
    have HE := Lib.hid (edg_fwd (good_kt GX.out))
    obtain ⟨L, hL⟩ : ∃ L, aheadL (edg (ktOf xs)) n f = L := ⟨_, rfl⟩
    have HL := Lib.hid hL
    have eL : aheadR xs f = castL L := by unfold aheadR; rw [HN.out, Int.toNat_natCast, hL]
    have EL := Lib.hid eL
    have hll : L.length ≤ 20 := by have := ahead_len (edg (ktOf xs)) n f; rw [castL_len, hL] at this; omega
    have hwb : wc (edg (ktOf xs)) f ≤ 1048576 := Nat.le_trans (wc_le f) (pow20 (by omega))
    obtain ⟨cw0, hcw⟩ : ∃ c : Int, wayR xs f = c := ⟨_, rfl⟩
    have HCW : Hid (cw0 = ((wc (edg (ktOf xs)) f : Nat) : Int)) := Lib.hid (by rw [← hcw]; unfold wayR; rw [Int.toNat_natCast])
    have HSUM : Hid (0 < f → (L.map (wc (edg (ktOf xs)))).sum = wc (edg (ktOf xs)) f) := Lib.hid (fun h => by rw [← hL, ← HKL.out]; exact counted (good_kt GX.out) h (by rw [HKL.out]; exact hfn))
    have HTOT : Hid ((L.map (wc (edg (ktOf xs)))).sum ≤ 1048576) := Lib.hid (by
      rcases Nat.eq_zero_or_pos f with h | h
      · have : L = [] := by
          rw [← hL, List.eq_nil_iff_forall_not_mem]
          intro a ha
          have := HE.out _ _ (mem_ahead.1 ha).2.2
          omega
        rw [this]; simp
      · rw [HSUM.out h]; exact hwb)
    have HPOS : Hid ((decide (0 < cw0) != decide ((f : Int) ∈ reachR xs)) = false) := Lib.hid (by
      have h1 := wc_pos (E := edg (ktOf xs)) f
      have h2 : (f : Int) ∈ reachR xs ↔ rb (edg (ktOf xs)) 0 f = true := by unfold reachR; rw [castL_mem', mem_reach, HN.out]; exact ⟨fun h => h.2, fun h => ⟨hfn, h⟩⟩
      have e : decide (0 < cw0) = decide ((f : Int) ∈ reachR xs) := by rw [decide_eq_decide, h2, ← h1, HCW.out]; omega
      rw [e]; simp)
    have hcb : 0 ≤ cw0 ∧ cw0 ≤ 1048576 := by rw [HCW.out]; omega
    clear hL hwb eL
    have RO : Hid (OneRes (There xs n (f : Int)) (wayR xs (f : Int)) true cw0) := Lib.hid ⟨⟨fun _ => TH.out, fun _ => rfl⟩, (fun e => by cases e), fun _ => hcw.symm⟩
    have RT : Hid (TwoRes (There xs n (f : Int)) (aheadR xs (f : Int)) true (castL L)) := Lib.hid ⟨⟨fun _ => TH.out, fun _ => rfl⟩, (fun e => by cases e), fun _ => EL.out.symm⟩
    have hla : ((castL L) : List Int).length ≤ 30 := by rw [castL_len]; omega
    have hcc : (cw0 != cw0) = false := by simp
    clear hcw
    go_wp2_with fail
    refine (implWay_any _ _ _ (f : Int) xs _ true cw0 RO LX HN (by omega)).mono ?_
    rintro e w2 ⟨rfl, hb⟩
    replace BB := Lib.hid (Below.tr BB.out hb)
    replace LX := Lib.hid (LX.out.below hb)
    clear hb
    go_wp2_with fail
    refine (specWay_any _ _ _ (f : Int) xs _ true cw0 RO LX HN (by omega)).mono ?_
    rintro e w3 ⟨rfl, hb⟩
    replace BB := Lib.hid (Below.tr BB.out hb)
    replace LX := Lib.hid (LX.out.below hb)
    clear hb
    go_wp2_with fail
    refine (implAhead_any _ _ _ (f : Int) xs _ true (castL L) RT LX HN (by omega)).mono ?_
    rintro e w4 ⟨A4, c4, rfl, ho, hb⟩
    have I4 := Lib.hid (own_ilies ho)
    clear ho
    replace BB := Lib.hid (Below.tr BB.out hb)
    replace LX := Lib.hid (LX.out.below hb)
    clear hb
    go_wp2_with fail
    refine (specAhead_any _ _ _ (f : Int) xs _ true (castL L) RT LX HN (by omega)).mono ?_
    rintro e w5 ⟨A5, c5, rfl, ho, hb⟩
    have I5 := Lib.hid (own_ilies ho)
    clear ho
    replace BB := Lib.hid (Below.tr BB.out hb)
    replace LX := Lib.hid (LX.out.below hb)
    replace I4 := Lib.hid (I4.out.below hb)
    clear hb
    go_wp2_with fail
    refine (sameInts_same _ _ _ _ _ (castL L) _ I4 I5 (Lib.hid rfl) (by omega)).mono ?_
    rintro e w6 ⟨rfl, hb⟩
    replace BB := Lib.hid (Below.tr BB.out hb)
    replace LX := Lib.hid (LX.out.below hb)
    replace I4 := Lib.hid (I4.out.below hb)
    replace I5 := Lib.hid (I5.out.below hb)
    clear hb
    go_wp2_with fail
    obtain ⟨y, hy⟩ : ∃ y, (castL L).length = y := ⟨_, rfl⟩
    have HY := Lib.hid (show L.length = y by rw [← castL_len]; exact hy)
    rw [hy]
    clear hy
    clear hla
    have hy20 : y ≤ 20 := by have := HY.out; omega
    obtain ⟨w0c, hw0c⟩ : ∃ x, x = w6 := ⟨_, rfl⟩
    subst hw0c
    go_loopw [15, 89] (fun sv iv wr => ∃ k : Nat, k ≤ y ∧ iv = .int .i64 k ∧ sv = .int .i64 (((L.take k).map (wc (edg (ktOf xs)))).sum : Nat) ∧ Below w0c.heap.size w0c wr) (fun _ i _ => y - (intOf i).toNat)
    case atStart => exact ⟨0, Nat.zero_le _, rfl, rfl, Below.refl _ _⟩
    case round =>
      obtain ⟨k, hk, rfl, rfl, hbb⟩ := hrel
      have C1 := Lib.hid hbb
      clear hbb
      have hsk : ((L.take k).map (wc (edg (ktOf xs)))).sum ≤ 1048576 := Nat.le_trans (sum_le L k) HTOT.out
      by_cases hlt : k < y
      · skip
        obtain ⟨d, hd⟩ : ∃ d, L[k]? = some d := ⟨_, List.getElem?_eq_getElem (by have := HY.out; omega)⟩
        have hdn : d < n := by have h := List.mem_of_getElem? hd; rw [← HL.out] at h; exact (mem_ahead.1 h).1
        obtain ⟨b6, off6, rfl, hb6, hc6⟩ := (I4.out.below C1.out) k _ (castL_at hd)
        have RD : Hid (OneRes (There xs n (d : Int)) (wayR xs (d : Int)) true ((wc (edg (ktOf xs)) d : Nat) : Int)) := Lib.hid ⟨⟨fun _ => ⟨GX.out, by omega, by omega⟩, fun _ => rfl⟩, (fun e => by cases e), fun _ => by unfold wayR; rw [Int.toNat_natCast]⟩
        have HST := Lib.hid (sum_take (f := wc (edg (ktOf xs))) hd)
        have hs2 : ((L.take k).map (wc (edg (ktOf xs)))).sum + wc (edg (ktOf xs)) d ≤ 1048576 := by rw [← HST.out]; exact Nat.le_trans (sum_le L (k + 1)) HTOT.out
        have hk' : (k : Int) < (y : Int) := by omega
        obtain ⟨u, hu⟩ : ∃ u : Int, ((((L.take k).map (wc (edg (ktOf xs)))).sum : Nat) : Int) = u := ⟨_, rfl⟩
        obtain ⟨v, hv⟩ : ∃ v : Int, ((wc (edg (ktOf xs)) d : Nat) : Int) = v := ⟨_, rfl⟩
        have hub : 0 ≤ u ∧ 0 ≤ v ∧ u + v ≤ 1048576 := by omega
        have HU := Lib.hid hu
        have HV := Lib.hid hv
        rw [hv] at RD
        rw [hu]
        clear hd hu hv hs2 hsk
        go_wp2_with fail
        refine (implWay_any _ _ _ (d : Int) xs _ true v RD (Lib.hid (LX.out.below C1.out)) HN (by omega)).mono ?_
        rintro e w9 ⟨rfl, hb⟩
        have C2 := Lib.hid (Below.tr C1.out hb)
        clear hb
        go_wp2
        go_roundw
        case rel => exact ⟨k + 1, by omega, by go_num, by rw [HST.out, ← HU.out, ← HV.out]; push_cast; rfl, C2.out⟩
        case measure => simp [intOf]; omega
      · skip
        obtain rfl : k = y := by omega
        replace BB := Lib.hid (Below.tr BB.out C1.out)
        replace LX := Lib.hid (LX.out.below C1.out)
        replace I4 := Lib.hid (I4.out.below C1.out)
        replace I5 := Lib.hid (I5.out.below C1.out)
        rw [List.take_of_length_le (by rw [HY.out]; exact Nat.le_refl _)] at hsk ⊢
        obtain ⟨u, hu⟩ : ∃ u : Int, (((L.map (wc (edg (ktOf xs)))).sum : Nat) : Int) = u := ⟨_, rfl⟩
        rw [hu]
        have HU := Lib.hid hu
        have RR : Hid (TwoRes (Good xs) (reachR xs) true (reachR xs)) := Lib.hid ⟨⟨fun _ => GX.out, fun _ => rfl⟩, (fun e => by cases e), fun _ => rfl⟩
        have hrr : (reachR xs).length ≤ 30 := by unfold reachR; have := reach_len (eOf xs) xs.length 0; have := HN.out; omega
        clear hsk hu
        go_wp2_with fail
        refine (implReached_any _ _ _ xs _ true (reachR xs) RR LX HN (by omega)).mono ?_
        rintro e w7 ⟨A8, c8, rfl, ho, hb⟩
        have I8 := Lib.hid (own_ilies ho)
        clear ho
        replace BB := Lib.hid (Below.tr BB.out hb)
        replace LX := Lib.hid (LX.out.below hb)
        replace I4 := Lib.hid (I4.out.below hb)
        replace I5 := Lib.hid (I5.out.below hb)
        clear hb
        obtain ⟨bh, hbh⟩ : ∃ b, decide ((f : Int) ∈ reachR xs) = b := ⟨_, rfl⟩
        have HBH := Lib.hid hbh
        have hpos := HPOS.out
        rw [hbh] at hpos
        clear hbh
        obtain ⟨cp, hcp⟩ : ∃ b, decide (0 < cw0) = b := ⟨_, rfl⟩
        rw [hcp] at hpos
        obtain rfl : bh = cp := by cases bh <;> cases cp <;> first | rfl | cases hpos
        have hneq : (bh != bh) = false := by cases bh <;> rfl
        rcases Nat.eq_zero_or_pos f with hf0 | hf0
        · skip
          have hgt : ¬ (0 < f) := by omega
          clear hf0
          go_wp2_with (go_at_call 18; refine (hasL_any _ _ _ (reachR xs) (f : Int) _ I8 (Lib.hid rfl) (by omega)).mono ?_; rintro e w' ⟨rfl, rfl⟩; rw [HBH.out])
          refine (drawLead_any a1 len1 cap1 _ (Lib.hid (h1.out.below BB.out))).mono ?_
          rintro e w8 ⟨ys, AQ, cq, rfl, hly, ho, hb⟩
          have LQ := Lib.hid (own_liesN ho rfl)
          obtain ⟨nq, hnq⟩ : ∃ n, ys.length = n := ⟨_, rfl⟩
          rw [hnq] at hly ⊢
          have HNQ := Lib.hid hnq
          have hq20 : nq ≤ 20 := hly.2
          obtain ⟨bq, lq, hrq⟩ := two_res (Good ys) (leadR ys)
          have RQ := Lib.hid hrq
          have hlq : lq.length ≤ 30 := hrq.len (fun g => by unfold leadR; have := lead_len (ktOf ys); rw [ktOf_len] at this; have := g.1; omega)
          clear ho hnq hrq hly
          replace BB := Lib.hid (Below.tr BB.out hb)
          replace LX := Lib.hid (LX.out.below hb)
          replace I4 := Lib.hid (I4.out.below hb)
          replace I5 := Lib.hid (I5.out.below hb)
          replace I8 := Lib.hid (I8.out.below hb)
          clear hb
          go_wp2_with fail
          refine (implLead_any _ _ _ ys _ bq lq RQ LQ HNQ (by omega)).mono ?_
          rintro e w9 ⟨AR, cr, rfl, ho, hb⟩
          have IR := Lib.hid (own_ilies ho)
          clear ho
          replace BB := Lib.hid (Below.tr BB.out hb)
          replace LX := Lib.hid (LX.out.below hb)
          replace I4 := Lib.hid (I4.out.below hb)
          replace I5 := Lib.hid (I5.out.below hb)
          replace I8 := Lib.hid (I8.out.below hb)
          replace LQ := Lib.hid (LQ.out.below hb)
          clear hb
          go_wp2_with fail
          refine (specLead_any _ _ _ ys _ bq lq RQ LQ HNQ (by omega)).mono ?_
          rintro e w10 ⟨AS, cs, rfl, ho, hb⟩
          have IS := Lib.hid (own_ilies ho)
          clear ho
          replace BB := Lib.hid (Below.tr BB.out hb)
          replace LX := Lib.hid (LX.out.below hb)
          replace I4 := Lib.hid (I4.out.below hb)
          replace I5 := Lib.hid (I5.out.below hb)
          replace I8 := Lib.hid (I8.out.below hb)
          replace LQ := Lib.hid (LQ.out.below hb)
          replace IR := Lib.hid (IR.out.below hb)
          clear hb
          go_wp2_with fail
          refine (drawEnds_any a1 len1 cap1 _ (Lib.hid (h1.out.below BB.out))).mono ?_
          rintro e w11 ⟨zs, AU, cu, x, rfl, hlz, -, ho, hb⟩
          have LU := Lib.hid (own_liesN ho rfl)
          obtain ⟨nu, hnu⟩ : ∃ n, zs.length = n := ⟨_, rfl⟩
          rw [hnu] at hlz ⊢
          have HNU := Lib.hid hnu
          have hu20 : nu ≤ 20 := hlz.2
          obtain ⟨bu, lu, hru⟩ := two_res (There zs nu x) (endsR zs x)
          have RU := Lib.hid hru
          have hlu : lu.length ≤ 30 := hru.len (fun g => by have := ends_len zs x; have := g.1.1; omega)
          clear ho hnu hru hlz
          replace BB := Lib.hid (Below.tr BB.out hb)
          replace LX := Lib.hid (LX.out.below hb)
          replace I4 := Lib.hid (I4.out.below hb)
          replace I5 := Lib.hid (I5.out.below hb)
          replace I8 := Lib.hid (I8.out.below hb)
          replace LQ := Lib.hid (LQ.out.below hb)
          replace IR := Lib.hid (IR.out.below hb)
          replace IS := Lib.hid (IS.out.below hb)
          clear hb
          go_wp2_with fail
          refine (implEnds_any _ _ _ x zs _ bu lu RU LU HNU (by omega)).mono ?_
          rintro e w12 ⟨AV, cv, rfl, ho, hb⟩
          have IV := Lib.hid (own_ilies ho)
          clear ho
          replace BB := Lib.hid (Below.tr BB.out hb)
          replace LX := Lib.hid (LX.out.below hb)
          replace I4 := Lib.hid (I4.out.below hb)
          replace I5 := Lib.hid (I5.out.below hb)
          replace I8 := Lib.hid (I8.out.below hb)
          replace LQ := Lib.hid (LQ.out.below hb)
          replace IR := Lib.hid (IR.out.below hb)
          replace IS := Lib.hid (IS.out.below hb)
          replace LU := Lib.hid (LU.out.below hb)
          clear hb
          go_wp2_with fail
          refine (specEnds_any _ _ _ x zs _ bu lu RU LU HNU (by omega)).mono ?_
          rintro e w13 ⟨AW, cw, rfl, ho, hb⟩
          have IW := Lib.hid (own_ilies ho)
          clear ho
          replace BB := Lib.hid (Below.tr BB.out hb)
          replace LX := Lib.hid (LX.out.below hb)
          replace I4 := Lib.hid (I4.out.below hb)
          replace I5 := Lib.hid (I5.out.below hb)
          replace I8 := Lib.hid (I8.out.below hb)
          replace LQ := Lib.hid (LQ.out.below hb)
          replace IR := Lib.hid (IR.out.below hb)
          replace IS := Lib.hid (IS.out.below hb)
          replace LU := Lib.hid (LU.out.below hb)
          replace IV := Lib.hid (IV.out.below hb)
          clear hb
          have hbq : (bq == bq) = true := by simp
          have hbu : (bu == bu) = true := by simp
          go_wp2_with fail
          refine (sameInts_same _ _ _ _ _ lq _ IR IS (Lib.hid rfl) (by omega)).mono ?_
          rintro e w14 ⟨rfl, hb⟩
          replace BB := Lib.hid (Below.tr BB.out hb)
          replace LX := Lib.hid (LX.out.below hb)
          replace I4 := Lib.hid (I4.out.below hb)
          replace I5 := Lib.hid (I5.out.below hb)
          replace I8 := Lib.hid (I8.out.below hb)
          replace LQ := Lib.hid (LQ.out.below hb)
          replace IR := Lib.hid (IR.out.below hb)
          replace IS := Lib.hid (IS.out.below hb)
          replace LU := Lib.hid (LU.out.below hb)
          replace IV := Lib.hid (IV.out.below hb)
          replace IW := Lib.hid (IW.out.below hb)
          clear hb
          go_wp2_with fail
          refine (sameInts_same _ _ _ _ _ lu _ IV IW (Lib.hid rfl) (by omega)).mono ?_
          rintro e w15 ⟨rfl, hb⟩
          replace BB := Lib.hid (Below.tr BB.out hb)
          replace LX := Lib.hid (LX.out.below hb)
          replace I4 := Lib.hid (I4.out.below hb)
          replace I5 := Lib.hid (I5.out.below hb)
          replace I8 := Lib.hid (I8.out.below hb)
          replace LQ := Lib.hid (LQ.out.below hb)
          replace IR := Lib.hid (IR.out.below hb)
          replace IS := Lib.hid (IS.out.below hb)
          replace LU := Lib.hid (LU.out.below hb)
          replace IV := Lib.hid (IV.out.below hb)
          replace IW := Lib.hid (IW.out.below hb)
          clear hb
          go_wp2
          go_ret
          exact ⟨rfl, BB.out⟩
        · skip
          have hgt : 0 < f := hf0
          have hsu : (u != cw0) = false := by rw [← HU.out, HCW.out, HSUM.out hf0]; simp
          clear hf0
          go_wp2_with (go_at_call 18; refine (hasL_any _ _ _ (reachR xs) (f : Int) _ I8 (Lib.hid rfl) (by omega)).mono ?_; rintro e w' ⟨rfl, rfl⟩; rw [HBH.out])
          refine (drawLead_any a1 len1 cap1 _ (Lib.hid (h1.out.below BB.out))).mono ?_
          rintro e w8 ⟨ys, AQ, cq, rfl, hly, ho, hb⟩
          have LQ := Lib.hid (own_liesN ho rfl)
          obtain ⟨nq, hnq⟩ : ∃ n, ys.length = n := ⟨_, rfl⟩
          rw [hnq] at hly ⊢
          have HNQ := Lib.hid hnq
          have hq20 : nq ≤ 20 := hly.2
          obtain ⟨bq, lq, hrq⟩ := two_res (Good ys) (leadR ys)
          have RQ := Lib.hid hrq
          have hlq : lq.length ≤ 30 := hrq.len (fun g => by unfold leadR; have := lead_len (ktOf ys); rw [ktOf_len] at this; have := g.1; omega)
          clear ho hnq hrq hly
          replace BB := Lib.hid (Below.tr BB.out hb)
          replace LX := Lib.hid (LX.out.below hb)
          replace I4 := Lib.hid (I4.out.below hb)
          replace I5 := Lib.hid (I5.out.below hb)
          replace I8 := Lib.hid (I8.out.below hb)
          clear hb
          go_wp2_with fail
          refine (implLead_any _ _ _ ys _ bq lq RQ LQ HNQ (by omega)).mono ?_
          rintro e w9 ⟨AR, cr, rfl, ho, hb⟩
          have IR := Lib.hid (own_ilies ho)
          clear ho
          replace BB := Lib.hid (Below.tr BB.out hb)
          replace LX := Lib.hid (LX.out.below hb)
          replace I4 := Lib.hid (I4.out.below hb)
          replace I5 := Lib.hid (I5.out.below hb)
          replace I8 := Lib.hid (I8.out.below hb)
          replace LQ := Lib.hid (LQ.out.below hb)
          clear hb
          go_wp2_with fail
          refine (specLead_any _ _ _ ys _ bq lq RQ LQ HNQ (by omega)).mono ?_
          rintro e w10 ⟨AS, cs, rfl, ho, hb⟩
          have IS := Lib.hid (own_ilies ho)
          clear ho
          replace BB := Lib.hid (Below.tr BB.out hb)
          replace LX := Lib.hid (LX.out.below hb)
          replace I4 := Lib.hid (I4.out.below hb)
          replace I5 := Lib.hid (I5.out.below hb)
          replace I8 := Lib.hid (I8.out.below hb)
          replace LQ := Lib.hid (LQ.out.below hb)
          replace IR := Lib.hid (IR.out.below hb)
          clear hb
          go_wp2_with fail
          refine (drawEnds_any a1 len1 cap1 _ (Lib.hid (h1.out.below BB.out))).mono ?_
          rintro e w11 ⟨zs, AU, cu, x, rfl, hlz, -, ho, hb⟩
          have LU := Lib.hid (own_liesN ho rfl)
          obtain ⟨nu, hnu⟩ : ∃ n, zs.length = n := ⟨_, rfl⟩
          rw [hnu] at hlz ⊢
          have HNU := Lib.hid hnu
          have hu20 : nu ≤ 20 := hlz.2
          obtain ⟨bu, lu, hru⟩ := two_res (There zs nu x) (endsR zs x)
          have RU := Lib.hid hru
          have hlu : lu.length ≤ 30 := hru.len (fun g => by have := ends_len zs x; have := g.1.1; omega)
          clear ho hnu hru hlz
          replace BB := Lib.hid (Below.tr BB.out hb)
          replace LX := Lib.hid (LX.out.below hb)
          replace I4 := Lib.hid (I4.out.below hb)
          replace I5 := Lib.hid (I5.out.below hb)
          replace I8 := Lib.hid (I8.out.below hb)
          replace LQ := Lib.hid (LQ.out.below hb)
          replace IR := Lib.hid (IR.out.below hb)
          replace IS := Lib.hid (IS.out.below hb)
          clear hb
          go_wp2_with fail
          refine (implEnds_any _ _ _ x zs _ bu lu RU LU HNU (by omega)).mono ?_
          rintro e w12 ⟨AV, cv, rfl, ho, hb⟩
          have IV := Lib.hid (own_ilies ho)
          clear ho
          replace BB := Lib.hid (Below.tr BB.out hb)
          replace LX := Lib.hid (LX.out.below hb)
          replace I4 := Lib.hid (I4.out.below hb)
          replace I5 := Lib.hid (I5.out.below hb)
          replace I8 := Lib.hid (I8.out.below hb)
          replace LQ := Lib.hid (LQ.out.below hb)
          replace IR := Lib.hid (IR.out.below hb)
          replace IS := Lib.hid (IS.out.below hb)
          replace LU := Lib.hid (LU.out.below hb)
          clear hb
          go_wp2_with fail
          refine (specEnds_any _ _ _ x zs _ bu lu RU LU HNU (by omega)).mono ?_
          rintro e w13 ⟨AW, cw, rfl, ho, hb⟩
          have IW := Lib.hid (own_ilies ho)
          clear ho
          replace BB := Lib.hid (Below.tr BB.out hb)
          replace LX := Lib.hid (LX.out.below hb)
          replace I4 := Lib.hid (I4.out.below hb)
          replace I5 := Lib.hid (I5.out.below hb)
          replace I8 := Lib.hid (I8.out.below hb)
          replace LQ := Lib.hid (LQ.out.below hb)
          replace IR := Lib.hid (IR.out.below hb)
          replace IS := Lib.hid (IS.out.below hb)
          replace LU := Lib.hid (LU.out.below hb)
          replace IV := Lib.hid (IV.out.below hb)
          clear hb
          have hbq : (bq == bq) = true := by simp
          have hbu : (bu == bu) = true := by simp
          go_wp2_with fail
          refine (sameInts_same _ _ _ _ _ lq _ IR IS (Lib.hid rfl) (by omega)).mono ?_
          rintro e w14 ⟨rfl, hb⟩
          replace BB := Lib.hid (Below.tr BB.out hb)
          replace LX := Lib.hid (LX.out.below hb)
          replace I4 := Lib.hid (I4.out.below hb)
          replace I5 := Lib.hid (I5.out.below hb)
          replace I8 := Lib.hid (I8.out.below hb)
          replace LQ := Lib.hid (LQ.out.below hb)
          replace IR := Lib.hid (IR.out.below hb)
          replace IS := Lib.hid (IS.out.below hb)
          replace LU := Lib.hid (LU.out.below hb)
          replace IV := Lib.hid (IV.out.below hb)
          replace IW := Lib.hid (IW.out.below hb)
          clear hb
          go_wp2_with fail
          refine (sameInts_same _ _ _ _ _ lu _ IV IW (Lib.hid rfl) (by omega)).mono ?_
          rintro e w15 ⟨rfl, hb⟩
          replace BB := Lib.hid (Below.tr BB.out hb)
          replace LX := Lib.hid (LX.out.below hb)
          replace I4 := Lib.hid (I4.out.below hb)
          replace I5 := Lib.hid (I5.out.below hb)
          replace I8 := Lib.hid (I8.out.below hb)
          replace LQ := Lib.hid (LQ.out.below hb)
          replace IR := Lib.hid (IR.out.below hb)
          replace IS := Lib.hid (IS.out.below hb)
          replace LU := Lib.hid (LU.out.below hb)
          replace IV := Lib.hid (IV.out.below hb)
          replace IW := Lib.hid (IW.out.below hb)
          clear hb
          go_wp2
          go_ret
          exact ⟨rfl, BB.out⟩
  · skip
    have RO : Hid (OneRes (There xs n at_) (wayR xs at_) false 0) := Lib.hid ⟨⟨(fun e => by cases e), fun h => absurd h hT⟩, fun _ => rfl, (fun e => by cases e)⟩
    have RT : Hid (TwoRes (There xs n at_) (aheadR xs at_) false []) := Lib.hid ⟨⟨(fun e => by cases e), fun h => absurd h hT⟩, fun _ => rfl, (fun e => by cases e)⟩
    have hla : ([] : List Int).length ≤ 30 := by simp
    clear hT
    go_wp2_with fail
    refine (implWay_any _ _ _ at_ xs _ false 0 RO LX HN (by omega)).mono ?_
    rintro e w2 ⟨rfl, hb⟩
    replace BB := Lib.hid (Below.tr BB.out hb)
    replace LX := Lib.hid (LX.out.below hb)
    clear hb
    go_wp2_with fail
    refine (specWay_any _ _ _ at_ xs _ false 0 RO LX HN (by omega)).mono ?_
    rintro e w3 ⟨rfl, hb⟩
    replace BB := Lib.hid (Below.tr BB.out hb)
    replace LX := Lib.hid (LX.out.below hb)
    clear hb
    go_wp2_with fail
    refine (implAhead_any _ _ _ at_ xs _ false [] RT LX HN (by omega)).mono ?_
    rintro e w4 ⟨A4, c4, rfl, ho, hb⟩
    have I4 := Lib.hid (own_ilies ho)
    clear ho
    replace BB := Lib.hid (Below.tr BB.out hb)
    replace LX := Lib.hid (LX.out.below hb)
    clear hb
    go_wp2_with fail
    refine (specAhead_any _ _ _ at_ xs _ false [] RT LX HN (by omega)).mono ?_
    rintro e w5 ⟨A5, c5, rfl, ho, hb⟩
    have I5 := Lib.hid (own_ilies ho)
    clear ho
    replace BB := Lib.hid (Below.tr BB.out hb)
    replace LX := Lib.hid (LX.out.below hb)
    replace I4 := Lib.hid (I4.out.below hb)
    clear hb
    go_wp2_with fail
    refine (sameInts_same _ _ _ _ _ [] _ I4 I5 (Lib.hid rfl) (by omega)).mono ?_
    rintro e w6 ⟨rfl, hb⟩
    replace BB := Lib.hid (Below.tr BB.out hb)
    replace LX := Lib.hid (LX.out.below hb)
    replace I4 := Lib.hid (I4.out.below hb)
    replace I5 := Lib.hid (I5.out.below hb)
    clear hb
    go_wp2_with fail
    refine (drawLead_any a1 len1 cap1 _ (Lib.hid (h1.out.below BB.out))).mono ?_
    rintro e w7 ⟨ys, AQ, cq, rfl, hly, ho, hb⟩
    have LQ := Lib.hid (own_liesN ho rfl)
    obtain ⟨nq, hnq⟩ : ∃ n, ys.length = n := ⟨_, rfl⟩
    rw [hnq] at hly ⊢
    have HNQ := Lib.hid hnq
    have hq20 : nq ≤ 20 := hly.2
    obtain ⟨bq, lq, hrq⟩ := two_res (Good ys) (leadR ys)
    have RQ := Lib.hid hrq
    have hlq : lq.length ≤ 30 := hrq.len (fun g => by unfold leadR; have := lead_len (ktOf ys); rw [ktOf_len] at this; have := g.1; omega)
    clear ho hnq hrq hly
    replace BB := Lib.hid (Below.tr BB.out hb)
    replace LX := Lib.hid (LX.out.below hb)
    replace I4 := Lib.hid (I4.out.below hb)
    replace I5 := Lib.hid (I5.out.below hb)
    clear hb
    go_wp2_with fail
    refine (implLead_any _ _ _ ys _ bq lq RQ LQ HNQ (by omega)).mono ?_
    rintro e w8 ⟨AR, cr, rfl, ho, hb⟩
    have IR := Lib.hid (own_ilies ho)
    clear ho
    replace BB := Lib.hid (Below.tr BB.out hb)
    replace LX := Lib.hid (LX.out.below hb)
    replace I4 := Lib.hid (I4.out.below hb)
    replace I5 := Lib.hid (I5.out.below hb)
    replace LQ := Lib.hid (LQ.out.below hb)
    clear hb
    go_wp2_with fail
    refine (specLead_any _ _ _ ys _ bq lq RQ LQ HNQ (by omega)).mono ?_
    rintro e w9 ⟨AS, cs, rfl, ho, hb⟩
    have IS := Lib.hid (own_ilies ho)
    clear ho
    replace BB := Lib.hid (Below.tr BB.out hb)
    replace LX := Lib.hid (LX.out.below hb)
    replace I4 := Lib.hid (I4.out.below hb)
    replace I5 := Lib.hid (I5.out.below hb)
    replace LQ := Lib.hid (LQ.out.below hb)
    replace IR := Lib.hid (IR.out.below hb)
    clear hb
    go_wp2_with fail
    refine (drawEnds_any a1 len1 cap1 _ (Lib.hid (h1.out.below BB.out))).mono ?_
    rintro e w10 ⟨zs, AU, cu, x, rfl, hlz, -, ho, hb⟩
    have LU := Lib.hid (own_liesN ho rfl)
    obtain ⟨nu, hnu⟩ : ∃ n, zs.length = n := ⟨_, rfl⟩
    rw [hnu] at hlz ⊢
    have HNU := Lib.hid hnu
    have hu20 : nu ≤ 20 := hlz.2
    obtain ⟨bu, lu, hru⟩ := two_res (There zs nu x) (endsR zs x)
    have RU := Lib.hid hru
    have hlu : lu.length ≤ 30 := hru.len (fun g => by have := ends_len zs x; have := g.1.1; omega)
    clear ho hnu hru hlz
    replace BB := Lib.hid (Below.tr BB.out hb)
    replace LX := Lib.hid (LX.out.below hb)
    replace I4 := Lib.hid (I4.out.below hb)
    replace I5 := Lib.hid (I5.out.below hb)
    replace LQ := Lib.hid (LQ.out.below hb)
    replace IR := Lib.hid (IR.out.below hb)
    replace IS := Lib.hid (IS.out.below hb)
    clear hb
    go_wp2_with fail
    refine (implEnds_any _ _ _ x zs _ bu lu RU LU HNU (by omega)).mono ?_
    rintro e w11 ⟨AV, cv, rfl, ho, hb⟩
    have IV := Lib.hid (own_ilies ho)
    clear ho
    replace BB := Lib.hid (Below.tr BB.out hb)
    replace LX := Lib.hid (LX.out.below hb)
    replace I4 := Lib.hid (I4.out.below hb)
    replace I5 := Lib.hid (I5.out.below hb)
    replace LQ := Lib.hid (LQ.out.below hb)
    replace IR := Lib.hid (IR.out.below hb)
    replace IS := Lib.hid (IS.out.below hb)
    replace LU := Lib.hid (LU.out.below hb)
    clear hb
    go_wp2_with fail
    refine (specEnds_any _ _ _ x zs _ bu lu RU LU HNU (by omega)).mono ?_
    rintro e w12 ⟨AW, cw, rfl, ho, hb⟩
    have IW := Lib.hid (own_ilies ho)
    clear ho
    replace BB := Lib.hid (Below.tr BB.out hb)
    replace LX := Lib.hid (LX.out.below hb)
    replace I4 := Lib.hid (I4.out.below hb)
    replace I5 := Lib.hid (I5.out.below hb)
    replace LQ := Lib.hid (LQ.out.below hb)
    replace IR := Lib.hid (IR.out.below hb)
    replace IS := Lib.hid (IS.out.below hb)
    replace LU := Lib.hid (LU.out.below hb)
    replace IV := Lib.hid (IV.out.below hb)
    clear hb
    have hbq : (bq == bq) = true := by simp
    have hbu : (bu == bu) = true := by simp
    go_wp2_with fail
    refine (sameInts_same _ _ _ _ _ lq _ IR IS (Lib.hid rfl) (by omega)).mono ?_
    rintro e w13 ⟨rfl, hb⟩
    replace BB := Lib.hid (Below.tr BB.out hb)
    replace LX := Lib.hid (LX.out.below hb)
    replace I4 := Lib.hid (I4.out.below hb)
    replace I5 := Lib.hid (I5.out.below hb)
    replace LQ := Lib.hid (LQ.out.below hb)
    replace IR := Lib.hid (IR.out.below hb)
    replace IS := Lib.hid (IS.out.below hb)
    replace LU := Lib.hid (LU.out.below hb)
    replace IV := Lib.hid (IV.out.below hb)
    replace IW := Lib.hid (IW.out.below hb)
    clear hb
    go_wp2_with fail
    refine (sameInts_same _ _ _ _ _ lu _ IV IW (Lib.hid rfl) (by omega)).mono ?_
    rintro e w14 ⟨rfl, hb⟩
    replace BB := Lib.hid (Below.tr BB.out hb)
    replace LX := Lib.hid (LX.out.below hb)
    replace I4 := Lib.hid (I4.out.below hb)
    replace I5 := Lib.hid (I5.out.below hb)
    replace LQ := Lib.hid (LQ.out.below hb)
    replace IR := Lib.hid (IR.out.below hb)
    replace IS := Lib.hid (IS.out.below hb)
    replace LU := Lib.hid (LU.out.below hb)
    replace IV := Lib.hid (IV.out.below hb)
    replace IW := Lib.hid (IW.out.below hb)
    clear hb
    go_wp2
    go_ret
    exact ⟨rfl, BB.out⟩
end Go.Proofs.Ytilnegmjnbffhaa
