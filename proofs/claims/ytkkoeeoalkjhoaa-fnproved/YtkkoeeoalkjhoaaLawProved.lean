/-
  The walk of the law FnProved.
-/
import Derived.Test.YtkkoeeoalkjhoaaDrawPf
import Derived.Test.YtkkoeeoalkjhoaaLawH
namespace Go.Proofs.Ytkkoeeoalkjhoaa
open Go.ChangeShapes Go.WideShapes Go.ChangeAt Go.RowKit

theorem acc_count {v : Int} {L p : List (List Int)} {at_ : Nat} {ok okc : Bool} {x : Int} (h : CheckR v L p true at_ ok) (hx : CountR v L x okc) : x = 0 := by
  obtain ⟨hg, hp, hc, he, _, _⟩ := h.acc rfl
  have hn := acc_none (goodB_cl hg) (proofB_cl hp) (t := p) (by unfold accB; rw [hc]; exact he)
  obtain ⟨a1, a2⟩ := hx
  rw [hg] at a1
  subst a1
  rw [if_pos rfl] at a2
  rcases Nat.eq_zero_or_pos (countB v.toNat L (2 ^ v.toNat)) with q | q
  · rw [a2, q]; rfl
  · obtain ⟨M, _, hm⟩ := count_models.1 q
    rw [hn M] at hm
    simp at hm
theorem check_good {v : Int} {L p : List (List Int)} {at_ : Nat} {is : Bool} (h : CheckR v L p is at_ true) : goodB v L = true := by
  have := h.1.symm
  rw [Bool.and_eq_true] at this
  exact this.1
theorem sol_count {v : Int} {L : List (List Int)} {s okc : Bool} {M : List Bool} {R : List (List Int)} {x : Int} (h : SolR v L s M R true) (hx : CountR v L x okc) : okc = true ∧ (x == 0) = !s := by
  obtain ⟨hg, _, hs1, hs2⟩ := h.sem
  have hv := goodB_v hg
  obtain ⟨V, rfl⟩ : ∃ V : Nat, v = V := ⟨v.toNat, by omega⟩
  obtain ⟨a1, a2⟩ := hx
  rw [hg] at a1
  subst a1
  rw [if_pos rfl, Int.toNat_natCast] at a2
  refine ⟨rfl, ?_⟩
  cases s
  · rcases Nat.eq_zero_or_pos (countB V L (2 ^ V)) with q | q
    · rw [a2, q]; rfl
    · obtain ⟨M', _, hm⟩ := count_models.1 q
      rw [hs2 rfl M'] at hm
      simp at hm
  · obtain ⟨hl, hm⟩ := hs1 rfl
    have : 0 < countB V L (2 ^ V) := count_models.2 ⟨M, by omega, hm⟩
    rw [a2]
    simp
    omega
theorem PfR.lens {v : Int} {L : List (List Int)} {r : List (List Int)} {ok : Bool} (h : PfR v L r ok) : r.length ≤ 1000 ∧ tot r ≤ 10000 := by
  have := h.small
  omega
set_option maxRecDepth 100000 in
set_option maxHeartbeats 64000000 in
theorem lawProved (a0 : Option Addr) (len0 cap0 : Nat) (a1 : Option Addr) (len1 cap1 : Nat) (w : World) (h0 : Hid (Bytes w a0 len0)) (h1 : Hid (Bytes w a1 len1)) :
    Calls Try.prog 3 #[.slice a0 len0 cap0, .slice a1 len1 cap1] w fun e w' => e = .returned (.bool true) ∧ Below w.heap.size w w' := by
  go_enter Try.func3, Try.ntmps3
  go_wp2_with fail
  · go_ret
    exact ⟨rfl, Below.refl _ _⟩
  refine (drawCheck_any a0 len0 cap0 _ h0).mono ?_
  rintro e w1 ⟨v, L, p, A, B, c1, c2, vs, rfl, hv, hL, hT, hp, hpt, ho, hlp, hnp, hb⟩
  have L1 := Lib.hid ho.lies
  have N1 := Lib.hid ho.lnil
  have P1 := Lib.hid hlp
  have B1 := Lib.hid hb
  have HN := Lib.hid (own_nilA' ho.outer)
  have Y1 := Lib.hid (h1.out.below hb)
  clear ho hlp hnp hb h0 h1
  obtain ⟨is, at_, ok, hck⟩ := checkR_any v L p
  have hatp := hck.le
  have CK := Lib.hid hck
  clear hck
  obtain ⟨n, hn⟩ : ∃ n, L.length = n := ⟨_, rfl⟩
  obtain ⟨m, hm⟩ : ∃ n, p.length = n := ⟨_, rfl⟩
  rw [hn] at hL HN ⊢
  rw [hm] at hp hatp ⊢
  have HX := Lib.hid hn
  have HY := Lib.hid hm
  clear hn hm
  go_wp2_with fail
  refine (implCheck_any v _ _ _ _ _ _ L p _ is at_ ok CK L1 P1 HX HY HN (by omega) (by omega)).mono ?_
  rintro e w2 ⟨rfl, hb2⟩
  have L2 := Lib.hid (L1.out.below hb2)
  have N2 := Lib.hid (N1.out.below L1.out hb2)
  have P2 := Lib.hid (P1.out.below hb2)
  have Y2 := Lib.hid (Y1.out.below hb2)
  have B2 := Lib.hid (Below.tr B1.out hb2)
  clear hb2 L1 N1 P1 Y1 B1
  go_wp2_with fail
  refine (specCheck_any v _ _ _ _ _ _ L p _ is at_ ok CK L2 N2 P2 HX HY (by omega) (by omega)).mono ?_
  rintro e w3 ⟨rfl, hb3⟩
  have L3 := Lib.hid (L2.out.below hb3)
  have Y3 := Lib.hid (Y2.out.below hb3)
  have B3 := Lib.hid (Below.tr B2.out hb3)
  clear hb3 L2 N2 P2 Y2 B2
  have e1 : (ok != ok) = false := by simp
  have e2 : (is != is) = false := by simp
  have e3 : ((at_ : Int) != (at_ : Int)) = false := by simp
  have e4 : decide ((at_ : Int) > (m : Int)) = false := by simp; omega
  cases ok
  · go_wp2_with fail
    refine (drawRefuteBy_any a1 len1 cap1 _ Y3).mono ?_
    rintro e wa ⟨va, La, Aa, ca, vsa, rfl, hva, hLa, hTa, hoa, hba⟩
    have LA := Lib.hid hoa.lies
    have NA := Lib.hid hoa.lnil
    have HNA := Lib.hid (own_nilA' hoa.outer)
    have BA := Lib.hid (Below.tr B3.out hba)
    clear hoa hba
    obtain ⟨s, M, R, ok2, hso⟩ := solR_any va La
    have SO := Lib.hid hso
    obtain ⟨rr, hrr⟩ : ∃ b, (ok2 && !s) = b := ⟨_, rfl⟩
    obtain ⟨Q, hQ⟩ : ∃ q, (if (ok2 && !s) = true then R else []) = q := ⟨_, rfl⟩
    have hpf := PfR.of hso
    rw [hQ, hrr] at hpf
    have hQl := hpf.lens.1
    have hQt := hpf.lens.2
    have PF := Lib.hid hpf
    have RF : Hid (RefR va La rr ok2) := Lib.hid ⟨s, M, R, hso, hrr.symm⟩
    have ER := Lib.hid hrr
    clear hso hQ hpf hrr
    obtain ⟨na, hna⟩ : ∃ n, La.length = n := ⟨_, rfl⟩
    obtain ⟨nq, hnq⟩ : ∃ n, Q.length = n := ⟨_, rfl⟩
    rw [hna] at hLa HNA ⊢
    rw [hnq] at hQl
    have HA := Lib.hid hna
    have HQ := Lib.hid hnq
    clear hna hnq
    go_wp2_with fail
    refine (implRef_any va _ _ _ La _ rr ok2 RF LA HA HNA (by omega)).mono ?_
    rintro e wb ⟨rfl, hbb⟩
    have LB := Lib.hid (LA.out.below hbb)
    have NB := Lib.hid (NA.out.below LA.out hbb)
    have BB := Lib.hid (Below.tr BA.out hbb)
    clear hbb LA NA BA
    go_wp2_with fail
    refine (specRef_any va _ _ _ La _ rr ok2 RF LB NB HA (by omega)).mono ?_
    rintro e wc ⟨rfl, hbc⟩
    have LC := Lib.hid (LB.out.below hbc)
    have NC := Lib.hid (NB.out.below LB.out hbc)
    have BC := Lib.hid (Below.tr BB.out hbc)
    clear hbc LB NB BB
    go_wp2_with fail
    refine (implPf_any va _ _ _ La _ Q rr PF LC HA HNA (by omega)).mono ?_
    rintro e wd ⟨Ad, cd, vsd, rfl, hod, hbd⟩
    have LD := Lib.hid (LC.out.below hbd)
    have ND := Lib.hid (NC.out.below LC.out hbd)
    have QD := Lib.hid hod.lies
    have BD := Lib.hid (Below.tr BC.out hbd)
    clear hbd hod LC NC BC
    rw [HQ.out]
    go_wp2_with fail
    refine (specPf_any va _ _ _ La _ Q rr PF LD ND HA (by omega)).mono ?_
    rintro e we ⟨Ae, ce, vse, rfl, hoe, hbe⟩
    have LE := Lib.hid (LD.out.below hbe)
    have QE := Lib.hid (QD.out.below hbe)
    have QF := Lib.hid hoe.lies
    have BE := Lib.hid (Below.tr BD.out hbe)
    clear hbe hoe LD ND QD BD
    rw [HQ.out]
    have f1 : (ok2 != ok2) = false := by simp
    have f2 : (rr != rr) = false := by simp
    have f3 : (rr == rr) = true := by simp
    obtain ⟨sz, sok, hsz⟩ : ∃ r0 r1, SizeR Q r0 r1 := ⟨_, _, rfl, rfl⟩
    have SZ := Lib.hid hsz
    clear hsz
    have f4 : (sok == sok) = true := by simp
    have f5 : ((sz : Int) == (sz : Int)) = true := by simp
    go_wp2_with fail
    refine (sameRows_same _ _ _ _ _ Q _ QE QF HQ (by omega) (Lib.hid (by omega))).mono ?_
    rintro e wf ⟨rfl, hbf⟩
    have LF := Lib.hid (LE.out.below hbf)
    have QG := Lib.hid (QE.out.below hbf)
    have BF := Lib.hid (Below.tr BE.out hbf)
    clear hbf LE QE QF BE
    cases ok2
    · go_wp2_with fail
      refine (implSize_any _ _ _ Q _ sz sok SZ QG HQ (by omega)).mono ?_
      rintro e wg ⟨rfl, hbg⟩
      have QH := Lib.hid (QG.out.below hbg)
      have BG := Lib.hid (Below.tr BF.out hbg)
      clear hbg QG BF
      go_wp2_with fail
      refine (specSize_any _ _ _ Q _ sz sok SZ QH HQ (by omega)).mono ?_
      rintro e wh ⟨rfl, hbh⟩
      have BH := Lib.hid (Below.tr BG.out hbh)
      clear hbh QH BG
      go_wp2
      go_ret
      exact ⟨rfl, BH.out⟩
    · obtain ⟨xc, okc, hct⟩ : ∃ x o, CountR va La x o := ⟨_, _, rfl, rfl⟩
      have SC := sol_count SO.out hct
      have hx0 : (xc == 0) = rr := by rw [SC.2, ← ER.out]; rfl
      obtain rfl := SC.1
      have CT := Lib.hid hct
      clear hct SC
      go_wp2_with fail
      refine (implCount_any va _ _ _ La _ xc true CT LF HA (by omega)).mono ?_
      rintro e wi ⟨rfl, hbi⟩
      have QI := Lib.hid (QG.out.below hbi)
      have BI := Lib.hid (Below.tr BF.out hbi)
      clear hbi QG BF LF
      go_wp2_with fail
      refine (implSize_any _ _ _ Q _ sz sok SZ QI HQ (by omega)).mono ?_
      rintro e wg ⟨rfl, hbg⟩
      have QH := Lib.hid (QI.out.below hbg)
      have BG := Lib.hid (Below.tr BI.out hbg)
      clear hbg QI BI
      go_wp2_with fail
      refine (specSize_any _ _ _ Q _ sz sok SZ QH HQ (by omega)).mono ?_
      rintro e wh ⟨rfl, hbh⟩
      have BH := Lib.hid (Below.tr BG.out hbh)
      clear hbh QH BG
      go_wp2
      go_ret
      exact ⟨rfl, BH.out⟩
  · obtain ⟨xd, okd, hcd⟩ : ∃ x o, CountR v L x o := ⟨_, _, rfl, rfl⟩
    have hok : okd = true := by rw [hcd.1]; exact check_good CK.out
    subst hok
    have CD := Lib.hid hcd
    have hx : is = true → xd = 0 := fun e => by subst e; exact acc_count CK.out hcd
    clear hcd
    have hd : (is = true → decide (xd > 0) = false) := fun e => by rw [hx e]; rfl
    clear hx
    cases is
    · go_wp2_with fail
      refine (implCount_any v _ _ _ L _ xd true CD L3 HX (by omega)).mono ?_
      rintro e w4 ⟨rfl, hb4⟩
      have Y4 := Lib.hid (Y3.out.below hb4)
      have B4 := Lib.hid (Below.tr B3.out hb4)
      clear hb4 L3 Y3 B3 hd
      go_wp2_with fail
      refine (drawRefuteBy_any a1 len1 cap1 _ Y4).mono ?_
      rintro e wa ⟨va, La, Aa, ca, vsa, rfl, hva, hLa, hTa, hoa, hba⟩
      have LA := Lib.hid hoa.lies
      have NA := Lib.hid hoa.lnil
      have HNA := Lib.hid (own_nilA' hoa.outer)
      have BA := Lib.hid (Below.tr B4.out hba)
      clear hoa hba
      obtain ⟨s, M, R, ok2, hso⟩ := solR_any va La
      have SO := Lib.hid hso
      obtain ⟨rr, hrr⟩ : ∃ b, (ok2 && !s) = b := ⟨_, rfl⟩
      obtain ⟨Q, hQ⟩ : ∃ q, (if (ok2 && !s) = true then R else []) = q := ⟨_, rfl⟩
      have hpf := PfR.of hso
      rw [hQ, hrr] at hpf
      have hQl := hpf.lens.1
      have hQt := hpf.lens.2
      have PF := Lib.hid hpf
      have RF : Hid (RefR va La rr ok2) := Lib.hid ⟨s, M, R, hso, hrr.symm⟩
      have ER := Lib.hid hrr
      clear hso hQ hpf hrr
      obtain ⟨na, hna⟩ : ∃ n, La.length = n := ⟨_, rfl⟩
      obtain ⟨nq, hnq⟩ : ∃ n, Q.length = n := ⟨_, rfl⟩
      rw [hna] at hLa HNA ⊢
      rw [hnq] at hQl
      have HA := Lib.hid hna
      have HQ := Lib.hid hnq
      clear hna hnq
      go_wp2_with fail
      refine (implRef_any va _ _ _ La _ rr ok2 RF LA HA HNA (by omega)).mono ?_
      rintro e wb ⟨rfl, hbb⟩
      have LB := Lib.hid (LA.out.below hbb)
      have NB := Lib.hid (NA.out.below LA.out hbb)
      have BB := Lib.hid (Below.tr BA.out hbb)
      clear hbb LA NA BA
      go_wp2_with fail
      refine (specRef_any va _ _ _ La _ rr ok2 RF LB NB HA (by omega)).mono ?_
      rintro e wc ⟨rfl, hbc⟩
      have LC := Lib.hid (LB.out.below hbc)
      have NC := Lib.hid (NB.out.below LB.out hbc)
      have BC := Lib.hid (Below.tr BB.out hbc)
      clear hbc LB NB BB
      go_wp2_with fail
      refine (implPf_any va _ _ _ La _ Q rr PF LC HA HNA (by omega)).mono ?_
      rintro e wd ⟨Ad, cd, vsd, rfl, hod, hbd⟩
      have LD := Lib.hid (LC.out.below hbd)
      have ND := Lib.hid (NC.out.below LC.out hbd)
      have QD := Lib.hid hod.lies
      have BD := Lib.hid (Below.tr BC.out hbd)
      clear hbd hod LC NC BC
      rw [HQ.out]
      go_wp2_with fail
      refine (specPf_any va _ _ _ La _ Q rr PF LD ND HA (by omega)).mono ?_
      rintro e we ⟨Ae, ce, vse, rfl, hoe, hbe⟩
      have LE := Lib.hid (LD.out.below hbe)
      have QE := Lib.hid (QD.out.below hbe)
      have QF := Lib.hid hoe.lies
      have BE := Lib.hid (Below.tr BD.out hbe)
      clear hbe hoe LD ND QD BD
      rw [HQ.out]
      have f1 : (ok2 != ok2) = false := by simp
      have f2 : (rr != rr) = false := by simp
      have f3 : (rr == rr) = true := by simp
      obtain ⟨sz, sok, hsz⟩ : ∃ r0 r1, SizeR Q r0 r1 := ⟨_, _, rfl, rfl⟩
      have SZ := Lib.hid hsz
      clear hsz
      have f4 : (sok == sok) = true := by simp
      have f5 : ((sz : Int) == (sz : Int)) = true := by simp
      go_wp2_with fail
      refine (sameRows_same _ _ _ _ _ Q _ QE QF HQ (by omega) (Lib.hid (by omega))).mono ?_
      rintro e wf ⟨rfl, hbf⟩
      have LF := Lib.hid (LE.out.below hbf)
      have QG := Lib.hid (QE.out.below hbf)
      have BF := Lib.hid (Below.tr BE.out hbf)
      clear hbf LE QE QF BE
      cases ok2
      · go_wp2_with fail
        refine (implSize_any _ _ _ Q _ sz sok SZ QG HQ (by omega)).mono ?_
        rintro e wg ⟨rfl, hbg⟩
        have QH := Lib.hid (QG.out.below hbg)
        have BG := Lib.hid (Below.tr BF.out hbg)
        clear hbg QG BF
        go_wp2_with fail
        refine (specSize_any _ _ _ Q _ sz sok SZ QH HQ (by omega)).mono ?_
        rintro e wh ⟨rfl, hbh⟩
        have BH := Lib.hid (Below.tr BG.out hbh)
        clear hbh QH BG
        go_wp2
        go_ret
        exact ⟨rfl, BH.out⟩
      · obtain ⟨xc, okc, hct⟩ : ∃ x o, CountR va La x o := ⟨_, _, rfl, rfl⟩
        have SC := sol_count SO.out hct
        have hx0 : (xc == 0) = rr := by rw [SC.2, ← ER.out]; rfl
        obtain rfl := SC.1
        have CT := Lib.hid hct
        clear hct SC
        go_wp2_with fail
        refine (implCount_any va _ _ _ La _ xc true CT LF HA (by omega)).mono ?_
        rintro e wi ⟨rfl, hbi⟩
        have QI := Lib.hid (QG.out.below hbi)
        have BI := Lib.hid (Below.tr BF.out hbi)
        clear hbi QG BF LF
        go_wp2_with fail
        refine (implSize_any _ _ _ Q _ sz sok SZ QI HQ (by omega)).mono ?_
        rintro e wg ⟨rfl, hbg⟩
        have QH := Lib.hid (QI.out.below hbg)
        have BG := Lib.hid (Below.tr BI.out hbg)
        clear hbg QI BI
        go_wp2_with fail
        refine (specSize_any _ _ _ Q _ sz sok SZ QH HQ (by omega)).mono ?_
        rintro e wh ⟨rfl, hbh⟩
        have BH := Lib.hid (Below.tr BG.out hbh)
        clear hbh QH BG
        go_wp2
        go_ret
        exact ⟨rfl, BH.out⟩
    · have hd' : decide (xd > 0) = false := hd rfl
      clear hd
      go_wp2_with fail
      refine (implCount_any v _ _ _ L _ xd true CD L3 HX (by omega)).mono ?_
      rintro e w4 ⟨rfl, hb4⟩
      have Y4 := Lib.hid (Y3.out.below hb4)
      have B4 := Lib.hid (Below.tr B3.out hb4)
      clear hb4 L3 Y3 B3
      go_wp2_with fail
      refine (drawRefuteBy_any a1 len1 cap1 _ Y4).mono ?_
      rintro e wa ⟨va, La, Aa, ca, vsa, rfl, hva, hLa, hTa, hoa, hba⟩
      have LA := Lib.hid hoa.lies
      have NA := Lib.hid hoa.lnil
      have HNA := Lib.hid (own_nilA' hoa.outer)
      have BA := Lib.hid (Below.tr B4.out hba)
      clear hoa hba
      obtain ⟨s, M, R, ok2, hso⟩ := solR_any va La
      have SO := Lib.hid hso
      obtain ⟨rr, hrr⟩ : ∃ b, (ok2 && !s) = b := ⟨_, rfl⟩
      obtain ⟨Q, hQ⟩ : ∃ q, (if (ok2 && !s) = true then R else []) = q := ⟨_, rfl⟩
      have hpf := PfR.of hso
      rw [hQ, hrr] at hpf
      have hQl := hpf.lens.1
      have hQt := hpf.lens.2
      have PF := Lib.hid hpf
      have RF : Hid (RefR va La rr ok2) := Lib.hid ⟨s, M, R, hso, hrr.symm⟩
      have ER := Lib.hid hrr
      clear hso hQ hpf hrr
      obtain ⟨na, hna⟩ : ∃ n, La.length = n := ⟨_, rfl⟩
      obtain ⟨nq, hnq⟩ : ∃ n, Q.length = n := ⟨_, rfl⟩
      rw [hna] at hLa HNA ⊢
      rw [hnq] at hQl
      have HA := Lib.hid hna
      have HQ := Lib.hid hnq
      clear hna hnq
      go_wp2_with fail
      refine (implRef_any va _ _ _ La _ rr ok2 RF LA HA HNA (by omega)).mono ?_
      rintro e wb ⟨rfl, hbb⟩
      have LB := Lib.hid (LA.out.below hbb)
      have NB := Lib.hid (NA.out.below LA.out hbb)
      have BB := Lib.hid (Below.tr BA.out hbb)
      clear hbb LA NA BA
      go_wp2_with fail
      refine (specRef_any va _ _ _ La _ rr ok2 RF LB NB HA (by omega)).mono ?_
      rintro e wc ⟨rfl, hbc⟩
      have LC := Lib.hid (LB.out.below hbc)
      have NC := Lib.hid (NB.out.below LB.out hbc)
      have BC := Lib.hid (Below.tr BB.out hbc)
      clear hbc LB NB BB
      go_wp2_with fail
      refine (implPf_any va _ _ _ La _ Q rr PF LC HA HNA (by omega)).mono ?_
      rintro e wd ⟨Ad, cd, vsd, rfl, hod, hbd⟩
      have LD := Lib.hid (LC.out.below hbd)
      have ND := Lib.hid (NC.out.below LC.out hbd)
      have QD := Lib.hid hod.lies
      have BD := Lib.hid (Below.tr BC.out hbd)
      clear hbd hod LC NC BC
      rw [HQ.out]
      go_wp2_with fail
      refine (specPf_any va _ _ _ La _ Q rr PF LD ND HA (by omega)).mono ?_
      rintro e we ⟨Ae, ce, vse, rfl, hoe, hbe⟩
      have LE := Lib.hid (LD.out.below hbe)
      have QE := Lib.hid (QD.out.below hbe)
      have QF := Lib.hid hoe.lies
      have BE := Lib.hid (Below.tr BD.out hbe)
      clear hbe hoe LD ND QD BD
      rw [HQ.out]
      have f1 : (ok2 != ok2) = false := by simp
      have f2 : (rr != rr) = false := by simp
      have f3 : (rr == rr) = true := by simp
      obtain ⟨sz, sok, hsz⟩ : ∃ r0 r1, SizeR Q r0 r1 := ⟨_, _, rfl, rfl⟩
      have SZ := Lib.hid hsz
      clear hsz
      have f4 : (sok == sok) = true := by simp
      have f5 : ((sz : Int) == (sz : Int)) = true := by simp
      go_wp2_with fail
      refine (sameRows_same _ _ _ _ _ Q _ QE QF HQ (by omega) (Lib.hid (by omega))).mono ?_
      rintro e wf ⟨rfl, hbf⟩
      have LF := Lib.hid (LE.out.below hbf)
      have QG := Lib.hid (QE.out.below hbf)
      have BF := Lib.hid (Below.tr BE.out hbf)
      clear hbf LE QE QF BE
      cases ok2
      · go_wp2_with fail
        refine (implSize_any _ _ _ Q _ sz sok SZ QG HQ (by omega)).mono ?_
        rintro e wg ⟨rfl, hbg⟩
        have QH := Lib.hid (QG.out.below hbg)
        have BG := Lib.hid (Below.tr BF.out hbg)
        clear hbg QG BF
        go_wp2_with fail
        refine (specSize_any _ _ _ Q _ sz sok SZ QH HQ (by omega)).mono ?_
        rintro e wh ⟨rfl, hbh⟩
        have BH := Lib.hid (Below.tr BG.out hbh)
        clear hbh QH BG
        go_wp2
        go_ret
        exact ⟨rfl, BH.out⟩
      · obtain ⟨xc, okc, hct⟩ : ∃ x o, CountR va La x o := ⟨_, _, rfl, rfl⟩
        have SC := sol_count SO.out hct
        have hx0 : (xc == 0) = rr := by rw [SC.2, ← ER.out]; rfl
        obtain rfl := SC.1
        have CT := Lib.hid hct
        clear hct SC
        go_wp2_with fail
        refine (implCount_any va _ _ _ La _ xc true CT LF HA (by omega)).mono ?_
        rintro e wi ⟨rfl, hbi⟩
        have QI := Lib.hid (QG.out.below hbi)
        have BI := Lib.hid (Below.tr BF.out hbi)
        clear hbi QG BF LF
        go_wp2_with fail
        refine (implSize_any _ _ _ Q _ sz sok SZ QI HQ (by omega)).mono ?_
        rintro e wg ⟨rfl, hbg⟩
        have QH := Lib.hid (QI.out.below hbg)
        have BG := Lib.hid (Below.tr BI.out hbg)
        clear hbg QI BI
        go_wp2_with fail
        refine (specSize_any _ _ _ Q _ sz sok SZ QH HQ (by omega)).mono ?_
        rintro e wh ⟨rfl, hbh⟩
        have BH := Lib.hid (Below.tr BG.out hbh)
        clear hbh QH BG
        go_wp2
        go_ret
        exact ⟨rfl, BH.out⟩
end Go.Proofs.Ytkkoeeoalkjhoaa
