/-
  The walk of the law FnFollows.
-/
import Derived.Test.YtehedomjfpipkaaDrawFol
import Derived.Test.YtehedomjfpipkaaPutS
namespace Go.Proofs.Ytehedomjfpipkaa
open Go.ChangeShapes Go.WideShapes Go.ChangeAt Go.RowKit

theorem good_snoc {v : Int} {L : List (List Int)} {c : List Int} (h1 : goodB v L = true) (h2 : clauseB v c = true) (h3 : L.length < 60) : goodB v (L ++ [c]) = true := by
  unfold goodB at h1 ⊢
  simp only [Bool.and_eq_true, decide_eq_true_eq, List.length_append, List.all_append] at h1 ⊢
  exact ⟨h1.1, by simp; omega, h1.2.2, by simpa using h2⟩
theorem fol_count {v : Int} {L : List (List Int)} {c : List Int} {f one two : Bool} {x y : Int} (h : FolR v L c f true) (h3 : L.length < 60) (hx : CountR v L x one) (hy : CountR v (L ++ [c]) y two) : one = true ∧ two = true ∧ (f != (x == y)) = false := by
  obtain ⟨hg, hc, hs1, hs2⟩ := h.sem
  have hv := goodB_v hg
  have hg2 := good_snoc hg hc h3
  obtain ⟨V, rfl⟩ : ∃ V : Nat, v = V := ⟨v.toNat, by omega⟩
  obtain ⟨a1, a2⟩ := hx
  obtain ⟨b1, b2⟩ := hy
  rw [hg] at a1
  rw [hg2] at b1
  subst a1 b1
  simp only [if_true, Int.toNat_natCast] at a2 b2
  refine ⟨rfl, rfl, ?_⟩
  cases f
  · obtain ⟨M, hl, hm, hf⟩ := hs2 rfl
    have hne : ¬ countB V L (2 ^ V) = countB V (L ++ [c]) (2 ^ V) := fun e => by
      rw [count_follow.1 e M (by omega) hm] at hf
      simp at hf
    have : (x == y) = false := by rw [a2, b2]; simp; omega
    rw [this]; rfl
  · have he : countB V L (2 ^ V) = countB V (L ++ [c]) (2 ^ V) := count_follow.2 (fun M _ hm => hs1 rfl M hm)
    have : (x == y) = true := by rw [a2, b2, he]; simp
    rw [this]; rfl
/-- a literal made true -/
def setL (M : List Bool) (y : Int) : List Bool := M.set (y.natAbs - 1) (decide (0 < y))
theorem litT_set {V : Nat} {M : List Bool} {x y : Int} (hM : M.length = V) (hx : litB V x = true) (hy : litB V y = true) (hn : x ≠ -y) (h : litT M x = true) : litT (setL M y) x = true := by
  have h1 := litB_iff.1 hx
  have h2 := litB_iff.1 hy
  unfold litT setL at *
  simp only [List.getElem?_set]
  split at h
  · rename_i hneg
    rw [if_pos hneg]
    by_cases e : y.natAbs - 1 = (-x - 1).toNat
    · rw [if_pos e, if_pos (by omega)]
      have : y = x := by omega
      simp
      omega
    · rw [if_neg e]
      exact h
  · rename_i hpos
    rw [if_neg hpos]
    by_cases e : y.natAbs - 1 = (x - 1).toNat
    · rw [if_pos e, if_pos (by omega)]
      have : y = x := by omega
      simp
      omega
    · rw [if_neg e]
      exact h
theorem litT_self {V : Nat} {M : List Bool} {y : Int} (hM : M.length = V) (hy : litB V y = true) : litT (setL M y) y = true := by
  have h2 := litB_iff.1 hy
  unfold litT setL
  simp only [List.getElem?_set]
  split
  · rename_i hneg
    rw [if_pos (by omega), if_pos (by omega)]
    simp
    omega
  · rename_i hpos
    rw [if_pos (by omega), if_pos (by omega)]
    simp
    omega
theorem pure_sem {v : Int} {L : List (List Int)} {s t : Bool} {M M2 : List Bool} {R R2 : List (List Int)} {y : Int} (h : SolR v L s M R true) (h2 : WithR v L [y] t M2 R2 true) (hy : pureB L.flatten y = true) : (t != s) = false := by
  obtain ⟨hg, _, hs1, hs2⟩ := h.sem
  obtain ⟨_, hcy, ht1, ht2⟩ := h2.sem
  have hv := goodB_v hg
  obtain ⟨V, rfl⟩ : ∃ V : Nat, v = V := ⟨v.toNat, by omega⟩
  have hly : litB V y = true := clauseB_lits hcy y (by simp)
  cases t
  · cases s
    · rfl
    · obtain ⟨hml, hm⟩ := hs1 rfl
      have hml' : M.length = V := by omega
      have hh : holdsB (setL M y) L = true := by
        unfold holdsB at hm ⊢
        rw [List.all_eq_true] at hm ⊢
        intro c hc
        have := hm c hc
        rw [List.any_eq_true] at this ⊢
        obtain ⟨x, hx, ht⟩ := this
        refine ⟨x, hx, litT_set hml' (clauseB_lits (goodB_cl hg c hc) x hx) hly (fun e => ?_) ht⟩
        unfold pureB at hy
        simp only [Bool.and_eq_true, decide_eq_true_eq] at hy
        have : -y ∈ L.flatten := List.mem_flatten.2 ⟨c, hc, by rw [← e]; exact hx⟩
        simp [this] at hy
      have := ht2 rfl (setL M y) hh
      simp [allT, litT_self hml' hly] at this
  · cases s
    · have := hs2 rfl M2
      rw [(ht1 rfl).2.1] at this
      simp at this
    · rfl
theorem one_lies (w : World) (y : Int) : ILies (w.alloc (.cells #[.int .i64 y] 3)) (some ⟨w.heap.size, 0, none⟩) [y] := own_ilies (sing_own w y)
set_option maxRecDepth 100000 in
set_option maxHeartbeats 64000000 in
theorem lawFollows (a0 : Option Addr) (len0 cap0 : Nat) (a1 : Option Addr) (len1 cap1 : Nat) (w : World) (h0 : Hid (Bytes w a0 len0)) (h1 : Hid (Bytes w a1 len1)) :
    Calls Try.prog 4 #[.slice a0 len0 cap0, .slice a1 len1 cap1] w fun e w' => e = .returned (.bool true) ∧ Below w.heap.size w w' := by
  obtain ⟨iS, hiS, hs0, hs1, hs2⟩ := info_parts info_ints
  go_enter Try.func4, Try.ntmps4
  go_wp2_with fail
  · go_ret
    exact ⟨rfl, Below.refl _ _⟩
  refine (drawFol_any a0 len0 cap0 _ h0).mono ?_
  rintro e w1 ⟨v, L, c, A, B, c1, c2, m, vs, rfl, hv, hL, hT, hm, hmm, hmc, ho, hic, hb⟩
  have O1 := Lib.hid ho
  have I1 := Lib.hid hic
  have B1 := Lib.hid hb
  have HN := Lib.hid (own_nilA' ho.outer)
  have HM := Lib.hid hm
  clear ho hic hb hm
  obtain ⟨f, ok, hf⟩ := folR_any v L c
  have FR := Lib.hid hf
  clear hf
  obtain ⟨n, hn⟩ : ∃ n, L.length = n := ⟨_, rfl⟩
  rw [hn] at hL O1 HN ⊢
  have HX := Lib.hid hn
  clear hn
  go_wp2_with fail
  refine (implFollows_any v _ _ _ _ _ _ L c _ f ok FR O1.out.lies I1 HX HM HN (by omega) (by omega)).mono ?_
  rintro e w2 ⟨rfl, hb2⟩
  have O2 := Lib.hid (O1.out.below hb2)
  have I2 := Lib.hid (I1.out.below hb2)
  have B2 := Lib.hid (Below.tr B1.out hb2)
  clear hb2 O1 I1
  go_wp2_with fail
  refine (specFollows_any v _ _ _ _ _ _ L c _ f ok FR O2.out.lies O2.out.lnil I2 HX HM (by omega) (by omega) hmc).mono ?_
  rintro e w3 ⟨rfl, hb3⟩
  have O3 := Lib.hid (O2.out.below hb3)
  have I3 := Lib.hid (I2.out.below hb3)
  have B3 := Lib.hid (Below.tr B2.out hb3)
  clear hb3 O2 I2
  have hko : (ok != ok) = false := by simp
  have hff : (f != f) = false := by simp
  cases ok
  · clear hko hff
    have Y1 := Lib.hid (h1.out.below B3.out)
    go_wp2_with fail
    refine (drawDecide_any a1 len1 cap1 _ Y1).mono ?_
    rintro e x1 ⟨v2, L2, g2, AX, BX, cx1, cx2, vx, rfl, hvx, hLx, hTx, hgx, hox, hrx, hbx⟩
    have OX1 := Lib.hid hox
    have RX1 := Lib.hid hrx
    have BX1 := Lib.hid (Below.tr B3.out hbx)
    have HGX := Lib.hid (own_nilA' hrx)
    have hccx := own_cap hrx
    clear hox hrx hbx hvx
    obtain ⟨dx, dok, hd⟩ := decR_any v2 L2 g2
    have DR := Lib.hid hd
    clear hd
    obtain ⟨nx, hnx⟩ : ∃ n, L2.length = n := ⟨_, rfl⟩
    obtain ⟨mx, hmx⟩ : ∃ n, g2.length = n := ⟨_, rfl⟩
    rw [hnx] at hLx OX1 ⊢
    rw [hmx] at hgx hccx RX1 HGX ⊢
    have HXX := Lib.hid hnx
    have HYX := Lib.hid hmx
    clear hnx hmx
    go_wp2_with fail
    refine (implDecide_any v2 _ _ _ _ _ _ L2 g2 _ dx dok DR OX1.out.lies (own_ilies RX1.out) HXX HYX HGX (by omega) (by omega)).mono ?_
    rintro e x2 ⟨rfl, hb2⟩
    have OX2 := Lib.hid (OX1.out.below hb2)
    have RX2 := Lib.hid (own_below RX1.out hb2)
    have BX2 := Lib.hid (Below.tr BX1.out hb2)
    clear hb2 OX1 RX1
    go_wp2_with fail
    refine (specDecide_any v2 _ _ _ _ _ _ L2 g2 _ dx dok DR OX2.out.lies (own_ilies RX2.out) HXX HYX HGX (by omega) (by omega) hccx).mono ?_
    rintro e x3 ⟨rfl, hb3⟩
    have BX3 := Lib.hid (Below.tr BX2.out hb3)
    clear hb3 OX2 RX2
    have Y3 := Lib.hid (h1.out.below BX3.out)
    go_wp2_with fail
    refine (drawPureI_any a1 len1 cap1 _ Y3).mono ?_
    rintro e x4 ⟨v4, L4, A4, c4, vs4, rfl, hv4, hL4, hT4, ho4, hb4⟩
    have O4 := Lib.hid ho4
    have B4 := Lib.hid (Below.tr BX3.out hb4)
    have HN4 := Lib.hid (own_nilA' ho4.outer)
    clear ho4 hb4
    obtain ⟨pr, pok, hp⟩ : ∃ r0 r1, PureR v4 L4 r0 r1 := ⟨_, _, rfl, rfl⟩
    have hprl := hp.len
    have PR := Lib.hid hp
    clear hp
    obtain ⟨n4, hn4⟩ : ∃ n, L4.length = n := ⟨_, rfl⟩
    obtain ⟨np, hnp⟩ : ∃ n, pr.length = n := ⟨_, rfl⟩
    rw [hn4] at hL4 O4 HN4 ⊢
    rw [hnp] at hprl
    have HX4 := Lib.hid hn4
    have HNP := Lib.hid hnp
    clear hn4 hnp
    go_wp2_with fail
    refine (implPure_any v4 _ _ _ L4 _ pr pok PR O4.out.lies HX4 (by omega)).mono ?_
    rintro e x5 ⟨AU, cU, rfl, hou, hb5⟩
    have O5 := Lib.hid (O4.out.below hb5)
    have B5 := Lib.hid (Below.tr B4.out hb5)
    have U5 := Lib.hid (own_ilies hou)
    rw [HNP.out]
    clear hou hb5 O4
    go_wp2_with fail
    refine (specPure_any v4 _ _ _ L4 _ pr pok PR O5.out.lies HX4 (by omega)).mono ?_
    rintro e x6 ⟨AV, cV, rfl, hov, hb6⟩
    have O6 := Lib.hid (O5.out.below hb6)
    have B6 := Lib.hid (Below.tr B5.out hb6)
    have U6 := Lib.hid (U5.out.below hb6)
    have V6 := Lib.hid (own_ilies hov)
    rw [HNP.out]
    clear hov hb6 O5 U5
    have Y6 := Lib.hid (h1.out.below B6.out)
    go_wp2_with fail
    refine (drawSame_any a1 len1 cap1 _ Y6).mono ?_
    rintro e x7 ⟨v7, ea, eb, AE, BE, ce1, ce2, ne, me, ve, rfl, hna, hnb, hne, hme, hte, hoe, hle, hnl, hb7⟩
    have O7 := Lib.hid (O6.out.below hb7)
    have U7 := Lib.hid (U6.out.below hb7)
    have V7 := Lib.hid (V6.out.below hb7)
    have E7 := Lib.hid hoe
    have F7 := Lib.hid hle
    have B7 := Lib.hid (Below.tr B6.out hb7)
    have HNA := Lib.hid hna
    have HNB := Lib.hid hnb
    have HE1 : Hid (AE = none → ne = 0 ∧ ce1 = 0) := Lib.hid (by have := hoe.outer; rw [hna] at this; exact own_nilA' this)
    have HE2 := Lib.hid hnl
    have HTE : Hid (tot ea ≤ 1048576) := Lib.hid (by omega)
    clear hoe hle hb7 hna hnb hnl O6 U6 V6
    obtain ⟨ss, sok, hss⟩ := sameR_any v7 ea eb
    have SR := Lib.hid hss
    clear hss
    go_wp2_with fail
    refine (implSame_any v7 _ _ _ _ _ _ ea eb _ ss sok SR E7.out.lies F7 HNA HNB HE1 HE2 (by omega) (by omega)).mono ?_
    rintro e x8 ⟨rfl, hb8⟩
    have O8 := Lib.hid (O7.out.below hb8)
    have U8 := Lib.hid (U7.out.below hb8)
    have V8 := Lib.hid (V7.out.below hb8)
    have E8 := Lib.hid (E7.out.below hb8)
    have F8 := Lib.hid (F7.out.below hb8)
    have B8 := Lib.hid (Below.tr B7.out hb8)
    clear hb8 O7 U7 V7 E7 F7
    go_wp2_with fail
    refine (specSame_any v7 _ _ _ _ _ _ ea eb _ ss sok SR E8.out.lies E8.out.lnil F8 HNA HNB HE2 (by omega) (by omega) HTE).mono ?_
    rintro e x9 ⟨rfl, hb9⟩
    have O9 := Lib.hid (O8.out.below hb9)
    have U9 := Lib.hid (U8.out.below hb9)
    have V9 := Lib.hid (V8.out.below hb9)
    have B9 := Lib.hid (Below.tr B8.out hb9)
    clear hb9 O8 U8 V8 E8 F8
    have hdk : (dok != dok) = false := by simp
    have hdx : (dx != dx) = false := by simp
    have hpk : (pok != pok) = false := by simp
    have hsk : (sok != sok) = false := by simp
    have hs9 : (ss != ss) = false := by simp
    go_wp2_with fail
    refine (sameInts_same _ _ _ _ _ pr _ U9 V9 HNP (by omega)).mono ?_
    rintro e x10 ⟨rfl, hb10⟩
    have O10 := Lib.hid (O9.out.below hb10)
    have U10 := Lib.hid (U9.out.below hb10)
    have B10 := Lib.hid (Below.tr B9.out hb10)
    clear hb10 O9 U9 V9
    cases pok
    · clear hdk hdx hpk hsk hs9
      go_wp2
      go_ret
      exact ⟨rfl, B10.out⟩
    · by_cases hv8 : v4 ≤ 8
      rotate_left
      · have hv8' : decide (v4 ≤ 8) = false := by simpa using hv8
        go_wp2
        go_ret
        exact ⟨rfl, B10.out⟩
      have hv8' : decide (v4 ≤ 8) = true := by simpa using hv8
      by_cases hn0 : n4 = 0
      · subst hn0
        go_wp2
        go_ret
        exact ⟨rfl, B10.out⟩
      have hn0' : decide ((n4 : Int) > 0) = true := by simp; omega
      clear hdk hdx hpk hsk hs9
      obtain ⟨sm, sM, sR, sok2, hsr⟩ := solR_any v4 L4
      have SOL := Lib.hid hsr
      clear hsr
      have PMEM : Hid (∀ y ∈ pr, pureB L4.flatten y = true) := Lib.hid (fun y hy => by
        have := PR.out.2
        simp only [if_true] at this
        rw [this] at hy
        exact (List.mem_filter.1 hy).2)
      go_wp2_with fail
      refine (implSolve_any v4 _ _ _ L4 _ sm sM sR sok2 SOL O10.out.lies HX4 HN4 (by omega)).mono ?_
      rintro e x11 ⟨AM, cM, AR, cR, vr, rfl, _, _, _, hb11⟩
      have O11 := Lib.hid (O10.out.below hb11)
      have U11 := Lib.hid (U10.out.below hb11)
      have B11 := Lib.hid (Below.tr B10.out hb11)
      clear hb11 O10 U10
      go_wp2_with fail
      go_loopw [226] (fun i wr => ∃ k : Nat, k ≤ np ∧ i = .int .i64 k ∧ Below x11.heap.size x11 wr) (fun i _ => np - (intOf i).toNat)
      case atStart => exact ⟨0, Nat.zero_le _, rfl, Below.refl _ _⟩
      case round =>
        obtain ⟨k, hk, rfl, hbr⟩ := hrel
        have BR := Lib.hid hbr
        have OR_ := Lib.hid (O11.out.below hbr)
        have UR := Lib.hid (U11.out.below hbr)
        clear hbr
        by_cases hlt : k < np
        · obtain ⟨y, hy⟩ : ∃ x, pr[k]? = some x := ⟨_, List.getElem?_eq_getElem (by have := HNP.out; omega)⟩
          obtain ⟨b9, off9, rfl, hbl9, ha9⟩ := UR.out k y hy
          have PY := Lib.hid (PMEM.out y (List.mem_of_getElem? hy))
          clear hy
          obtain ⟨t, tM, tR, tok, htw⟩ := withR_any v4 L4 [y]
          have WT := Lib.hid htw
          clear htw
          have BA := below1 wr (.cells #[.int .i64 y] 3)
          have OA := Lib.hid (OR_.out.lies.below BA)
          have IA := Lib.hid (one_lies wr y)
          have BAH := Lib.hid BA
          clear BA
          go_wp2_with fail
          refine (implWith_any v4 _ _ _ 1 _ 1 L4 [y] _ t tM tR tok WT OA IA HX4 (Lib.hid rfl) HN4 (by omega) (by omega)).mono ?_
          rintro e x12 ⟨AQ, cQ, AZ, cZ, vz, rfl, _, _, _, hb12⟩
          have B12 := Lib.hid (Below.tr BR.out (Below.tr BAH.out hb12))
          clear hb12
          cases sok2
          · go_wp2
            go_roundw
            case rel => exact ⟨k + 1, by omega, by go_num, B12.out⟩
            case measure => simp [intOf]; omega
          · cases tok
            · go_wp2
              go_roundw
              case rel => exact ⟨k + 1, by omega, by go_num, B12.out⟩
              case measure => simp [intOf]; omega
            · have hts : t = sm := by have := pure_sem SOL.out WT.out PY.out; simpa using this
              subst hts
              clear WT SOL
              cases t
              all_goals
                go_wp2
                go_roundw
                case rel => exact ⟨k + 1, by omega, by go_num, B12.out⟩
                case measure => simp [intOf]; omega
        · obtain rfl : k = np := by omega
          go_wp2
          go_ret
          exact ⟨rfl, Below.tr B11.out BR.out⟩
  · by_cases hv8 : v ≤ 8
    rotate_left
    · have hv8' : decide (v ≤ 8) = false := by simpa using hv8
      clear hko
      have Y1 := Lib.hid (h1.out.below B3.out)
      go_wp2_with fail
      refine (drawDecide_any a1 len1 cap1 _ Y1).mono ?_
      rintro e x1 ⟨v2, L2, g2, AX, BX, cx1, cx2, vx, rfl, hvx, hLx, hTx, hgx, hox, hrx, hbx⟩
      have OX1 := Lib.hid hox
      have RX1 := Lib.hid hrx
      have BX1 := Lib.hid (Below.tr B3.out hbx)
      have HGX := Lib.hid (own_nilA' hrx)
      have hccx := own_cap hrx
      clear hox hrx hbx hvx
      obtain ⟨dx, dok, hd⟩ := decR_any v2 L2 g2
      have DR := Lib.hid hd
      clear hd
      obtain ⟨nx, hnx⟩ : ∃ n, L2.length = n := ⟨_, rfl⟩
      obtain ⟨mx, hmx⟩ : ∃ n, g2.length = n := ⟨_, rfl⟩
      rw [hnx] at hLx OX1 ⊢
      rw [hmx] at hgx hccx RX1 HGX ⊢
      have HXX := Lib.hid hnx
      have HYX := Lib.hid hmx
      clear hnx hmx
      go_wp2_with fail
      refine (implDecide_any v2 _ _ _ _ _ _ L2 g2 _ dx dok DR OX1.out.lies (own_ilies RX1.out) HXX HYX HGX (by omega) (by omega)).mono ?_
      rintro e x2 ⟨rfl, hb2⟩
      have OX2 := Lib.hid (OX1.out.below hb2)
      have RX2 := Lib.hid (own_below RX1.out hb2)
      have BX2 := Lib.hid (Below.tr BX1.out hb2)
      clear hb2 OX1 RX1
      go_wp2_with fail
      refine (specDecide_any v2 _ _ _ _ _ _ L2 g2 _ dx dok DR OX2.out.lies (own_ilies RX2.out) HXX HYX HGX (by omega) (by omega) hccx).mono ?_
      rintro e x3 ⟨rfl, hb3⟩
      have BX3 := Lib.hid (Below.tr BX2.out hb3)
      clear hb3 OX2 RX2
      have Y3 := Lib.hid (h1.out.below BX3.out)
      go_wp2_with fail
      refine (drawPureI_any a1 len1 cap1 _ Y3).mono ?_
      rintro e x4 ⟨v4, L4, A4, c4, vs4, rfl, hv4, hL4, hT4, ho4, hb4⟩
      have O4 := Lib.hid ho4
      have B4 := Lib.hid (Below.tr BX3.out hb4)
      have HN4 := Lib.hid (own_nilA' ho4.outer)
      clear ho4 hb4
      obtain ⟨pr, pok, hp⟩ : ∃ r0 r1, PureR v4 L4 r0 r1 := ⟨_, _, rfl, rfl⟩
      have hprl := hp.len
      have PR := Lib.hid hp
      clear hp
      obtain ⟨n4, hn4⟩ : ∃ n, L4.length = n := ⟨_, rfl⟩
      obtain ⟨np, hnp⟩ : ∃ n, pr.length = n := ⟨_, rfl⟩
      rw [hn4] at hL4 O4 HN4 ⊢
      rw [hnp] at hprl
      have HX4 := Lib.hid hn4
      have HNP := Lib.hid hnp
      clear hn4 hnp
      go_wp2_with fail
      refine (implPure_any v4 _ _ _ L4 _ pr pok PR O4.out.lies HX4 (by omega)).mono ?_
      rintro e x5 ⟨AU, cU, rfl, hou, hb5⟩
      have O5 := Lib.hid (O4.out.below hb5)
      have B5 := Lib.hid (Below.tr B4.out hb5)
      have U5 := Lib.hid (own_ilies hou)
      rw [HNP.out]
      clear hou hb5 O4
      go_wp2_with fail
      refine (specPure_any v4 _ _ _ L4 _ pr pok PR O5.out.lies HX4 (by omega)).mono ?_
      rintro e x6 ⟨AV, cV, rfl, hov, hb6⟩
      have O6 := Lib.hid (O5.out.below hb6)
      have B6 := Lib.hid (Below.tr B5.out hb6)
      have U6 := Lib.hid (U5.out.below hb6)
      have V6 := Lib.hid (own_ilies hov)
      rw [HNP.out]
      clear hov hb6 O5 U5
      have Y6 := Lib.hid (h1.out.below B6.out)
      go_wp2_with fail
      refine (drawSame_any a1 len1 cap1 _ Y6).mono ?_
      rintro e x7 ⟨v7, ea, eb, AE, BE, ce1, ce2, ne, me, ve, rfl, hna, hnb, hne, hme, hte, hoe, hle, hnl, hb7⟩
      have O7 := Lib.hid (O6.out.below hb7)
      have U7 := Lib.hid (U6.out.below hb7)
      have V7 := Lib.hid (V6.out.below hb7)
      have E7 := Lib.hid hoe
      have F7 := Lib.hid hle
      have B7 := Lib.hid (Below.tr B6.out hb7)
      have HNA := Lib.hid hna
      have HNB := Lib.hid hnb
      have HE1 : Hid (AE = none → ne = 0 ∧ ce1 = 0) := Lib.hid (by have := hoe.outer; rw [hna] at this; exact own_nilA' this)
      have HE2 := Lib.hid hnl
      have HTE : Hid (tot ea ≤ 1048576) := Lib.hid (by omega)
      clear hoe hle hb7 hna hnb hnl O6 U6 V6
      obtain ⟨ss, sok, hss⟩ := sameR_any v7 ea eb
      have SR := Lib.hid hss
      clear hss
      go_wp2_with fail
      refine (implSame_any v7 _ _ _ _ _ _ ea eb _ ss sok SR E7.out.lies F7 HNA HNB HE1 HE2 (by omega) (by omega)).mono ?_
      rintro e x8 ⟨rfl, hb8⟩
      have O8 := Lib.hid (O7.out.below hb8)
      have U8 := Lib.hid (U7.out.below hb8)
      have V8 := Lib.hid (V7.out.below hb8)
      have E8 := Lib.hid (E7.out.below hb8)
      have F8 := Lib.hid (F7.out.below hb8)
      have B8 := Lib.hid (Below.tr B7.out hb8)
      clear hb8 O7 U7 V7 E7 F7
      go_wp2_with fail
      refine (specSame_any v7 _ _ _ _ _ _ ea eb _ ss sok SR E8.out.lies E8.out.lnil F8 HNA HNB HE2 (by omega) (by omega) HTE).mono ?_
      rintro e x9 ⟨rfl, hb9⟩
      have O9 := Lib.hid (O8.out.below hb9)
      have U9 := Lib.hid (U8.out.below hb9)
      have V9 := Lib.hid (V8.out.below hb9)
      have B9 := Lib.hid (Below.tr B8.out hb9)
      clear hb9 O8 U8 V8 E8 F8
      have hdk : (dok != dok) = false := by simp
      have hdx : (dx != dx) = false := by simp
      have hpk : (pok != pok) = false := by simp
      have hsk : (sok != sok) = false := by simp
      have hs9 : (ss != ss) = false := by simp
      go_wp2_with fail
      refine (sameInts_same _ _ _ _ _ pr _ U9 V9 HNP (by omega)).mono ?_
      rintro e x10 ⟨rfl, hb10⟩
      have O10 := Lib.hid (O9.out.below hb10)
      have U10 := Lib.hid (U9.out.below hb10)
      have B10 := Lib.hid (Below.tr B9.out hb10)
      clear hb10 O9 U9 V9
      cases pok
      · clear hdk hdx hpk hsk hs9
        go_wp2
        go_ret
        exact ⟨rfl, B10.out⟩
      · by_cases hv8 : v4 ≤ 8
        rotate_left
        · have hv8' : decide (v4 ≤ 8) = false := by simpa using hv8
          go_wp2
          go_ret
          exact ⟨rfl, B10.out⟩
        have hv8' : decide (v4 ≤ 8) = true := by simpa using hv8
        by_cases hn0 : n4 = 0
        · subst hn0
          go_wp2
          go_ret
          exact ⟨rfl, B10.out⟩
        have hn0' : decide ((n4 : Int) > 0) = true := by simp; omega
        clear hdk hdx hpk hsk hs9
        obtain ⟨sm, sM, sR, sok2, hsr⟩ := solR_any v4 L4
        have SOL := Lib.hid hsr
        clear hsr
        have PMEM : Hid (∀ y ∈ pr, pureB L4.flatten y = true) := Lib.hid (fun y hy => by
          have := PR.out.2
          simp only [if_true] at this
          rw [this] at hy
          exact (List.mem_filter.1 hy).2)
        go_wp2_with fail
        refine (implSolve_any v4 _ _ _ L4 _ sm sM sR sok2 SOL O10.out.lies HX4 HN4 (by omega)).mono ?_
        rintro e x11 ⟨AM, cM, AR, cR, vr, rfl, _, _, _, hb11⟩
        have O11 := Lib.hid (O10.out.below hb11)
        have U11 := Lib.hid (U10.out.below hb11)
        have B11 := Lib.hid (Below.tr B10.out hb11)
        clear hb11 O10 U10
        go_wp2_with fail
        go_loopw [226] (fun i wr => ∃ k : Nat, k ≤ np ∧ i = .int .i64 k ∧ Below x11.heap.size x11 wr) (fun i _ => np - (intOf i).toNat)
        case atStart => exact ⟨0, Nat.zero_le _, rfl, Below.refl _ _⟩
        case round =>
          obtain ⟨k, hk, rfl, hbr⟩ := hrel
          have BR := Lib.hid hbr
          have OR_ := Lib.hid (O11.out.below hbr)
          have UR := Lib.hid (U11.out.below hbr)
          clear hbr
          by_cases hlt : k < np
          · obtain ⟨y, hy⟩ : ∃ x, pr[k]? = some x := ⟨_, List.getElem?_eq_getElem (by have := HNP.out; omega)⟩
            obtain ⟨b9, off9, rfl, hbl9, ha9⟩ := UR.out k y hy
            have PY := Lib.hid (PMEM.out y (List.mem_of_getElem? hy))
            clear hy
            obtain ⟨t, tM, tR, tok, htw⟩ := withR_any v4 L4 [y]
            have WT := Lib.hid htw
            clear htw
            have BA := below1 wr (.cells #[.int .i64 y] 3)
            have OA := Lib.hid (OR_.out.lies.below BA)
            have IA := Lib.hid (one_lies wr y)
            have BAH := Lib.hid BA
            clear BA
            go_wp2_with fail
            refine (implWith_any v4 _ _ _ 1 _ 1 L4 [y] _ t tM tR tok WT OA IA HX4 (Lib.hid rfl) HN4 (by omega) (by omega)).mono ?_
            rintro e x12 ⟨AQ, cQ, AZ, cZ, vz, rfl, _, _, _, hb12⟩
            have B12 := Lib.hid (Below.tr BR.out (Below.tr BAH.out hb12))
            clear hb12
            cases sok2
            · go_wp2
              go_roundw
              case rel => exact ⟨k + 1, by omega, by go_num, B12.out⟩
              case measure => simp [intOf]; omega
            · cases tok
              · go_wp2
                go_roundw
                case rel => exact ⟨k + 1, by omega, by go_num, B12.out⟩
                case measure => simp [intOf]; omega
              · have hts : t = sm := by have := pure_sem SOL.out WT.out PY.out; simpa using this
                subst hts
                clear WT SOL
                cases t
                all_goals
                  go_wp2
                  go_roundw
                  case rel => exact ⟨k + 1, by omega, by go_num, B12.out⟩
                  case measure => simp [intOf]; omega
          · obtain rfl : k = np := by omega
            go_wp2
            go_ret
            exact ⟨rfl, Below.tr B11.out BR.out⟩
    have hv8' : decide (v ≤ 8) = true := by simpa using hv8
    have hn60 : decide ((n : Int) < 60) = true := by simp; omega
    obtain ⟨x, one, hcx⟩ : ∃ x one, CountR v L x one := ⟨_, _, rfl, rfl⟩
    obtain ⟨y, two, hcy⟩ : ∃ x one, CountR v (L ++ [c]) x one := ⟨_, _, rfl, rfl⟩
    obtain ⟨e1, e2, hfxy⟩ := fol_count FR.out (by rw [HX.out]; omega) hcx hcy
    subst e1 e2
    have CX := Lib.hid hcx
    have CY := Lib.hid hcy
    have hbq : (x == y) = f := by
      cases f <;> cases hq : (x == y) <;> rw [hq] at hfxy <;> simp at hfxy ⊢
    clear hcx hcy hko hfxy
    go_wp2_with fail
    refine (implCount_any v _ _ _ L _ x true CX O3.out.lies HX (by omega)).mono ?_
    rintro e w4 ⟨rfl, hb4⟩
    have O4 := Lib.hid (O3.out.below hb4)
    have I4 := Lib.hid (I3.out.below hb4)
    have B4 := Lib.hid (Below.tr B3.out hb4)
    clear hb4 O3 I3
    obtain ⟨us, hu1, hu2, hu3⟩ := O4.out.lies.vals
    have U1 := Lib.hid hu1
    have U2 := Lib.hid hu2
    have U3 := Lib.hid hu3
    have UL : Hid (us.length = n) := Lib.hid (by rw [hu1.1]; exact HX.out)
    clear hu1 hu2 hu3
    go_wp2_with (first
      | (at_builtin; (refine append_rowsN (w1 := w4.alloc (.cells #[] 35)) (base := w4.heap.size) (xs := []) (vs := us) _ _ rfl rfl rfl rfl (World.ownsRow_lit w4 #[] 0 (Nat.le_refl _) (by unfold maxLen; omega) rfl) (fun ad e j u hu => ((below1 w4 _).cell (World.block_lt_of_cell? w4 _ (U2.out ad e j u hu))).trans (U2.out ad e j u hu)) U3.out UL.out HN.out (by simp) (by omega) (by omega) ?_; intro A5 c5 w5 ho5 hk5 hat5; have C5 := Lib.hid ((CR.nil (w4.alloc (.cells #[] 35)) w4.heap.size (World.ownsRow_lit w4 #[] 0 (Nat.le_refl _) (by unfold maxLen; omega) rfl)).append rfl HX.out (U1.out.kept (.of_below (S := fun _ => False) (below1 w4 _)) (fun _ _ q => q)) (Nat.le_refl _) (by simp) ho5 hk5 hat5); have B5 := Lib.hid (hk5.below (below1 w4 _) (by simp) (fun i e => by simp [Value.ownBlock] at e; omega)); rw [Nat.zero_add] at C5 ho5 ⊢; have O5 := Lib.hid ho5; have hs5 := B5.out.size; clear ho5 hk5 hat5))
      | (at_builtin; (refine wpList_append_lies _ rfl _ _ 23 rfl w4.heap.size 35 iS (.slice none 0 0) 1 24 Try.underlying23 hiS hs0 hs1 hs2 rfl (by omega) _ n _ rfl (O5.out.alloc _) ⟨w5.heap.size, 0, none⟩ 1 1 [.slice B m c2] rfl rfl (one_new1 w5 _ _) (by intro u hu; rw [List.mem_singleton.1 hu]; rfl) (by omega) (by unfold maxLen; omega) (by omega) (by first | omega | (simp; omega)) (w5.heap.size + 1) (by first | rfl | simp) ?_; intro g6 cap6 w6 hown6 hg6 hat6 hlt6; have K6 := Lib.hid (kept_app hg6); have OW6 := Lib.hid hown6; have AT6 := Lib.hid hat6; clear hown6 hg6 hat6 hlt6)))
    have I5 := Lib.hid (I4.out.below B5.out)
    have INB : Hid (∀ ad, B = some ad → 0 < c.length → ad.block < w4.heap.size) := Lib.hid (fun ad e hp => by
      obtain ⟨b8, off8, h8, hb8, _⟩ := I4.out 0 _ (List.getElem?_eq_getElem hp)
      rw [e] at h8
      obtain rfl := Option.some.inj h8
      exact hb8)
    have RW : Hid (Rows0 w5 (fun g => g < w4.heap.size) [Value.slice B m c2] [c]) := Lib.hid ⟨rfl, fun q l hl => by
      have hq : q = 0 := by have := (List.getElem?_eq_some_iff.1 hl).1; simp at this; exact this
      subst hq
      simp at hl
      subst hl
      exact ⟨B, c2, by rw [HM.out]; rfl, by rw [HM.out]; exact hmc, by rw [HM.out]; omega, I5.out, INB.out⟩⟩
    have C6 := Lib.hid (C5.out.append HX.out rfl RW.out (Nat.le_refl _) hs5 (OW6.out : w6.ownsRow w4.heap.size 35 1 (.slice (some ⟨g6, 0, none⟩) (n + [c].length) cap6) (n + [c].length) (us ++ [Value.slice B m c2])) K6.out (fun g e => by
      have e' : g = g6 := by simp [Value.ownBlock] at e; exact e.symm
      subst e'
      exact AT6.out.elim .inl (fun q => .inr (by omega))))
    have B6 := Lib.hid (Below.tr B4.out (K6.out.below B5.out hs5 (fun i e => (O5.out.lt i e).1)))
    have L6 := Lib.hid C6.out.lies
    have LK : Hid ((L ++ [c]).length = n + 1) := Lib.hid (by rw [List.length_append, HX.out]; rfl)
    refine (implCount_any v _ _ _ (L ++ [c]) _ y true CY L6 LK (by omega)).mono ?_
    rintro e w7 ⟨rfl, hb7⟩
    have B7 := Lib.hid (Below.tr B6.out hb7)
    clear hb7 O4 I4 I5 C5 C6 L6 K6 OW6 AT6 RW INB B5 B6 O5 U1 U2 U3 UL
    have Y1 := Lib.hid (h1.out.below B7.out)
    go_wp2_with fail
    refine (drawDecide_any a1 len1 cap1 _ Y1).mono ?_
    rintro e x1 ⟨v2, L2, g2, AX, BX, cx1, cx2, vx, rfl, hvx, hLx, hTx, hgx, hox, hrx, hbx⟩
    have OX1 := Lib.hid hox
    have RX1 := Lib.hid hrx
    have BX1 := Lib.hid (Below.tr B7.out hbx)
    have HGX := Lib.hid (own_nilA' hrx)
    have hccx := own_cap hrx
    clear hox hrx hbx hvx
    obtain ⟨dx, dok, hd⟩ := decR_any v2 L2 g2
    have DR := Lib.hid hd
    clear hd
    obtain ⟨nx, hnx⟩ : ∃ n, L2.length = n := ⟨_, rfl⟩
    obtain ⟨mx, hmx⟩ : ∃ n, g2.length = n := ⟨_, rfl⟩
    rw [hnx] at hLx OX1 ⊢
    rw [hmx] at hgx hccx RX1 HGX ⊢
    have HXX := Lib.hid hnx
    have HYX := Lib.hid hmx
    clear hnx hmx
    go_wp2_with fail
    refine (implDecide_any v2 _ _ _ _ _ _ L2 g2 _ dx dok DR OX1.out.lies (own_ilies RX1.out) HXX HYX HGX (by omega) (by omega)).mono ?_
    rintro e x2 ⟨rfl, hb2⟩
    have OX2 := Lib.hid (OX1.out.below hb2)
    have RX2 := Lib.hid (own_below RX1.out hb2)
    have BX2 := Lib.hid (Below.tr BX1.out hb2)
    clear hb2 OX1 RX1
    go_wp2_with fail
    refine (specDecide_any v2 _ _ _ _ _ _ L2 g2 _ dx dok DR OX2.out.lies (own_ilies RX2.out) HXX HYX HGX (by omega) (by omega) hccx).mono ?_
    rintro e x3 ⟨rfl, hb3⟩
    have BX3 := Lib.hid (Below.tr BX2.out hb3)
    clear hb3 OX2 RX2
    have Y3 := Lib.hid (h1.out.below BX3.out)
    go_wp2_with fail
    refine (drawPureI_any a1 len1 cap1 _ Y3).mono ?_
    rintro e x4 ⟨v4, L4, A4, c4, vs4, rfl, hv4, hL4, hT4, ho4, hb4⟩
    have O4 := Lib.hid ho4
    have B4 := Lib.hid (Below.tr BX3.out hb4)
    have HN4 := Lib.hid (own_nilA' ho4.outer)
    clear ho4 hb4
    obtain ⟨pr, pok, hp⟩ : ∃ r0 r1, PureR v4 L4 r0 r1 := ⟨_, _, rfl, rfl⟩
    have hprl := hp.len
    have PR := Lib.hid hp
    clear hp
    obtain ⟨n4, hn4⟩ : ∃ n, L4.length = n := ⟨_, rfl⟩
    obtain ⟨np, hnp⟩ : ∃ n, pr.length = n := ⟨_, rfl⟩
    rw [hn4] at hL4 O4 HN4 ⊢
    rw [hnp] at hprl
    have HX4 := Lib.hid hn4
    have HNP := Lib.hid hnp
    clear hn4 hnp
    go_wp2_with fail
    refine (implPure_any v4 _ _ _ L4 _ pr pok PR O4.out.lies HX4 (by omega)).mono ?_
    rintro e x5 ⟨AU, cU, rfl, hou, hb5⟩
    have O5 := Lib.hid (O4.out.below hb5)
    have B5 := Lib.hid (Below.tr B4.out hb5)
    have U5 := Lib.hid (own_ilies hou)
    rw [HNP.out]
    clear hou hb5 O4
    go_wp2_with fail
    refine (specPure_any v4 _ _ _ L4 _ pr pok PR O5.out.lies HX4 (by omega)).mono ?_
    rintro e x6 ⟨AV, cV, rfl, hov, hb6⟩
    have O6 := Lib.hid (O5.out.below hb6)
    have B6 := Lib.hid (Below.tr B5.out hb6)
    have U6 := Lib.hid (U5.out.below hb6)
    have V6 := Lib.hid (own_ilies hov)
    rw [HNP.out]
    clear hov hb6 O5 U5
    have Y6 := Lib.hid (h1.out.below B6.out)
    go_wp2_with fail
    refine (drawSame_any a1 len1 cap1 _ Y6).mono ?_
    rintro e x7 ⟨v7, ea, eb, AE, BE, ce1, ce2, ne, me, ve, rfl, hna, hnb, hne, hme, hte, hoe, hle, hnl, hb7⟩
    have O7 := Lib.hid (O6.out.below hb7)
    have U7 := Lib.hid (U6.out.below hb7)
    have V7 := Lib.hid (V6.out.below hb7)
    have E7 := Lib.hid hoe
    have F7 := Lib.hid hle
    have B7 := Lib.hid (Below.tr B6.out hb7)
    have HNA := Lib.hid hna
    have HNB := Lib.hid hnb
    have HE1 : Hid (AE = none → ne = 0 ∧ ce1 = 0) := Lib.hid (by have := hoe.outer; rw [hna] at this; exact own_nilA' this)
    have HE2 := Lib.hid hnl
    have HTE : Hid (tot ea ≤ 1048576) := Lib.hid (by omega)
    clear hoe hle hb7 hna hnb hnl O6 U6 V6
    obtain ⟨ss, sok, hss⟩ := sameR_any v7 ea eb
    have SR := Lib.hid hss
    clear hss
    go_wp2_with fail
    refine (implSame_any v7 _ _ _ _ _ _ ea eb _ ss sok SR E7.out.lies F7 HNA HNB HE1 HE2 (by omega) (by omega)).mono ?_
    rintro e x8 ⟨rfl, hb8⟩
    have O8 := Lib.hid (O7.out.below hb8)
    have U8 := Lib.hid (U7.out.below hb8)
    have V8 := Lib.hid (V7.out.below hb8)
    have E8 := Lib.hid (E7.out.below hb8)
    have F8 := Lib.hid (F7.out.below hb8)
    have B8 := Lib.hid (Below.tr B7.out hb8)
    clear hb8 O7 U7 V7 E7 F7
    go_wp2_with fail
    refine (specSame_any v7 _ _ _ _ _ _ ea eb _ ss sok SR E8.out.lies E8.out.lnil F8 HNA HNB HE2 (by omega) (by omega) HTE).mono ?_
    rintro e x9 ⟨rfl, hb9⟩
    have O9 := Lib.hid (O8.out.below hb9)
    have U9 := Lib.hid (U8.out.below hb9)
    have V9 := Lib.hid (V8.out.below hb9)
    have B9 := Lib.hid (Below.tr B8.out hb9)
    clear hb9 O8 U8 V8 E8 F8
    have hdk : (dok != dok) = false := by simp
    have hdx : (dx != dx) = false := by simp
    have hpk : (pok != pok) = false := by simp
    have hsk : (sok != sok) = false := by simp
    have hs9 : (ss != ss) = false := by simp
    go_wp2_with fail
    refine (sameInts_same _ _ _ _ _ pr _ U9 V9 HNP (by omega)).mono ?_
    rintro e x10 ⟨rfl, hb10⟩
    have O10 := Lib.hid (O9.out.below hb10)
    have U10 := Lib.hid (U9.out.below hb10)
    have B10 := Lib.hid (Below.tr B9.out hb10)
    clear hb10 O9 U9 V9
    cases pok
    · clear hdk hdx hpk hsk hs9
      go_wp2
      go_ret
      exact ⟨rfl, B10.out⟩
    · by_cases hv8 : v4 ≤ 8
      rotate_left
      · have hv8' : decide (v4 ≤ 8) = false := by simpa using hv8
        go_wp2
        go_ret
        exact ⟨rfl, B10.out⟩
      have hv8' : decide (v4 ≤ 8) = true := by simpa using hv8
      by_cases hn0 : n4 = 0
      · subst hn0
        go_wp2
        go_ret
        exact ⟨rfl, B10.out⟩
      have hn0' : decide ((n4 : Int) > 0) = true := by simp; omega
      clear hdk hdx hpk hsk hs9
      obtain ⟨sm, sM, sR, sok2, hsr⟩ := solR_any v4 L4
      have SOL := Lib.hid hsr
      clear hsr
      have PMEM : Hid (∀ y ∈ pr, pureB L4.flatten y = true) := Lib.hid (fun y hy => by
        have := PR.out.2
        simp only [if_true] at this
        rw [this] at hy
        exact (List.mem_filter.1 hy).2)
      go_wp2_with fail
      refine (implSolve_any v4 _ _ _ L4 _ sm sM sR sok2 SOL O10.out.lies HX4 HN4 (by omega)).mono ?_
      rintro e x11 ⟨AM, cM, AR, cR, vr, rfl, _, _, _, hb11⟩
      have O11 := Lib.hid (O10.out.below hb11)
      have U11 := Lib.hid (U10.out.below hb11)
      have B11 := Lib.hid (Below.tr B10.out hb11)
      clear hb11 O10 U10
      go_wp2_with fail
      go_loopw [226] (fun i wr => ∃ k : Nat, k ≤ np ∧ i = .int .i64 k ∧ Below x11.heap.size x11 wr) (fun i _ => np - (intOf i).toNat)
      case atStart => exact ⟨0, Nat.zero_le _, rfl, Below.refl _ _⟩
      case round =>
        obtain ⟨k, hk, rfl, hbr⟩ := hrel
        have BR := Lib.hid hbr
        have OR_ := Lib.hid (O11.out.below hbr)
        have UR := Lib.hid (U11.out.below hbr)
        clear hbr
        by_cases hlt : k < np
        · obtain ⟨y, hy⟩ : ∃ x, pr[k]? = some x := ⟨_, List.getElem?_eq_getElem (by have := HNP.out; omega)⟩
          obtain ⟨b9, off9, rfl, hbl9, ha9⟩ := UR.out k y hy
          have PY := Lib.hid (PMEM.out y (List.mem_of_getElem? hy))
          clear hy
          obtain ⟨t, tM, tR, tok, htw⟩ := withR_any v4 L4 [y]
          have WT := Lib.hid htw
          clear htw
          have BA := below1 wr (.cells #[.int .i64 y] 3)
          have OA := Lib.hid (OR_.out.lies.below BA)
          have IA := Lib.hid (one_lies wr y)
          have BAH := Lib.hid BA
          clear BA
          go_wp2_with fail
          refine (implWith_any v4 _ _ _ 1 _ 1 L4 [y] _ t tM tR tok WT OA IA HX4 (Lib.hid rfl) HN4 (by omega) (by omega)).mono ?_
          rintro e x12 ⟨AQ, cQ, AZ, cZ, vz, rfl, _, _, _, hb12⟩
          have B12 := Lib.hid (Below.tr BR.out (Below.tr BAH.out hb12))
          clear hb12
          cases sok2
          · go_wp2
            go_roundw
            case rel => exact ⟨k + 1, by omega, by go_num, B12.out⟩
            case measure => simp [intOf]; omega
          · cases tok
            · go_wp2
              go_roundw
              case rel => exact ⟨k + 1, by omega, by go_num, B12.out⟩
              case measure => simp [intOf]; omega
            · have hts : t = sm := by have := pure_sem SOL.out WT.out PY.out; simpa using this
              subst hts
              clear WT SOL
              cases t
              all_goals
                go_wp2
                go_roundw
                case rel => exact ⟨k + 1, by omega, by go_num, B12.out⟩
                case measure => simp [intOf]; omega
        · obtain rfl : k = np := by omega
          go_wp2
          go_ret
          exact ⟨rfl, Below.tr B11.out BR.out⟩
end Go.Proofs.Ytehedomjfpipkaa
