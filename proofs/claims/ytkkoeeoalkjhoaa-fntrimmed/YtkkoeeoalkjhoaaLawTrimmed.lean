/-
  The walk of the law FnTrimmed.
-/
import Derived.Test.YtkkoeeoalkjhoaaTrimB
import Derived.Test.YtkkoeeoalkjhoaaHardB
import Derived.Test.YtkkoeeoalkjhoaaLawH
namespace Go.Proofs.Ytkkoeeoalkjhoaa
open Go.ChangeShapes Go.WideShapes Go.ChangeAt Go.RowKit

theorem idxN_at {d : List Bool} {n k : Nat} {x : Int} (h : (idxN d n)[k]? = some x) : ∃ i : Nat, x = i ∧ i < n ∧ d[i]? = some false ∧ (idxN d i).length = k := by
  induction n with
  | zero => simp [idxN_zero] at h
  | succ n ih =>
    cases q : d[n]? with
    | none =>
      have e : idxN d (n + 1) = idxN d n := by
        unfold idxN
        rw [List.range_succ, List.filter_append, List.map_append]
        simp [q]
      rw [e] at h
      obtain ⟨i, h1, h2, h3, h4⟩ := ih h
      exact ⟨i, h1, by omega, h3, h4⟩
    | some b =>
      cases b
      · rw [idxN_keep q] at h
        by_cases hk : k < (idxN d n).length
        · rw [List.getElem?_append_left hk] at h
          obtain ⟨i, h1, h2, h3, h4⟩ := ih h
          exact ⟨i, h1, by omega, h3, h4⟩
        · rw [List.getElem?_append_right (by omega)] at h
          have h1 : k - (idxN d n).length < 1 := by have := (List.getElem?_eq_some_iff.1 h).1; simpa using this
          rw [show k - (idxN d n).length = 0 by omega] at h
          simp at h
          exact ⟨n, h.symm, by omega, q, by omega⟩
      · rw [idxN_drop q] at h
        obtain ⟨i, h1, h2, h3, h4⟩ := ih h
        exact ⟨i, h1, by omega, h3, h4⟩
theorem endsB_pos {p : List (List Int)} (h : endsB p = true) : 0 < p.length := by
  cases p with
  | nil => simp [endsB] at h
  | cons a t => simp
theorem endsB_last {p : List (List Int)} (h : endsB p = true) : p[p.length - 1]? = some [] := by
  unfold endsB at h
  rw [decide_eq_true_eq, List.getLast?_eq_getElem?] at h
  exact h
theorem endsB_mem {p : List (List Int)} (h : endsB p = true) : [] ∈ p := by
  unfold endsB at h
  rw [decide_eq_true_eq] at h
  exact List.mem_of_getLast? h
/-- an accepted proof, what of it is needed -/
structure Acc (v : Int) (L p : List (List Int)) : Prop where
  hg : goodB v L = true
  hp : proofB v p = true
  hc : chainB L p = true
  he : endsB p = true
theorem NeedR.acc {v : Int} {L p : List (List Int)} {ix : List Int} (h : NeedR v L p ix true) : Acc v L p ∧ ix = idxN (needD L p) p.length := by
  obtain ⟨at_, ok0, h1, h2⟩ := h
  obtain ⟨a, b, c, d, _, _⟩ := h1.acc rfl
  exact ⟨⟨a, b, c, d⟩, by simpa using h2⟩
theorem Acc.kept {v : Int} {L p : List (List Int)} (_h : Acc v L p) : atIdx p (idxN (needD L p) p.length) = keptL p (needD L p) := (keptL_idx' (needD_len L p).symm).symm
theorem Acc.chain {v : Int} {L p : List (List Int)} (h : Acc v L p) : chainB L (keptL p (needD L p)) = true := by
  unfold needD
  refine trimN_chain ?_
  unfold zerosB
  rw [keptL_all]
  exact h.hc
theorem Acc.last {v : Int} {L p : List (List Int)} (h : Acc v L p) : (needD L p)[p.length - 1]? = some false := by
  have hpos := endsB_pos h.he
  unfold needD
  rw [trimN_at (Nat.le_refl _)]
  unfold zerosB
  rw [List.getElem?_replicate, if_pos (by omega)]
theorem Acc.ends {v : Int} {L p : List (List Int)} (h : Acc v L p) : endsB (keptL p (needD L p)) = true := by
  have hpos := endsB_pos h.he
  have hk := keptL_at (i := p.length - 1) (endsB_last h.he) h.last
  rw [show p.length - 1 + 1 = p.length by omega, List.take_of_length_le (Nat.le_refl _), List.take_of_length_le (by rw [needD_len]; omega)] at hk
  rw [hk]
  unfold endsB
  simp
theorem Acc.bounds {v : Int} {L p : List (List Int)} (h : Acc v L p) {t : List (List Int)} (ht : ∀ c ∈ t, c ∈ p) (hl : t.length ≤ p.length) : proofB v t = true :=
  proofB_of (by have := proofB_len h.hp; omega) (fun c hc => proofB_cl h.hp c (ht c hc))
theorem kept_len {v : Int} {L p : List (List Int)} (h : Acc v L p) : (keptL p (needD L p)).length ≤ p.length := by
  rw [← h.kept, atIdx_len]
  exact idxN_len _ _
/-- a trimmed proof is accepted -/
theorem TrimR.check {v : Int} {L p : List (List Int)} {t : List (List Int)} (h : TrimR v L p t true) : CheckR v L t true t.length true ∧ 0 < t.length ∧ t.length ≤ p.length := by
  obtain ⟨ix, h1, rfl⟩ := h
  obtain ⟨a, rfl⟩ := h1.acc
  rw [a.kept]
  exact ⟨CheckR.of_chain a.hg (a.bounds (fun c hc => keptL_sub c hc) (kept_len a)) a.chain a.ends, endsB_pos a.ends, kept_len a⟩
theorem Acc.min {v : Int} {L p : List (List Int)} (h : Acc v L p) {i : Nat} (hi : i < p.length - 1) (hd : (needD L p)[i]? = some false) : chainB L (keptL p ((needD L p).set i true)) = false := by
  have hv := goodB_v h.hg
  unfold needD at hd ⊢
  refine trimN_min hv.2 (goodB_cl h.hg) (proofB_cl h.hp) (by simp [zerosB]) (by omega) ?_ ?_ i hi hd
  · unfold zerosB
    rw [List.take_replicate, Nat.min_eq_left (by omega)]
  · unfold zerosB
    rw [keptL_all]
    exact h.hc
theorem Acc.full {v : Int} {L p : List (List Int)} (h : Acc v L p) {i : Nat} (hi : i < p.length - 1) (hd : (needD L p)[i]? = some false) (hp : p[i]? = some []) : False := by
  have hv := goodB_v h.hg
  have hmin := h.min hi hd
  have hc := h.chain
  have hl : p.length = (needD L p).length := (needD_len L p).symm
  rw [keptL_keep hl hp hd, chainB_app, Bool.and_eq_true, chainB, Bool.and_eq_true] at hc
  rw [keptL_drop hl (by omega), chainB_app, hc.1, Bool.true_and] at hmin
  rw [chain_empty hv.2 ?_ ?_ (fun d hd => hd) hc.2.1] at hmin
  · simp at hmin
  · intro c hcm
    rcases List.mem_append.1 hcm with q | q
    · exact goodB_cl h.hg c q
    · exact proofB_cl h.hp c (List.mem_of_mem_take (keptL_sub c q))
  · intro c hcm
    exact proofB_cl h.hp c (List.mem_of_mem_drop (keptL_sub c hcm))
/-- and no clause of it can be left out -/
theorem TrimR.min {v : Int} {L p : List (List Int)} {t : List (List Int)} {k : Nat} (h : TrimR v L p t true) (hk : k < t.length) : ∃ at_, CheckR v L (t.take k ++ t.drop (k + 1)) false at_ true := by
  obtain ⟨ix, h1, rfl⟩ := h
  obtain ⟨a, rfl⟩ := h1.acc
  rw [atIdx_len] at hk
  obtain ⟨i, hx, hip, hdi, hil⟩ := idxN_at (List.getElem?_eq_getElem hk)
  have hl : p.length = (needD L p).length := (needD_len L p).symm
  obtain ⟨c, hc⟩ : ∃ c, p[i]? = some c := ⟨_, List.getElem?_eq_getElem hip⟩
  have hpre : (keptL (p.take i) ((needD L p).take i)).length = k := by rw [keptL_idx hl i (by omega), atIdx_len, hil]
  have hkeep := keptL_keep hl hc hdi
  have hdrop := keptL_drop hl hip
  rw [a.kept]
  have hrest : (keptL p (needD L p)).take k ++ (keptL p (needD L p)).drop (k + 1) = keptL p ((needD L p).set i true) := by
    rw [hdrop, hkeep, ← hpre, List.take_left]
    congr 1
    rw [show (keptL (p.take i) ((needD L p).take i)).length + 1 = (keptL (p.take i) ((needD L p).take i) ++ [c]).length by simp]
    rw [show keptL (p.take i) ((needD L p).take i) ++ c :: keptL (p.drop (i + 1)) ((needD L p).drop (i + 1)) = (keptL (p.take i) ((needD L p).take i) ++ [c]) ++ keptL (p.drop (i + 1)) ((needD L p).drop (i + 1)) by simp]
    rw [List.drop_left]
  rw [hrest]
  have hsub : ∀ e ∈ keptL p ((needD L p).set i true), e ∈ p := fun e he => keptL_sub e he
  have hlen : (keptL p ((needD L p).set i true)).length ≤ p.length := by
    rw [keptL_idx' (by rw [List.length_set]; exact hl), atIdx_len]
    exact idxN_len _ _
  have hpb := a.bounds hsub hlen
  refine ⟨wrongF L (keptL p ((needD L p).set i true)) (zerosB (keptL p ((needD L p).set i true))), by rw [a.hg, hpb]; rfl, fun _ => ⟨rfl, ?_⟩, by simp⟩
  by_cases hlast : i < p.length - 1
  · have hm := a.min hlast hdi
    have hw := wrongF_chain (L := L) (p := keptL p ((needD L p).set i true)) (d := zerosB (keptL p ((needD L p).set i true))) (by simp [zerosB])
    rw [hw, zerosB, keptL_all, hm]
    rfl
  · have hi : i = p.length - 1 := by omega
    cases q : endsB (keptL p ((needD L p).set i true))
    · simp
    · exfalso
      have hmem := endsB_mem q
      rw [hdrop, List.drop_of_length_le (by omega)] at hmem
      have hmem2 : [] ∈ keptL (p.take i) ((needD L p).take i) := by
        rcases List.mem_append.1 hmem with r | r
        · exact r
        · simp [keptL] at r
      rw [keptL_idx hl i (by omega)] at hmem2
      unfold atIdx at hmem2
      obtain ⟨x, hxm, hxe⟩ := List.mem_map.1 hmem2
      obtain ⟨j, rfl, hj, hdj⟩ := idxN_mem hxm
      obtain ⟨e, he⟩ : ∃ c, p[j]? = some c := ⟨_, List.getElem?_eq_getElem (by omega)⟩
      simp [he] at hxe
      subst hxe
      exact a.full (by omega) hdj he
theorem at_follows {v : Int} {L : List (List Int)} {c : List Int} {f : Bool} (hg : goodB v L = true) (hc : clauseB v c = true) (ha : atB L c = true) (h : FolR v L c f true) : f = true := by
  obtain ⟨_, _, _, h2⟩ := h.sem
  cases f
  · obtain ⟨M, _, hm, hn⟩ := h2 rfl
    rw [atB_sound (goodB_cl hg) hc ha M hm] at hn
    simp at hn
  · rfl

theorem Rows0.take {w : World} {I0 : Nat → Prop} {vs : List Value} {L : List (List Int)} (h : Rows0 w I0 vs L) (k : Nat) : Rows0 w I0 (vs.take k) (L.take k) := by
  refine ⟨by simp [h.1], fun i l hl => ?_⟩
  rw [List.getElem?_take] at hl
  split at hl
  · rename_i hi
    obtain ⟨a, c, h1, rest⟩ := h.2 _ l hl
    exact ⟨a, c, by rw [List.getElem?_take, if_pos hi]; exact h1, rest⟩
  · simp at hl
theorem rows_one_cell {w : World} {I0 : Nat → Prop} {vs : List Value} {L : List (List Int)} (h : Rows0 w I0 vs L) : ∀ u ∈ vs, u.oneCell' = true := by
  intro u hu
  obtain ⟨i, hi, rfl⟩ := List.mem_iff_getElem.1 hu
  have hi2 : i < L.length := by rw [← h.1]; exact hi
  obtain ⟨a, cc, h1, _⟩ := h.2 i _ (List.getElem?_eq_getElem hi2)
  rw [List.getElem?_eq_getElem hi] at h1
  rw [Option.some.inj h1]
  rfl
set_option maxRecDepth 100000 in
set_option maxHeartbeats 64000000 in
theorem lawTrimmed (a0 : Option Addr) (len0 cap0 : Nat) (a1 : Option Addr) (len1 cap1 : Nat) (w : World) (h0 : Hid (Bytes w a0 len0)) (h1 : Hid (Bytes w a1 len1)) :
    Calls Try.prog 4 #[.slice a0 len0 cap0, .slice a1 len1 cap1] w fun e w' => e = .returned (.bool true) ∧ Below w.heap.size w w' := by
  by_cases hbig : (1048576 : Int) < wrap64 ((len0 : Int) + (len1 : Int))
  · go_enter Try.func4, Try.ntmps4
    go_wp2
    go_ret
    exact ⟨rfl, Below.refl _ _⟩
  have hdec : decide ((1048576 : Int) < wrap64 ((len0 : Int) + (len1 : Int))) = false := decide_eq_false hbig
  go_enter Try.func4, Try.ntmps4
  go_wp2_with fail
  refine (drawTrim_any a0 len0 cap0 _ h0).mono ?_
  rintro e w1 ⟨v, L, p, A, B, c1, c2, vs, rfl, hv, hL, hT, hp, hpt, ho, hlp, hnp, hb⟩
  have L1 := Lib.hid ho.lies
  have N1 := Lib.hid ho.lnil
  have P1 := Lib.hid hlp
  have PN1 := Lib.hid hnp
  have B1 := Lib.hid hb
  have HN := Lib.hid (own_nilA' ho.outer)
  have Y1 := Lib.hid (h1.out.below hb)
  clear ho hlp hnp hb h0 h1
  obtain ⟨ix, ok, hnr⟩ := needR_any v L p
  have hix := hnr.few
  have NR := Lib.hid hnr
  obtain ⟨t, ht⟩ : ∃ t, atIdx p ix = t := ⟨_, rfl⟩
  have htr : TrimR v L p t ok := ⟨ix, hnr, ht.symm⟩
  have htt := htr.small.2
  have TR := Lib.hid htr
  have TE := Lib.hid ht
  clear hnr htr
  obtain ⟨n, hn⟩ : ∃ n, L.length = n := ⟨_, rfl⟩
  obtain ⟨m, hm⟩ : ∃ n, p.length = n := ⟨_, rfl⟩
  obtain ⟨q, hq⟩ : ∃ n, ix.length = n := ⟨_, rfl⟩
  rw [hn] at hL HN ⊢
  rw [hm] at hp ⊢
  rw [hq] at hix
  have HX := Lib.hid hn
  have HY := Lib.hid hm
  have HQ := Lib.hid hq
  have HTL : Hid (t.length = q) := Lib.hid (by rw [← ht, atIdx_len, hq])
  clear hn hm hq ht
  go_wp2_with fail
  refine (implTrim_any v _ _ _ _ _ _ L p _ t ok TR L1 P1 PN1 HX HY HN (by omega) (by omega)).mono ?_
  rintro e w2 ⟨At, ct, vt, rfl, hot, hb2⟩
  rw [HTL.out] at hot ⊢
  have OT2 := Lib.hid hot
  have L2 := Lib.hid (L1.out.below hb2)
  have N2 := Lib.hid (N1.out.below L1.out hb2)
  have P2 := Lib.hid (P1.out.below hb2)
  have PN2 := Lib.hid (PN1.out.below P1.out hb2)
  have Y2 := Lib.hid (Y1.out.below hb2)
  have B2 := Lib.hid (Below.tr B1.out hb2)
  clear hb2 hot L1 N1 P1 PN1 Y1 B1
  go_wp2_with fail
  refine (specTrim_any v _ _ _ _ _ _ L p _ t ok TR L2 N2 P2 PN2 HX HY (by omega) (by omega)).mono ?_
  rintro e w3 ⟨As, cs, vss, rfl, hos, hb3⟩
  rw [HTL.out] at hos ⊢
  have OT3 := Lib.hid (OT2.out.below hb3)
  have SL3 := Lib.hid hos.lies
  have L3 := Lib.hid (L2.out.below hb3)
  have N3 := Lib.hid (N2.out.below L2.out hb3)
  have P3 := Lib.hid (P2.out.below hb3)
  have Y3 := Lib.hid (Y2.out.below hb3)
  have B3 := Lib.hid (Below.tr B2.out hb3)
  clear hb3 hos OT2 L2 N2 P2 PN2 Y2 B2
  go_wp2_with fail
  refine (implNeed_any v _ _ _ _ _ _ L p _ ix ok NR L3 P3 HX HY HN (by omega) (by omega)).mono ?_
  rintro e w4 ⟨Ai, ci, rfl, hoi, hb4⟩
  rw [HQ.out] at hoi ⊢
  have IX4 := Lib.hid (own_ilies hoi)
  have OT4 := Lib.hid (OT3.out.below hb4)
  have SL4 := Lib.hid (SL3.out.below hb4)
  have L4 := Lib.hid (L3.out.below hb4)
  have N4 := Lib.hid (N3.out.below L3.out hb4)
  have P4 := Lib.hid (P3.out.below hb4)
  have Y4 := Lib.hid (Y3.out.below hb4)
  have B4 := Lib.hid (Below.tr B3.out hb4)
  clear hb4 hoi OT3 SL3 L3 N3 P3 Y3 B3
  go_wp2_with fail
  refine (specNeed_any v _ _ _ _ _ _ L p _ ix ok NR L4 N4 P4 HX HY (by omega) (by omega)).mono ?_
  rintro e w5 ⟨Aj, cj, rfl, hoj, hb5⟩
  rw [HQ.out] at hoj ⊢
  have IX5 := Lib.hid (IX4.out.below hb5)
  have JX5 := Lib.hid (own_ilies hoj)
  have OT5 := Lib.hid (OT4.out.below hb5)
  have SL5 := Lib.hid (SL4.out.below hb5)
  have L5 := Lib.hid (L4.out.below hb5)
  have P5 := Lib.hid (P4.out.below hb5)
  have Y5 := Lib.hid (Y4.out.below hb5)
  have B5 := Lib.hid (Below.tr B4.out hb5)
  clear hb5 hoj IX4 OT4 SL4 L4 N4 P4 Y4 B4
  have e1 : (ok != ok) = false := by simp
  have e2 : (ok == ok) = true := by simp
  have TL5 := Lib.hid OT5.out.lies
  go_wp2_with fail
  refine (sameRows_same _ _ _ _ _ t _ TL5 SL5 HTL (by omega) (Lib.hid (by omega))).mono ?_
  rintro e w6 ⟨rfl, hb6⟩
  have IX6 := Lib.hid (IX5.out.below hb6)
  have JX6 := Lib.hid (JX5.out.below hb6)
  have OT6 := Lib.hid (OT5.out.below hb6)
  have L6 := Lib.hid (L5.out.below hb6)
  have P6 := Lib.hid (P5.out.below hb6)
  have Y6 := Lib.hid (Y5.out.below hb6)
  have B6 := Lib.hid (Below.tr B5.out hb6)
  clear hb6 IX5 JX5 OT5 SL5 L5 P5 Y5 B5 TL5
  go_wp2_with fail
  refine (sameInts_same _ _ _ _ _ ix _ IX6 JX6 HQ (by omega)).mono ?_
  rintro e w7 ⟨rfl, hb7⟩
  have IX7 := Lib.hid (IX6.out.below hb7)
  have OT7 := Lib.hid (OT6.out.below hb7)
  have L7 := Lib.hid (L6.out.below hb7)
  have P7 := Lib.hid (P6.out.below hb7)
  have Y7 := Lib.hid (Y6.out.below hb7)
  have B7 := Lib.hid (Below.tr B6.out hb7)
  clear hb7 IX6 JX6 OT6 L6 P6 Y6 B6
  cases ok
  · go_wp2_with fail
    refine (drawIsAt_any a1 len1 cap1 _ Y7).mono ?_
    rintro e wa ⟨va, La, ga, Aa, Ba, ca, cb, ma, vsa, rfl, hva, hLa, hTa, hma, hmm, hmc, hoa, hia, hba⟩
    have LA := Lib.hid hoa.lies
    have NA := Lib.hid hoa.lnil
    have HNA := Lib.hid (own_nilA' hoa.outer)
    have IA := Lib.hid hia
    have HMA := Lib.hid hma
    have BA := Lib.hid (Below.tr B7.out hba)
    clear hoa hba hia hma
    obtain ⟨x, ok2, hat⟩ := atR_any va La ga
    have AT := Lib.hid hat
    clear hat
    obtain ⟨na, hna⟩ : ∃ n, La.length = n := ⟨_, rfl⟩
    rw [hna] at hLa HNA ⊢
    have HA := Lib.hid hna
    clear hna
    go_wp2_with fail
    refine (implIsAt_any va _ _ _ _ _ _ La ga _ x ok2 AT LA IA HA HMA (by omega) (by omega)).mono ?_
    rintro e wb ⟨rfl, hbb⟩
    have LB := Lib.hid (LA.out.below hbb)
    have IB := Lib.hid (IA.out.below hbb)
    have BB := Lib.hid (Below.tr BA.out hbb)
    clear hbb LA NA IA BA
    go_wp2_with fail
    refine (specIsAt_any va _ _ _ _ _ _ La ga _ x ok2 AT LB IB HA HMA (by omega) (by omega) hmc).mono ?_
    rintro e wc ⟨rfl, hbc⟩
    have LC := Lib.hid (LB.out.below hbc)
    have IC := Lib.hid (IB.out.below hbc)
    have BC := Lib.hid (Below.tr BB.out hbc)
    clear hbc LB IB BB
    have f1 : (ok2 != ok2) = false := by simp
    have f2 : (x != x) = false := by simp
    cases ok2
    · go_wp2
      go_ret
      exact ⟨rfl, BC.out⟩
    · cases x
      · go_wp2
        go_ret
        exact ⟨rfl, BC.out⟩
      · have hgc : goodB va La = true ∧ clauseB va ga = true := by have := AT.out.1.symm; rwa [Bool.and_eq_true] at this
        have hat2 : atB La ga = true := by have := AT.out.2.symm; simpa using this
        obtain ⟨f, four, hfo⟩ := folR_any va La ga
        have hff : four = true → f = true := fun e => by subst e; exact at_follows hgc.1 hgc.2 hat2 hfo
        have FO := Lib.hid hfo
        clear hgc hat2 hfo
        go_wp2_with fail
        refine (implFollows_any va _ _ _ _ _ _ La ga _ f four FO LC IC HA HMA HNA (by omega) (by omega)).mono ?_
        rintro e wd ⟨rfl, hbd⟩
        have BD := Lib.hid (Below.tr BC.out hbd)
        clear hbd LC IC BC
        cases four
        · go_wp2
          go_ret
          exact ⟨rfl, BD.out⟩
        · have hf := hff rfl
          subst hf
          go_wp2
          go_ret
          exact ⟨rfl, BD.out⟩
  · obtain ⟨hck, hq0, hqp⟩ := TR.out.check
    rw [HTL.out] at hck hq0 hqp
    rw [HY.out] at hqp
    have CK := Lib.hid hck
    clear hck
    have TL7 := Lib.hid OT7.out.lies
    have g1 : ((q : Int) != (q : Int)) = false := by simp
    have g2 : decide ((q : Int) > (m : Int)) = false := by simp; omega
    have g3 : decide (m < q) = false := by simp; omega
    go_wp2_with fail
    refine (implCheck_any v _ _ _ _ _ _ L t _ true q true CK L7 TL7 HX HTL HN (by omega) (by omega)).mono ?_
    rintro e w8 ⟨rfl, hb8⟩
    have IX8 := Lib.hid (IX7.out.below hb8)
    have OT8 := Lib.hid (OT7.out.below hb8)
    have L8 := Lib.hid (L7.out.below hb8)
    have P8 := Lib.hid (P7.out.below hb8)
    have Y8 := Lib.hid (Y7.out.below hb8)
    have B8 := Lib.hid (Below.tr B7.out hb8)
    clear hb8 IX7 OT7 L7 P7 Y7 B7 TL7
    go_wp2_with fail
    go_loopw [137] (fun i wr => ∃ k : Nat, k ≤ q ∧ i = .int .i64 k ∧ Below w8.heap.size w8 wr) (fun i _ => q - (intOf i).toNat)
    case atStart => exact ⟨0, Nat.zero_le _, rfl, Below.refl _ _⟩
    case round =>
      obtain ⟨k, hk, rfl, hbr⟩ := hrel
      have BR := Lib.hid hbr
      have IXr := Lib.hid (IX8.out.below hbr)
      have OTr := Lib.hid (OT8.out.below hbr)
      have Lr := Lib.hid (L8.out.below hbr)
      have Pr := Lib.hid (P8.out.below hbr)
      have Yr := Lib.hid (Y8.out.below hbr)
      have Br := Lib.hid (Below.tr B8.out hbr)
      clear hbr
      by_cases hlt : k < q
      · obtain ⟨x, hx⟩ : ∃ y, ix[k]? = some y := ⟨_, List.getElem?_eq_getElem (by have := HQ.out; omega)⟩
        obtain ⟨j, c, hxj, hpj, hcl⟩ := NR.out.at (List.mem_of_getElem? hx)
        subst hxj
        have htk : t[k]? = some c := by rw [← TE.out]; exact atIdx_at hx hpj
        have hjm : j < m := by have := (List.getElem?_eq_some_iff.1 hpj).1; have := HY.out; omega
        obtain ⟨b5, off5, rfl, hbl5, ha5⟩ := IXr.out k _ hx
        obtain ⟨b, off, a, cp, rfl, hbl, hc, -, hml, hi⟩ := OTr.out.lies k c htk
        obtain ⟨b2, off2, a2, cc2, rfl, hbl2, hc2, -, -, hi2⟩ := Pr.out j c hpj
        have I1 := Lib.hid hi
        have I2 := Lib.hid hi2
        clear hx hpj htk hi hi2
        obtain ⟨z, hz⟩ : ∃ m, c.length = m := ⟨_, rfl⟩
        rw [hz] at hc hc2 hml hcl
        have HZ := Lib.hid hz
        clear hz
        go_wp2_with fail
        go_still_tail 8, (by kernel_rfl)
        change wpList _ _ _ _ _ wr.drew
        have BB2 : Hid (Below w8.heap.size w8 wr.drew) := BR.out.drew
        have I3 := Lib.hid (I1.out.below (Below.refl _ _).drew)
        have I4 := Lib.hid (I2.out.below (Below.refl _ _).drew)
        generalize wr.drew = w2 at BB2 I3 I4 ⊢
        clear hc hc2 ha5
        go_wp2_with (go_at_call 29; refine (sameInts_same _ _ _ _ _ c _ I3 I4 HZ (by omega)).mono ?_; rintro e w3 ⟨rfl, hb3⟩; have BB3 := Lib.hid (Below.tr BB2.out hb3); clear hb3)
        go_roundw
        case rel => exact ⟨k + 1, by omega, by go_num, BB3.out⟩
        case measure => simp [intOf]; omega
      · obtain rfl : k = q := by omega
        clear IX8 OT8 L8 P8 Y8 B8 BR
        go_wp2_with fail
        refine (number_any a1 len1 cap1 _ Yr).mono ?_
        rintro e w' ⟨⟨N, rfl, hN⟩, rfl⟩
        obtain ⟨j, hj⟩ : ∃ j, N % k = j := ⟨_, rfl⟩
        have hjk : j < k := by rw [← hj]; exact Nat.mod_lt _ hq0
        have hrem : Int.tmod (N : Int) (k : Int) = (j : Int) := by rw [← hj, Int.ofNat_tmod]
        have hk0 : ((k : Int) == 0) = false := by simp; omega
        have hwm : wrap64 (j : Int) = (j : Int) := by unfold wrap64; omega
        clear hj hlt
        go_wp2_with fail
        clear hrem hk0 hwm hdec hbig
        obtain ⟨g, cpx, hv9, hbg9, hgl9⟩ := OTr.out.outer.form (by have := HTL.out; omega)
        have hAt : At = some ⟨g, 0, none⟩ := by injection hv9
        have hcap : k ≤ ct := by have := own_cap (n := k) (by have := OTr.out.outer; rw [HTL.out] at this; exact this); exact this
        clear hv9
        subst hAt
        have hk1 : (j : Int) + 1 ≤ (k : Int) := by omega
        have hkc : j ≤ ct := by omega
        have hkc1 : j + 1 ≤ ct := by omega
        have hwr : IntKind.i64.wrap ((j : Int) + 1) = (j : Int) + 1 := IntWalk.i64_in _ (by omega)
        have hkt : ((j : Int) + 1).toNat = j + 1 := by omega
        obtain ⟨AQ, hAQ⟩ : ∃ x, (if ct = j + 1 then some (⟨g, 0, none⟩ : Addr) else some ⟨g, j + 1, none⟩) = x := ⟨_, rfl⟩
        obtain ⟨atr, hmin⟩ := TR.out.min (k := j) (by have := HTL.out; omega)
        have CM := Lib.hid hmin
        clear hmin
        have BD0 : Hid (Below wr.heap.size wr (wr.drew.alloc (.cells #[] 40))) := Lib.hid (Below.tr (Below.refl _ _).drew (below1 wr.drew _))
        have OD := Lib.hid (OTr.out.below BD0.out)
        have RD : Hid (Rows0 (wr.drew.alloc (.cells #[] 40)) (fun g => g < wr.heap.size) vt t) := Lib.hid ((OTr.out.cr.rows.mono (fun g h => h.1)).kept (.of_below (S := fun _ => False) BD0.out) (fun _ _ q => q))
        have VLN : Hid (vt.length = k) := Lib.hid (by rw [OTr.out.inner.len, HTL.out])
        have CE1 : Hid (∀ ad, some (⟨g, 0, none⟩ : Addr) = some ad → ∀ i u, (vt.take j)[i]? = some u → (wr.drew.alloc (.cells #[] 40)).cell? (ad.add i) = some u) := Lib.hid (by
          intro ad e i u hu
          obtain rfl := Option.some.inj e
          rw [List.getElem?_take] at hu
          split at hu
          · exact OD.out.outer.cells (g := g) rfl _ _ hu
          · simp at hu)
        have ONE1 : Hid (∀ u ∈ vt.take j, u.oneCell' = true) := Lib.hid (rows_one_cell (RD.out.take j))
        have ONE2 : Hid (∀ u ∈ vt.drop (j + 1), u.oneCell' = true) := Lib.hid (rows_one_cell (RD.out.drop (j + 1)))
        have VL1 : Hid ((vt.take j).length = j) := Lib.hid (by rw [List.length_take, VLN.out]; omega)
        have VL2 : Hid ((vt.drop (j + 1)).length = k - (j + 1)) := Lib.hid (by rw [List.length_drop, VLN.out])
        have HK1 : Hid ((t.take j).length = j) := Lib.hid (by rw [List.length_take, HTL.out]; omega)
        have NQ : Hid (AQ = none → k - (j + 1) = 0 ∧ ct - (j + 1) = 0) := Lib.hid (by
          intro e
          rw [e] at hAQ
          split at hAQ <;> simp at hAQ)
        have OL0 : Hid ((wr.drew.alloc (.cells #[] 40)).ownsRow wr.heap.size 40 1 (.slice (some ⟨wr.heap.size, 0, none⟩) 0 0) 0 []) := Lib.hid (World.ownsRow_lit wr.drew #[] 0 (Nat.le_refl _) (by unfold maxLen; omega) rfl)
        refine wp_region_held_drew (S := fun _ => True) (by kernel_rfl) ?_ (fun hHeld => ?_)
        · exact trivial
        refine wpAnyH_take (i := 1) (v := ?_) rfl (by kernel_rfl) (by kernel_rfl) (by kernel_rfl) (fun _ _ _ h => h) (Or.inl ⟨by rfl, ?_⟩) (by assumption) ?_
        rotate_left
        · intro W hSw
          try dsimp only at hSw
          go_simp
          try with_reducible rfl
        simp only [Act.put, List.setIfInBounds_toArray]
        refine wpAnyH_take (i := 2) (v := ?_) rfl (by kernel_rfl) (by kernel_rfl) (by kernel_rfl) (fun _ _ _ h => h) (Or.inl ⟨by rfl, ?_⟩) (by assumption) ?_
        rotate_left
        · intro W hSw
          try dsimp only at hSw
          go_simp
          try with_reducible rfl
        simp only [Act.put]
        refine wpAnyH_take (i := 3) (v := ?_) rfl (by kernel_rfl) (by kernel_rfl) (by kernel_rfl) (fun _ _ _ h => h) (Or.inl ⟨by rfl, ?_⟩) (by assumption) ?_
        rotate_left
        · intro W hSw
          try dsimp only at hSw
          go_simp
          try with_reducible rfl
        simp only [Act.put]
        refine wpAnyH_take (i := 5) (v := ?_) rfl (by kernel_rfl) (by kernel_rfl) (by kernel_rfl) (fun _ _ _ h => h) (Or.inl ⟨by rfl, ?_⟩) (by assumption) ?_
        rotate_left
        · intro W hSw
          try dsimp only at hSw
          go_simp
          try with_reducible rfl
        simp only [Act.put]
        refine wpAnyH_take (i := 6) (v := ?_) rfl (by kernel_rfl) (by kernel_rfl) (by kernel_rfl) (fun _ _ _ h => h) (Or.inl ⟨by rfl, ?_⟩) (by assumption) ?_
        rotate_left
        · intro W hSw
          try dsimp only at hSw
          go_simp
          try with_reducible rfl
        simp only [Act.put]
        refine wpAnyH_take (i := 7) (v := ?_) rfl (by kernel_rfl) (by kernel_rfl) (by kernel_rfl) (fun _ _ _ h => h) (Or.inl ⟨by rfl, ?_⟩) (by assumption) ?_
        rotate_left
        · intro W hSw
          try dsimp only at hSw
          go_simp
          try with_reducible rfl
        simp only [Act.put]
        refine wpAnyH_take (i := 8) (v := .slice AQ (k - (j + 1)) (ct - (j + 1))) rfl (by kernel_rfl) (by kernel_rfl) (by kernel_rfl) (fun _ _ _ h => h) (Or.inl ⟨by rfl, ?_⟩) (by assumption) ?_
        · intro W hSw
          try dsimp only at hSw
          go_simp
          intro hbad
          exfalso
          omega
        simp only [Act.put]
        refine wpAnyH_ready (rs := [0]) (by kernel_rfl) (by simp) ?_
        refine AllReadyH.cons rfl (fun K hK => ?_) AllReadyH.nil
        go_simp
        refine hK.out _ _ trivial (fun hHeld2 => ?_)
        clear hK K
        try simp only [Act.put, List.setIfInBounds_toArray, List.set_cons_zero, List.set_cons_succ]
        refine wpAnyH_ready (rs := [4]) (by kernel_rfl) (by simp) ?_
        refine AllReadyH.cons rfl (fun K hK => ?_) AllReadyH.nil
        refine step_rowsN (w1 := wr.drew.alloc (.cells #[] 40)) (base := wr.heap.size) (A := some ⟨wr.heap.size, 0, none⟩) (B := some ⟨g, 0, none⟩) (n := 0) (m := j) (c := 0) (c2 := ct) (xs := []) (vs := vt.take j) _ _ rfl rfl rfl rfl OL0.out CE1.out ONE1.out VL1.out (fun e => by cases e) (by simp) (by omega) (by omega) ?_
        intro A5 c5 w5 ho5 hk5 hat5
        rw [Nat.zero_add] at ho5 hat5 ⊢
        have CR5 := Lib.hid ((CR.nil _ _ OL0.out).append (L2 := t.take j) rfl HK1.out (RD.out.take j) (Nat.le_refl _) (by simp) (by rw [Nat.zero_add]; exact ho5) hk5 (by rw [Nat.zero_add]; exact hat5))
        rw [List.nil_append, List.nil_append, Nat.zero_add] at CR5
        have BD5 := Lib.hid (hk5.below BD0.out (by simp) (fun i e => (OL0.out.lt i e).1))
        have OU5 : Hid (w5.ownsRow wr.heap.size 40 1 (.slice A5 j c5) j (vt.take j)) := Lib.hid (by simpa using ho5)
        have O5 := Lib.hid (OTr.out.below BD5.out)
        have RD5 : Hid (Rows0 w5 (fun g => g < wr.heap.size) (vt.drop (j + 1)) (t.drop (j + 1))) := Lib.hid (((OTr.out.cr.rows.mono (fun g h => h.1)).kept (.of_below (S := fun _ => False) BD5.out) (fun _ _ q => q)).drop (j + 1))
        have CE2 : Hid (∀ ad, AQ = some ad → ∀ i u, (vt.drop (j + 1))[i]? = some u → w5.cell? (ad.add i) = some u) := Lib.hid (by
          intro ad e i u hu
          rw [List.getElem?_drop] at hu
          have hlt := (List.getElem?_eq_some_iff.1 hu).1
          rw [VLN.out] at hlt
          rw [if_neg (by omega)] at hAQ
          rw [← hAQ] at e
          obtain rfl := Option.some.inj e
          have := O5.out.outer.cells (g := g) rfl _ _ hu
          rw [add_plain] at this ⊢
          simpa using this)
        have Z5 := BD5.out.size
        refine hK.out _ _ trivial (fun hHeld3 => ?_)
        clear hK K ho5 hk5 hat5
        try simp only [Act.put, List.setIfInBounds_toArray]
        refine wpAnyH_ready (rs := [9]) (by kernel_rfl) (by simp) ?_
        refine AllReadyH.cons rfl (fun K hK => ?_) AllReadyH.nil
        refine step_rowsN (w1 := w5) (base := wr.heap.size) (A := A5) (B := AQ) (n := j) (m := k - (j + 1)) (c := c5) (c2 := ct - (j + 1)) (xs := vt.take j) (vs := vt.drop (j + 1)) _ _ rfl rfl rfl rfl OU5.out CE2.out ONE2.out VL2.out NQ.out Z5 (by omega) (by omega) ?_
        intro A6 c6 w6 ho6 hk6 hat6
        have CR6 := Lib.hid (CR5.out.append HK1.out (L2 := t.drop (j + 1)) (by rw [List.length_drop, HTL.out]) RD5.out (Nat.le_refl _) Z5 ho6 hk6 hat6)
        have BD6 := Lib.hid (hk6.below BD5.out Z5 (fun i e => (OU5.out.lt i e).1))
        have HL6 : Hid ((t.take j ++ t.drop (j + 1)).length = j + (k - (j + 1))) := Lib.hid (by rw [List.length_append, HK1.out, List.length_drop, HTL.out])
        refine hK.out _ _ trivial (fun hHeld4 => ?_)
        clear hK K ho6 hk6 hat6
        try simp only [Act.put]
        refine wpAnyH_take (i := 10) (v := ?_) rfl (by kernel_rfl) (by kernel_rfl) (by kernel_rfl) (fun _ _ _ h => h) (Or.inl ⟨by rfl, ?_⟩) (by assumption) ?_
        rotate_left
        · intro W hSw
          try dsimp only at hSw
          go_simp
          try with_reducible rfl
        simp only [Act.put]
        refine wpAnyH_done (by kernel_rfl) ?_ _
        have L6 := Lib.hid (Lr.out.below BD6.out)
        have Y6 := Lib.hid (Yr.out.below BD6.out)
        have B6 := Lib.hid (Below.tr Br.out BD6.out)
        have R6 := Lib.hid CR6.out.lies
        clear CR6 CR5 BD5 BD6 OU5 O5 RD5 CE2 CE1 RD OD BD0 OL0 ONE1 ONE2 Lr Yr Br Pr OTr IXr
        go_wp2_with fail
        refine (implCheck_any v _ _ _ _ _ _ L (t.take j ++ t.drop (j + 1)) _ false atr true CM L6 R6 HX HL6 HN (by omega) (by omega)).mono ?_
        rintro e w9 ⟨rfl, hb9⟩
        have Y9 := Lib.hid (Y6.out.below hb9)
        have B9 := Lib.hid (Below.tr B6.out hb9)
        clear hb9 Y6 B6 L6 R6
        go_wp2_with fail
        refine (drawIsAt_any a1 len1 cap1 _ Y9).mono ?_
        rintro e wa ⟨va, La, ga, Aa, Ba, ca, cb, ma, vsa, rfl, hva, hLa, hTa, hma, hmm, hmc, hoa, hia, hba⟩
        have LA := Lib.hid hoa.lies
        have NA := Lib.hid hoa.lnil
        have HNA := Lib.hid (own_nilA' hoa.outer)
        have IA := Lib.hid hia
        have HMA := Lib.hid hma
        have BA := Lib.hid (Below.tr B9.out hba)
        clear hoa hba hia hma
        obtain ⟨x, ok2, hat⟩ := atR_any va La ga
        have AT := Lib.hid hat
        clear hat
        obtain ⟨na, hna⟩ : ∃ n, La.length = n := ⟨_, rfl⟩
        rw [hna] at hLa HNA ⊢
        have HA := Lib.hid hna
        clear hna
        go_wp2_with fail
        refine (implIsAt_any va _ _ _ _ _ _ La ga _ x ok2 AT LA IA HA HMA (by omega) (by omega)).mono ?_
        rintro e wb ⟨rfl, hbb⟩
        have LB := Lib.hid (LA.out.below hbb)
        have IB := Lib.hid (IA.out.below hbb)
        have BB := Lib.hid (Below.tr BA.out hbb)
        clear hbb LA NA IA BA
        go_wp2_with fail
        refine (specIsAt_any va _ _ _ _ _ _ La ga _ x ok2 AT LB IB HA HMA (by omega) (by omega) hmc).mono ?_
        rintro e wc ⟨rfl, hbc⟩
        have LC := Lib.hid (LB.out.below hbc)
        have IC := Lib.hid (IB.out.below hbc)
        have BC := Lib.hid (Below.tr BB.out hbc)
        clear hbc LB IB BB
        have f1 : (ok2 != ok2) = false := by simp
        have f2 : (x != x) = false := by simp
        cases ok2
        · go_wp2
          go_ret
          exact ⟨rfl, BC.out⟩
        · cases x
          · go_wp2
            go_ret
            exact ⟨rfl, BC.out⟩
          · have hgc : goodB va La = true ∧ clauseB va ga = true := by have := AT.out.1.symm; rwa [Bool.and_eq_true] at this
            have hat2 : atB La ga = true := by have := AT.out.2.symm; simpa using this
            obtain ⟨f, four, hfo⟩ := folR_any va La ga
            have hff : four = true → f = true := fun e => by subst e; exact at_follows hgc.1 hgc.2 hat2 hfo
            have FO := Lib.hid hfo
            clear hgc hat2 hfo
            go_wp2_with fail
            refine (implFollows_any va _ _ _ _ _ _ La ga _ f four FO LC IC HA HMA HNA (by omega) (by omega)).mono ?_
            rintro e wd ⟨rfl, hbd⟩
            have BD := Lib.hid (Below.tr BC.out hbd)
            clear hbd LC IC BC
            cases four
            · go_wp2
              go_ret
              exact ⟨rfl, BD.out⟩
            · have hf := hff rfl
              subst hf
              go_wp2
              go_ret
              exact ⟨rfl, BD.out⟩
end Go.Proofs.Ytkkoeeoalkjhoaa
