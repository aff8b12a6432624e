/-
  The model's Solve.
-/
import Derived.Test.YtkkoeeoalkjhoaaSolveI
namespace Go.Proofs.Ytkkoeeoalkjhoaa
open Go.ChangeShapes Go.WideShapes Go.ChangeAt Go.RowKit

theorem OwnSS.rows0 {w : World} {base : Nat} {v : Value} {vs : List Value} {L : List (List Int)} (h : OwnSS w base v vs L) : Rows0 w (blks vs) vs L := by
  refine ⟨h.inner.len, fun i l hl => ?_⟩
  obtain ⟨a, c, h1, h2⟩ := h.inner.row i l hl
  exact ⟨a, c, h1, own_cap h2, own_maxlen h2, own_ilies h2, fun ad e _ => ⟨i, _, h1, by rw [e]; rfl⟩⟩
theorem Roles.start {w : World} {base : Nat} {A : Option Addr} {n c : Nat} {vs : List Value} {L : List (List Int)} (h : OwnSS w base (.slice A n c) vs L) : Roles w base (blks vs) L [] [] (.slice A n c) (.slice none 0 0) (.slice none 0 0) vs [] :=
  ⟨by rw [List.append_nil]; exact h.outer, h.rows0, OwnSS.nil _ _, World.ownsRow_nil _ _ _ _, fun g e => (h.inner.lt g e).2,
    fun g e => ⟨fun q => h.off g q e, fun q => by obtain ⟨i, x, hx, _⟩ := q; simp at hx, by simp [Value.ownBlock], by simp [Value.ownBlock]⟩, fun g e => by simp [Value.ownBlock] at e, fun g e => by simp [Value.ownBlock] at e⟩
/-- where the model's search stands -/
def StandM (w0 : World) (I0 : Nat → Prop) (V : Nat) (L : List (List Int)) (vsL : List Value) (res : Option (Bool × List Bool × List (List Int))) (all lrn dec : Value) (w : World) : Prop :=
  ∃ P D Ac cc Al cl Ad cd vsP, all = .slice Ac (L.length + P.length) cc ∧ lrn = .slice Al P.length cl ∧ dec = .slice Ad D.length cd ∧
    Roles w w0.heap.size I0 L P D (.slice Ac (L.length + P.length) cc) (.slice Al P.length cl) (.slice Ad D.length cd) vsL vsP ∧ SInv V L res P D ∧ Below w0.heap.size w0 w
set_option maxRecDepth 100000 in
set_option maxHeartbeats 8000000 in
theorem l5Solve_any (V : Nat) (A : Option Addr) (n cap : Nat) (L : List (List Int)) (w : World) (s : Bool) (M : List Bool) (R : List (List Int)) (ok : Bool) (ST : Hid (SInv V L (if ok then some (s, M, R) else none) [] [])) (HOK : Hid (ok = false → s = false ∧ M = [] ∧ R = [])) (hl : Hid (LLies w A L)) (hl2 : Hid (LNil w A L)) (HX : Hid (L.length = n)) (hv : V ≤ 12) (hn : n ≤ 60) (HC : Hid (∀ c ∈ L, clauseB V c = true)) (HT : Hid (tot L ≤ 1048576)) :
    Calls Try.prog 79 #[.int .i64 V, .slice A n cap] w (GaveSol w s M R ok) := by
  obtain ⟨i0, hi0, hz0, hz1, hz2⟩ := info_parts info_int
  obtain ⟨iB, hiB, hb0, hb1, hb2⟩ := info_parts info_bool
  obtain ⟨iS, hiS, hs0, hs1, hs2⟩ := info_parts info_ints
  go_enter Try.func79, Try.ntmps79
  go_wp2_with fail
  refine (l5Copy_any _ _ _ L _ hl hl2 HX (by omega) HT).mono ?_
  rintro e w1 ⟨A1, c1, vsL, rfl, ho1, hbw1⟩
  obtain ⟨res, hres⟩ : ∃ res, (if ok then some (s, M, R) else none) = res := ⟨_, rfl⟩
  rw [hres] at ST
  have HRES := Lib.hid hres
  have START : Hid (StandM w (blks vsL) V L vsL res (.slice A1 L.length c1) (.slice none 0 0) (.slice none 0 0) w1) := Lib.hid ⟨[], [], A1, c1, none, 0, none, 0, [], rfl, rfl, rfl, Roles.start ho1, ST.out, hbw1⟩
  have NOK : Hid (res = none → GaveSol w s M R ok = GaveSol w false [] [] false) := Lib.hid (fun e => by
    have h1 := HRES.out
    rw [e] at h1
    cases ok
    · obtain ⟨rfl, rfl, rfl⟩ := HOK.out rfl; rfl
    · simp at h1)
  have YES : Hid (∀ s' M' R', res = some (s', M', R') → s = s' ∧ M = M' ∧ R = R' ∧ ok = true) := Lib.hid (fun s' M' R' e => by
    have h1 := HRES.out
    rw [e] at h1
    cases ok
    · simp at h1
    · simp at h1; exact ⟨h1.1, h1.2.1, h1.2.2, rfl⟩)
  clear hres ho1 hbw1 ST HRES HOK
  go_wp2_with fail
  go_loopw [8, 9, 10] (fun all lrn dec wr => StandM w (blks vsL) V L vsL res all lrn dec wr) (fun _ lrn dec _ => mes (lenOf lrn) (lenOf dec))
  case atStart => exact START.out
  case round =>
    clear START
    obtain ⟨P, D, Ac, cc, Al, cl, Ad, cd, vsP, rfl, rfl, rfl, hro, hi, hbw⟩ := hrel
    obtain ⟨r, b, hpr⟩ : ∃ r b, propN (L ++ P) 20 D = (r, b) := ⟨_, _, rfl⟩
    have I1 := Lib.hid hi
    have RO := Lib.hid hro
    have BW := Lib.hid hbw
    have hbsz := hbw.size
    have hd12 := clauseB_len hi.2.1
    have hp3 : P.length ≤ 300 := hi.2.2.1
    have HCD := Lib.hid hi.2.1
    have HP : Hid (PInv V (L ++ P) r b D) := Lib.hid (pinv_start (by omega) hi.2.1 hpr)
    have HCL : Hid (∀ c ∈ L ++ P, clauseB V c = true) := Lib.hid (fun c hc => by
      rcases List.mem_append.1 hc with q | q
      · exact HC.out c q
      · exact hi.2.2.2 c q)
    have LIT : Hid (∀ c ∈ L ++ P, ∀ x ∈ c, litB V x = true) := Lib.hid (fun c hc x hx => clauseB_lits (HCL.out c hc) x hx)
    have LEN : Hid (∀ c ∈ L ++ P, c.length ≤ 1000000) := Lib.hid (fun c hc => by have := clauseB_len (HCL.out c hc); omega)
    have HDI : Hid (In12 D) := Lib.hid (lits_in12 (by omega) (clauseB_lits hi.2.1))
    have HRL : Hid (∀ x ∈ r, litB V x = true) := Lib.hid (propN_lits LIT.out (clauseB_lits hi.2.1) hpr)
    have hrl : r.length ≤ 1000 := by have := propN_len hpr; omega
    have HPR := Lib.hid hpr
    have LL := Lib.hid hro.lies
    have HDL := Lib.hid (own_ilies hro.d)
    have HDN := Lib.hid (own_nilA hro.d)
    clear hro hi hbw hpr
    obtain ⟨d, hdd⟩ : ∃ d, D.length = d := ⟨_, rfl⟩
    obtain ⟨nn, hnn⟩ : ∃ n, L.length + P.length = n := ⟨_, rfl⟩
    obtain ⟨p, hpp⟩ : ∃ p, P.length = p := ⟨_, rfl⟩
    have hn4 : nn ≤ 400 := by have := HX.out; omega
    rw [hdd] at hd12 HDN ⊢
    rw [hnn, hpp]
    rw [hpp] at hp3
    have HDD := Lib.hid hdd
    have HNN : Hid ((L ++ P).length = nn) := Lib.hid (by rw [List.length_append]; exact hnn)
    have HNN2 := Lib.hid hnn
    have HPP := Lib.hid hpp
    clear hdd hnn hpp
    go_wp2_with fail
    refine (l4Prop_any V _ _ _ _ _ _ (L ++ P) D _ r b HP LL HDL HNN HDD HDN (by omega) (by omega) (by omega) LIT LEN).mono ?_
    rintro e wa ⟨A3, c3, rfl, ho3, hb3⟩
    have RA := Lib.hid (RO.out.below hb3)
    have BA := Lib.hid (BW.out.trans (hb3.mono hbsz))
    have O3 := Lib.hid (own_ilies ho3)
    have hbsa := hb3.size
    clear ho3 hb3 RO BW LL HDL
    obtain ⟨q, hq⟩ : ∃ q, r.length = q := ⟨_, rfl⟩
    rw [hq] at hrl ⊢
    have HQ := Lib.hid hq
    clear hq
    go_wp2_with fail
    refine (l5First_any V _ _ _ r _ O3 HQ hrl hv).mono ?_
    rintro e w' ⟨rfl, rfl⟩
    cases b
    · by_cases hx0 : firstV V r = 0
      · have RES := Lib.hid (YES.out _ _ _ (I1.out.yes HPR.out hx0))
        have TP : Hid (tot P ≤ 1048576) := Lib.hid (by have := tot_few (R := P) (fun c hc => clauseB_len (I1.out.2.2.2 c hc)); have := HPP.out; unfold tot; omega)
        rw [hx0]
        clear hx0
        go_wp2_with (at_make; (refine wpList_make_full _ rfl _ _ 67 rfl wa.heap.size 4 iB _ 1 Try.underlying67 hiB hb0 hb1 _ _ _ _ V rfl rfl (by omega) (by omega) (by rw [hb2]; omega) (by unfold maxLen; omega) (Nat.le_refl _) ?_; intro wm hown1 hg1; have MC := Lib.hid (model_start hown1); have MB := Lib.hid ((Below.refl wa.heap.size wa).grown hg1 (Nat.le_refl _) (by simp)); clear hown1 hg1))
        go_loopw [33] (fun i wj => ∃ k : Nat, k ≤ q ∧ i = .int .i64 k ∧ Blk wj wa.heap.size 4 ((modelW V (r.take k)).map Value.bool) ∧ Below wa.heap.size wa wj) (fun i _ => q - (intOf i).toNat)
        case atStart => exact ⟨0, Nat.zero_le _, rfl, MC.out, MB.out⟩
        case round =>
          obtain ⟨k, hk, rfl, hc, hb⟩ := hrel
          have C1 := Lib.hid hc
          have B1 := Lib.hid hb
          clear hc hb MC MB
          by_cases hlt : k < q
          · obtain ⟨x, hx⟩ : ∃ x, r[k]? = some x := ⟨_, List.getElem?_eq_getElem (by have := HQ.out; omega)⟩
            obtain ⟨b, off, rfl, hbl, ha⟩ := (O3.out.below B1.out) k x hx
            have hxr := litB_iff.1 (HRL.out x (List.mem_of_getElem? hx))
            have hx1 : -12 ≤ x := by omega
            have hx2 : x ≤ V := hxr.2.2
            have HXK := Lib.hid hx
            clear hx hxr
            by_cases hp : 0 < x
            · obtain ⟨j, hj⟩ : ∃ j : Nat, x = (j : Int) + 1 := ⟨(x - 1).toNat, by omega⟩
              obtain ⟨b0, t0⟩ := model_cell C1.out (i := j) (by omega)
              have f0 := C1.out.frozen j
              have SP := Lib.hid (model_step C1.out HXK.out (by omega))
              rw [show (x - 1).toNat = j by omega] at SP
              subst hj
              have hjv : j < V := by omega
              have hpd : decide ((0 : Int) < (j : Int) + 1) = true := by simp
              clear C1 hp
              go_wp2
              go_roundw
              case rel => exact ⟨k + 1, by omega, by go_num, SP.out, B1.out.setCell (Nat.le_refl _) _⟩
              case measure => simp [intOf]; omega
            · have SM := Lib.hid (modelW_neg V HXK.out (by omega))
              go_wp2
              go_roundw
              case rel => exact ⟨k + 1, by omega, by go_num, by rw [SM.out]; exact C1.out, B1.out⟩
              case measure => simp [intOf]; omega
          · obtain rfl : k = q := by omega
            have MW := Lib.hid (by have h := C1.out; rw [List.take_of_length_le (by have := HQ.out; omega)] at h; exact h)
            have RB := Lib.hid (RA.out.below B1.out)
            have PL := Lib.hid RB.out.p.lies
            have PN := Lib.hid RB.out.p.lnil
            go_wp2_with fail
            refine (l5Copy_any _ _ _ P _ PL PN HPP (by omega) TP).mono ?_
            rintro e wz ⟨AZ, cz, vz, rfl, hoz, hbz⟩
            have OZ := Lib.hid hoz
            have BZ := Lib.hid hbz
            have hMl : (modelW V r).length = V := modelW_len _ _
            have MZ := Lib.hid (MW.out.below hbz)
            have hlt2 : wa.heap.size < wr.heap.size := MW.out.lt
            clear hoz hbz
            go_wp2
            (try simp only [Exit.inBlock, Exit.then]); refine bodyPost_ret (results_tmp4 rfl _ _ _) rfl ?_
            obtain ⟨rfl, rfl, rfl, rfl⟩ := RES.out
            refine ⟨some ⟨wa.heap.size, 0, none⟩, V, AZ, cz, vz, by rw [hMl]; rfl, ?_, ⟨own_base OZ.out.outer (by have := BA.out.size; omega), OZ.out.inner.base (by have := BA.out.size; omega), OZ.out.off⟩, fun g e => ?_, ?_⟩
            · rw [hMl]
              exact own_base (own_of_vblk MZ.out (by simpa using hMl) (by omega)) (by have := BA.out.size; omega)
            · have e' : g = wa.heap.size := by simp [Value.ownBlock] at e; exact e.symm
              subst e'
              exact ⟨fun h => by have := (OZ.out.outer.lt _ h).1; omega, fun h => by have := (OZ.out.inner.lt _ h).1; omega⟩
            · exact (BA.out.trans (B1.out.mono BA.out.size)).trans (BZ.out.mono (by have := BA.out.size; omega))
      · have I2 := Lib.hid (I1.out.on hv HPR.out hx0)
        have hx2 := firstV_some hx0
        obtain ⟨x, hxe⟩ : ∃ x, firstV V r = x := ⟨_, rfl⟩
        rw [hxe] at hx2 I2 ⊢
        have hxa : 1 ≤ x := hx2.1
        have hxb : x ≤ 12 := by omega
        have hx0' : decide (x > 0) = true := by simp; omega
        clear hx0 hx2 hxe
        have DL := Lib.hid (own_ilies RA.out.d)
        go_wp2_with (first
          | (at_builtin; (refine append_ints (w1 := wa.alloc (.cells #[] 3)) (base := wa.heap.size) (xs := []) (l := D) _ _ rfl rfl rfl rfl (World.ownsRow_lit wa #[] 0 (Nat.le_refl _) (by unfold maxLen; omega) rfl) (DL.out.below (below1 wa _)) HDD.out HDN.out (by simp) (by omega) (by omega) ?_; intro g4 c4 w4 ho4 hg4 hat4; have O4 : Hid (w4.ownsRow wa.heap.size 3 1 (.slice (some ⟨g4, 0, none⟩) d c4) d (D.map (Value.int .i64))) := Lib.hid (by simpa using ho4); have B4 := Lib.hid ((below1 wa _).grown hg4 (by simp) (fun g e => by cases e; exact Nat.le_refl _)); have hs4 := B4.out.size; rw [Nat.zero_add]; clear ho4 hg4 hat4))
          | (at_builtin; (refine wpList_append_lies _ rfl _ _ 40 rfl wa.heap.size 3 i0 (.int .i64 0) 1 8 Try.underlying40 hi0 hz0 hz1 hz2 rfl (by omega) _ d _ rfl (O4.out.alloc _) ⟨w4.heap.size, 0, none⟩ 1 1 [.int .i64 x] rfl rfl (one_new1 w4 _ _) (by intro u hu; rw [List.mem_singleton.1 hu]; rfl) (by omega) (by unfold maxLen; omega) (by omega) (by first | omega | (simp; omega)) (w4.heap.size + 1) (by first | rfl | simp) ?_; intro g5 cap5 w5 hown5 hg5 hat5 hlt5; have H5 := Lib.hid (app1 O4.out hown5 hg5 B4.out (Nat.le_refl _)); clear hown5 hg5 hat5 hlt5)))
        go_roundw
        case rel =>
          have hD1 : (D ++ [x]).length = d + 1 := by rw [List.length_append, HDD.out]; rfl
          have DE := RA.out.decide (S := fun _ => False) (D' := D ++ [x]) (E' := .slice (some ⟨g5, 0, none⟩) (d + 1) cap5) (fun g e => e.elim) (Kept.of_below H5.out.2) (by rw [hD1]; exact own_base H5.out.1 BA.out.size) (fun g e => .inr (by
            have := (H5.out.1.lt g e).1
            exact this))
          refine ⟨P, D ++ [x], Ac, cc, Al, cl, some ⟨g5, 0, none⟩, cap5, vsP, by rw [HNN2.out], by rw [HPP.out], by rw [hD1], ?_, I2.out, BA.out.trans (H5.out.2.mono BA.out.size)⟩
          rw [hD1]
          exact DE.1
        case measure =>
          have := clauseB_len I2.out.2.1
          rw [List.length_append, HDD.out] at this
          simp [mes, lenOf] at this ⊢
          omega
    · by_cases h3 : p = 300
      · subst h3
        have RES := Lib.hid (NOK.out (I1.out.over HPR.out HPP.out))
        go_wp2
        (try simp only [Exit.inBlock, Exit.then]); refine bodyPost_ret (results_tmp4 rfl _ _ _) rfl ?_
        rw [RES.out]
        exact sol_no BA.out
      · have h3' : ((p : Int) == 300) = false := by simp; omega
        have HP3 : Hid (P.length ≠ 300) := Lib.hid (by rw [HPP.out]; exact h3)
        have DL := Lib.hid (own_ilies RA.out.d)
        go_wp2_with fail
        refine (l5Negate_any _ _ _ D _ DL HDD HDI (by omega)).mono ?_
        rintro e wb ⟨A4, c4, rfl, ho4, hb4⟩
        have O4 := Lib.hid ho4
        have B4 := Lib.hid hb4
        have hsb := hb4.size
        clear ho4 hb4
        have OP : Hid (wb.ownsRow w.heap.size 40 1 (.slice Al p cl) p vsP) := Lib.hid (by have := own_below RA.out.p.outer B4.out; rw [HPP.out] at this; exact this)
        have OC : Hid (wb.ownsRow w.heap.size 40 1 (.slice Ac nn cc) nn (vsL ++ vsP)) := Lib.hid (by have := own_below RA.out.c B4.out; rw [HNN2.out] at this; exact this)
        have OFF : Hid (∀ g, (Value.slice Ac nn cc).ownBlock = some g → (Value.slice Al p cl).ownBlock ≠ some g) := Lib.hid (by
          have c := RA.out.ci
          rw [HNN2.out, HPP.out] at c
          exact fun g e => (c g e).2.2.1)
        obtain ⟨z, hz⟩ : ∃ z, (negL D).length = z := ⟨_, rfl⟩
        rw [hz] at O4 ⊢
        have HZ := Lib.hid hz
        clear hz
        have hws : w.heap.size ≤ wa.heap.size := BA.out.size
        by_cases hD : D = []
        · have hd0 : d = 0 := by rw [← HDD.out, hD]; rfl
          subst hd0
          have RES := Lib.hid (YES.out _ _ _ (by subst hD; exact I1.out.no HPR.out HP3.out))
          go_wp2_with (first
            | (at_builtin; (refine wpList_append_lies _ rfl _ _ 23 rfl w.heap.size 40 iS (.slice none 0 0) 1 24 Try.underlying23 hiS hs0 hs1 hs2 rfl (by omega) _ p _ rfl (OP.out.alloc _) ⟨wb.heap.size, 0, none⟩ 1 1 [.slice A4 z c4] rfl rfl (one_new1 wb _ _) (by intro u hu; rw [List.mem_singleton.1 hu]; rfl) (by omega) (by unfold maxLen; omega) (by omega) (by first | omega | (simp; omega)) (wb.heap.size + 1) (by first | rfl | simp) ?_; intro g5 cap5 w5 hownx hgx hatx hltx; have KA := Lib.hid (kept_app hgx); have OW5 := Lib.hid hownx; have AT5 := Lib.hid hatx; have hs5 := KA.out.size; have OC2 := Lib.hid (KA.out.own OC.out (fun g e r => OFF.out g e r)); clear hownx hgx hatx hltx))
            | (at_builtin; (refine wpList_append_lies _ rfl _ _ 23 rfl w.heap.size 40 iS (.slice none 0 0) 1 24 Try.underlying23 hiS hs0 hs1 hs2 rfl (by omega) _ nn _ rfl (OC2.out.alloc _) ⟨w5.heap.size, 0, none⟩ 1 1 [.slice A4 z c4] rfl rfl (one_new1 w5 _ _) (by intro u hu; rw [List.mem_singleton.1 hu]; rfl) (by omega) (by unfold maxLen; omega) (by omega) (by first | omega | (simp; omega)) (w5.heap.size + 1) (by first | rfl | simp) ?_; intro g6 cap6 w6 hownx hgx hatx hltx; have KC := Lib.hid (kept_app hgx); have OW6 := Lib.hid hownx; have AT6 := Lib.hid hatx; have hs6' := KC.out.size; clear hownx hgx hatx hltx)))
          have LE := Lib.hid (RA.out.learn (S := fun _ => False) hws (fun g e => e.elim) B4.out (by rw [HZ.out]; exact O4.out) (by rw [HPP.out]; exact KA.out.mono (fun g e => .inl e)) (by rw [HZ.out, HPP.out]; exact OW5.out) (by rw [HPP.out]; exact AT5.out.elim .inl (fun q => .inr (by omega))) (by rw [HNN2.out]; exact KC.out.mono (fun g e => .inl e)) (by rw [HZ.out, HNN2.out]; exact OW6.out) (by rw [HNN2.out]; exact AT6.out.elim .inl (fun q => .inr (by omega))))
          have PP : Hid ((P ++ [negL D]).length = p + 1) := Lib.hid (by rw [List.length_append, HPP.out]; rfl)
          have OWN : Hid (OwnSS w6 w.heap.size (.slice (some ⟨g5, 0, none⟩) (p + 1) cap5) (vsP ++ [.slice A4 (negL D).length c4]) (P ++ [negL D])) := Lib.hid (by have := LE.out.1.p; rw [HPP.out] at this; exact this)
          have PL := Lib.hid OWN.out.lies
          have PN := Lib.hid OWN.out.lnil
          have TP : Hid (tot (P ++ [negL D]) ≤ 1048576) := Lib.hid (by have := tot_few (R := P) (fun c hc => clauseB_len (I1.out.2.2.2 c hc)); have := HPP.out; rw [tot_snoc, negL_len, HDD.out]; unfold tot; omega)
          have B6 : Hid (Below w.heap.size wa w6) := Lib.hid (by
            have b1 := KA.out.below (B4.out.mono hws) (by omega) (fun i e => (OP.out.lt i e).1)
            exact KC.out.below b1 (by omega) (fun i e => (OC.out.lt i e).1))
          have hs6 := B6.out.size
          refine (l5Copy_any _ _ _ (P ++ [negL D]) _ PL PN PP (by omega) TP).mono ?_
          rintro e wz ⟨AZ, cz, vz, rfl, hoz, hbz⟩
          have hN0 : P ++ [negL D] = P ++ [[]] := by rw [hD]; rfl
          rw [hN0] at hoz ⊢
          have OZ := Lib.hid hoz
          have BZ := Lib.hid hbz
          clear hoz hbz
          go_wp2
          (try simp only [Exit.inBlock, Exit.then]); refine bodyPost_ret (results_tmp4 rfl _ _ _) rfl ?_
          obtain ⟨rfl, rfl, rfl, rfl⟩ := RES.out
          subst hD
          exact ⟨none, 0, AZ, cz, vz, by rw [List.length_append]; rfl, World.ownsRow_nil _ _ _ _, ⟨own_base OZ.out.outer (by omega), OZ.out.inner.base (by omega), OZ.out.off⟩, fun g e => by simp [Value.ownBlock] at e, (BA.out.trans B6.out).trans (BZ.out.mono (by omega))⟩
        · have hd1 : 0 < d := by rw [← HDD.out]; exact List.length_pos_iff.2 hD
          have hd0 : ((d : Int) == 0) = false := by simp; omega
          have I2 := Lib.hid (I1.out.back HPR.out HP3.out hD)
          obtain ⟨k, rfl⟩ : ∃ k, d = k + 1 := ⟨d - 1, by omega⟩
          have hcap : k + 1 ≤ cd := by have := own_cap RA.out.d; have := HDD.out; omega
          have hkc : (k : Int) ≤ (cd : Int) := by omega
          have hk0 : (0 : Int) ≤ (k : Int) := by omega
          go_wp2_with (first
            | (at_builtin; (refine wpList_append_lies _ rfl _ _ 23 rfl w.heap.size 40 iS (.slice none 0 0) 1 24 Try.underlying23 hiS hs0 hs1 hs2 rfl (by omega) _ p _ rfl (OP.out.alloc _) ⟨wb.heap.size, 0, none⟩ 1 1 [.slice A4 z c4] rfl rfl (one_new1 wb _ _) (by intro u hu; rw [List.mem_singleton.1 hu]; rfl) (by omega) (by unfold maxLen; omega) (by omega) (by first | omega | (simp; omega)) (wb.heap.size + 1) (by first | rfl | simp) ?_; intro g5 cap5 w5 hownx hgx hatx hltx; have KA := Lib.hid (kept_app hgx); have OW5 := Lib.hid hownx; have AT5 := Lib.hid hatx; have hs5 := KA.out.size; have OC2 := Lib.hid (KA.out.own OC.out (fun g e r => OFF.out g e r)); clear hownx hgx hatx hltx))
            | (at_builtin; (refine wpList_append_lies _ rfl _ _ 23 rfl w.heap.size 40 iS (.slice none 0 0) 1 24 Try.underlying23 hiS hs0 hs1 hs2 rfl (by omega) _ nn _ rfl (OC2.out.alloc _) ⟨w5.heap.size, 0, none⟩ 1 1 [.slice A4 z c4] rfl rfl (one_new1 w5 _ _) (by intro u hu; rw [List.mem_singleton.1 hu]; rfl) (by omega) (by unfold maxLen; omega) (by omega) (by first | omega | (simp; omega)) (w5.heap.size + 1) (by first | rfl | simp) ?_; intro g6 cap6 w6 hownx hgx hatx hltx; have KC := Lib.hid (kept_app hgx); have OW6 := Lib.hid hownx; have AT6 := Lib.hid hatx; have hs6' := KC.out.size; clear hownx hgx hatx hltx)))
          go_roundw
          case rel =>
            have LE := RA.out.learn (S := fun _ => False) hws (fun g e => e.elim) B4.out (by rw [HZ.out]; exact O4.out) (by rw [HPP.out]; exact KA.out.mono (fun g e => .inl e)) (by rw [HZ.out, HPP.out]; exact OW5.out) (by rw [HPP.out]; exact AT5.out.elim .inl (fun q => .inr (by omega))) (by rw [HNN2.out]; exact KC.out.mono (fun g e => .inl e)) (by rw [HZ.out, HNN2.out]; exact OW6.out) (by rw [HNN2.out]; exact AT6.out.elim .inl (fun q => .inr (by omega)))
            have B6 : Below w.heap.size wa w6 := by
              have b1 := KA.out.below (B4.out.mono hws) (by omega) (fun i e => (OP.out.lt i e).1)
              exact KC.out.below b1 (by omega) (fun i e => (OC.out.lt i e).1)
            have hP1 : (P ++ [negL D]).length = p + 1 := by rw [List.length_append, HPP.out]; rfl
            have hD1 : (D.take (D.length - 1)).length = k := by rw [List.length_take, HDD.out]; omega
            have DE := LE.1.decide (w2 := w6) (S := fun _ => False) (D' := D.take (D.length - 1)) (E' := .slice Ad k cd) (fun g e => e.elim) (Kept.refl _ _) (by
              rw [hD1]
              have := own_cut (m := k) LE.1.d (by rw [HDD.out]; omega)
              rw [← List.map_take] at this
              rw [HDD.out]
              exact this) (fun g e => .inl (by cases Ad <;> exact e))
            refine ⟨P ++ [negL D], D.take (D.length - 1), some ⟨g6, 0, none⟩, cap6, some ⟨g5, 0, none⟩, cap5, Ad, cd, vsP ++ [.slice A4 (negL D).length c4], by rw [hP1, ← HNN2.out, HPP.out, Nat.add_assoc], by rw [hP1], by rw [hD1], ?_, I2.out, BA.out.trans B6⟩
            rw [hP1, hD1]
            have := DE.1
            rw [HPP.out] at this
            exact this
          case measure =>
            simp [mes, lenOf]
            omega
end Go.Proofs.Ytkkoeeoalkjhoaa
