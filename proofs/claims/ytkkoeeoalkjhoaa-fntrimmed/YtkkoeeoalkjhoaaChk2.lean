/-
  CheckProof: the model's check, CheckProof of both.
-/
import Derived.Test.YtkkoeeoalkjhoaaChk
import Derived.Laws.EntriesVeiled
namespace Go.Proofs.Ytkkoeeoalkjhoaa
open Go.ChangeShapes Go.WideShapes Go.ChangeAt Go.RowKit

set_option maxRecDepth 100000 in
set_option maxHeartbeats 4000000 in
theorem l6Check_any (v : Int) (A B D : Option Addr) (n m cap c2 c3 : Nat) (L p : List (List Int)) (d : List Bool) (w : World) (hl : Hid (LLies w A L)) (hlN : Hid (LNil w A L)) (hl2 : Hid (LLies w B p)) (hd : Hid (BLies w D d)) (HX : Hid (L.length = n)) (HY : Hid (p.length = m)) (HD : Hid (d.length = m)) (hn : n ≤ 60) (hm : m ≤ 300) (hv : v ≤ 12) (HL : Hid (∀ c ∈ L, clauseB v c = true)) (HP : Hid (∀ c ∈ p, clauseB v c = true)) :
    Calls Try.prog 50 #[.slice A n cap, .slice B m c2, .slice D m c3] w fun e w' => e = .returned (.tuple #[.bool (decide (wrongF L p d = m) && endsB p), .int .i64 (wrongF L p d : Nat)]) ∧ Below w.heap.size w w' := by
  obtain ⟨W, hW⟩ : ∃ W, wrongF L p d = W := ⟨_, rfl⟩
  have WS : Hid (WInv v n p d W 0 L) := Lib.hid (by have := WInv.start (p := p) (d := d) HL.out; rw [hW, HX.out] at this; exact this)
  have HT : Hid (tot L ≤ 1048576) := Lib.hid (by have := tot_few (R := L) (fun c hc => clauseB_len (HL.out c hc)); have := HX.out; unfold tot; omega)
  rw [hW]
  clear hW
  go_enter Try.func50, Try.ntmps50
  go_wp2_with fail
  refine (l5Copy_any _ _ _ L _ hl hlN HX (by omega) HT).mono ?_
  rintro e w1 ⟨A2, d2, vs, rfl, ho1, hb1⟩
  rw [HX.out] at ho1 ⊢
  have C1 := Lib.hid ho1.cr
  have B1 := Lib.hid hb1
  clear ho1 hb1
  go_wp2_with fail
  go_loopw [8, 16] (fun u i wr => ∃ (k q : Nat), k ≤ m ∧ i = .int .i64 k ∧ q ≤ n + k ∧ (∃ all A3 c3 ws, u = .slice A3 q c3 ∧ all.length = q ∧ CR wr w.heap.size (.slice A3 q c3) ws all ∧ WInv v n p d W k all) ∧ Below w.heap.size w wr) (fun _ i _ => m - (intOf i).toNat)
  case atStart => exact ⟨0, n, Nat.zero_le _, rfl, by omega, ⟨L, A2, d2, vs, rfl, HX.out, C1.out, WS.out⟩, B1.out⟩
  case round =>
    clear C1 B1 WS
    obtain ⟨k, q, hk, rfl, hq, ⟨all, A3, c3, ws, rfl, hal, hcr, hwi⟩, hbw⟩ := hrel
    have CW := Lib.hid hcr
    have BW := Lib.hid hbw
    have WI := Lib.hid hwi
    have AL := Lib.hid hal
    have LW := Lib.hid (hl2.out.below hbw)
    have DW := Lib.hid (hd.out.below hbw)
    have hbsz := hbw.size
    have LA := Lib.hid hcr.lies
    have HLA := Lib.hid hwi.2.1
    clear hcr hbw hwi hal
    by_cases hlt : k < m
    · obtain ⟨c, hx⟩ : ∃ x, p[k]? = some x := ⟨_, List.getElem?_eq_getElem (by have := HY.out; omega)⟩
      obtain ⟨b, off, a, cp, rfl, hbl, ha, hca, hma, hil⟩ := LW.out k c hx
      have HCL := Lib.hid (HP.out c (List.mem_of_getElem? hx))
      have HXK := Lib.hid hx
      have IL := Lib.hid hil
      have IB : Hid (∀ ad, a = some ad → 0 < c.length → ad.block < w.heap.size) := Lib.hid (fun ad e pz => by
        obtain ⟨b', off', a', cp', hA', _, ha', _, _, hil'⟩ := hl2.out k c hx
        have hA'' : b = b' ∧ off = off' := by simpa using hA'
        obtain ⟨rfl, rfl⟩ := hA''
        have e2 := (bcell BW.out).1 b (off + k) (World.block_lt_of_cell? w _ ha')
        rw [ha, ha'] at e2
        simp at e2
        rw [e2.1] at e
        exact hil'.blk ad e pz)
      clear hx hil
      obtain ⟨z, hz⟩ : ∃ m, c.length = m := ⟨_, rfl⟩
      rw [hz] at ha hca hma
      have HZ := Lib.hid hz
      clear hz
      obtain ⟨bd, hbd⟩ : ∃ x, d[k]? = some x := ⟨_, List.getElem?_eq_getElem (by have := HD.out; omega)⟩
      obtain ⟨b5, off5, rfl, hbl5, ha5⟩ := DW.out k bd hbd
      have HB := Lib.hid hbd
      clear hbd
      cases bd
      rotate_left
      · have W1 := Lib.hid (WI.out.skip HXK.out HB.out)
        go_wp2
        go_roundw
        case rel => exact ⟨k + 1, q, by omega, by go_num, by omega, ⟨all, A3, c3, ws, rfl, AL.out, CW.out, W1.out⟩, BW.out⟩
        case measure => simp [intOf]; omega
      cases hat : atB all c
      · have E := Lib.hid (WI.out.wrong HXK.out HB.out hat)
        go_wp2_with fail
        refine (l6AtOnce_any v _ _ _ _ _ _ all c _ LA IL AL HZ (by omega) hv HCL HLA).mono ?_
        rintro e w3 ⟨rfl, hb3⟩
        rw [hat]
        have B3 := Lib.hid (Below.tr BW.out hb3)
        clear hb3
        go_wp2
        go_ret2
        exact ⟨by rw [E.out, decide_eq_false (by omega)]; rfl, B3.out⟩
      · have W1 := Lib.hid (WI.out.right HXK.out HB.out hat HCL.out)
        go_wp2_with fail
        refine (l6AtOnce_any v _ _ _ _ _ _ all c _ LA IL AL HZ (by omega) hv HCL HLA).mono ?_
        rintro e w3 ⟨rfl, hb3⟩
        rw [hat]
        have B3 := Lib.hid (Below.tr BW.out hb3)
        have S3 := hb3.size
        have hbx := below1 w3 (.cells #[.slice a z cp] 40)
        have C3 := Lib.hid ((CW.out.below hb3).below hbx)
        have B4 := Lib.hid (Below.tr B3.out hbx)
        have I3 := Lib.hid ((IL.out.below hb3).below hbx)
        have OU : Hid ((w3.alloc (.cells #[.slice a z cp] 40)).ownsRow w.heap.size 40 1 (.slice A3 q c3) q ws) := Lib.hid (by have := C3.out.outer; rw [AL.out] at this; exact this)
        clear hb3 hbx
        go_wp2_with (at_builtin; (refine append_rowsN (w1 := w3.alloc (.cells #[.slice a z cp] 40)) (base := w.heap.size) (xs := ws) (vs := [.slice a z cp]) _ _ rfl rfl rfl rfl OU.out (fun ad e j u hu => by cases e; exact one_new1 w3 _ _ j u hu) (fun u hu => by rw [List.mem_singleton.1 hu]; rfl) rfl (fun e => by cases e) (by simp; omega) (by omega) (by omega) ?_; intro A4 c4 w4 ho4 hk4 hat4; have C4 := Lib.hid (C3.out.append (L2 := [c]) AL.out rfl (rows_one I3.out HZ.out hca hma (fun ad e pz => IB.out ad e (by rw [HZ.out]; exact pz))) (Nat.le_refl _) (by simp; omega) ho4 hk4 hat4); have B5 := Lib.hid (hk4.below B4.out (by simp; omega) (fun i e => (OU.out.lt i e).1)); clear ho4 hk4 hat4))
        go_roundw
        case rel => exact ⟨k + 1, q + 1, by omega, by go_num, by omega, ⟨all ++ [c], A4, c4, _, rfl, by rw [List.length_append, AL.out]; rfl, C4.out, W1.out⟩, B5.out⟩
        case measure => simp [intOf]; omega
    · obtain rfl : k = m := by omega
      have E : Hid (W = k) := Lib.hid (by have := WI.out; rw [← HY.out] at this; rw [this.done, HY.out])
      cases k with
      | zero =>
        have EE : Hid (endsB p = false) := Lib.hid (by rw [List.eq_nil_of_length_eq_zero HY.out]; rfl)
        go_wp2
        go_ret2
        exact ⟨by rw [E.out, EE.out]; rfl, BW.out⟩
      | succ j =>
        obtain ⟨c, hx⟩ : ∃ x, p[j]? = some x := ⟨_, List.getElem?_eq_getElem (by have := HY.out; omega)⟩
        obtain ⟨b, off, a, cp, rfl, hbl, ha, hca, hma, hil⟩ := LW.out j c hx
        have EE : Hid (endsB p = ((c.length : Int) == 0)) := Lib.hid (by rw [endsB_at HY.out hx]; by_cases h : c.length = 0 <;> simp [h])
        clear hx hil
        obtain ⟨z, hz⟩ : ∃ m, c.length = m := ⟨_, rfl⟩
        rw [hz] at ha hca hma EE
        clear hz
        have hpos : decide (((j + 1 : Nat) : Int) > 0) = true := by first | (simp; done) | (simp; omega)
        have hsub : ((j + 1 : Nat) : Int) - 1 = (j : Int) := by omega
        go_wp2
        go_ret2
        exact ⟨by rw [E.out, EE.out, decide_eq_true rfl, Bool.true_and]; rfl, BW.out⟩
theorem ret_bib {a a' b b' : Bool} {n n' : Int} (h1 : a = a') (h2 : n = n') (h3 : b = b') : Ending.returned (.tuple #[.bool a, .int .i64 n, .bool b]) = Ending.returned (.tuple #[.bool a', .int .i64 n', .bool b']) := by rw [h1, h2, h3]
theorem made_zeros {w : World} {base g m : Nat} {p : List (List Int)} (hp : p.length = m) (h : w.ownsRow base 4 1 (.slice (some ⟨g, 0, none⟩) m m) m (madeCells (Value.bool false).cells (m * 1)).toList) : Blk w g 4 ((zerosB p).map Value.bool) := by
  have := vblk_of_own h
  rw [made_false] at this
  unfold zerosB
  rw [List.map_replicate, hp]
  exact this
set_option maxRecDepth 100000 in
set_option maxHeartbeats 4000000 in
theorem specCheck_any (v : Int) (A B : Option Addr) (n m cap c2 : Nat) (L p : List (List Int)) (w : World) (is : Bool) (at_ : Nat) (ok : Bool) (hr : Hid (CheckR v L p is at_ ok)) (hl : Hid (LLies w A L)) (hlN : Hid (LNil w A L)) (hl2 : Hid (LLies w B p)) (HX : Hid (L.length = n)) (HY : Hid (p.length = m)) (hn : n ≤ 9223372036854775807) (hm : m ≤ 9223372036854775807) :
    Calls Try.prog 14 #[.int .i64 v, .slice A n cap, .slice B m c2] w fun e w' => e = .returned (.tuple #[.bool is, .int .i64 at_, .bool ok]) ∧ Below w.heap.size w w' := by
  obtain ⟨i0, hi0, hz0, hz1, hz2⟩ := info_parts info_bool
  cases q : (goodB v L && proofB v p)
  · have E := Lib.hid (hr.out.no q)
    go_enter Try.func14, Try.ntmps14
    go_wp2_with (go_at_call 49; refine (l6Good_any v _ _ _ _ _ _ L p _ hl hl2 HX HY hn hm).mono ?_; rintro e w' ⟨rfl, rfl⟩; rw [q])
    go_ret3
    exact ⟨ret_bib E.out.1.symm (by rw [E.out.2.1]; rfl) E.out.2.2.symm, Below.refl _ _⟩
  have q' := q
  rw [Bool.and_eq_true] at q'
  have hv := goodB_v q'.1
  have hv2 : v ≤ 12 := hv.2
  have hm3 : m ≤ 300 := by have := proofB_len q'.2; have := HY.out; omega
  have hn6 : n ≤ 60 := by have := goodB_len q'.1; have := HX.out; omega
  have HL := Lib.hid (goodB_cl q'.1)
  have HP := Lib.hid (proofB_cl q'.2)
  have E := Lib.hid (hr.out.yes q'.1 q'.2)
  have HD : Hid ((zerosB p).length = m) := Lib.hid (by unfold zerosB; rw [List.length_replicate]; exact HY.out)
  clear q' hv
  go_enter Try.func14, Try.ntmps14
  go_wp2_with (first
    | (go_at_call 49; refine (l6Good_any v _ _ _ _ _ _ L p _ hl hl2 HX HY hn hm).mono ?_; rintro e w' ⟨rfl, rfl⟩; rw [q])
    | (at_make; (refine wpList_make_full _ rfl _ _ 67 rfl w.heap.size 4 i0 _ 1 Try.underlying67 hi0 hz0 hz1 _ _ _ _ m rfl rfl (by omega) (by omega) (by rw [hz2]; omega) (by unfold maxLen; omega) (Nat.le_refl _) ?_; intro w1 hown1 hg1; have DZ := Lib.hid (made_zeros HY.out hown1).blies; have B1 := Lib.hid ((Below.refl w.heap.size w).grown hg1 (Nat.le_refl _) (by simp)); clear hown1 hg1)))
  have L1 := Lib.hid (hl.out.below B1.out)
  have N1 := Lib.hid (hlN.out.below hl.out B1.out)
  have P1 := Lib.hid (hl2.out.below B1.out)
  refine (l6Check_any v _ _ _ _ _ _ _ _ L p (zerosB p) _ L1 N1 P1 DZ HX HY HD hn6 hm3 hv2 HL HP).mono ?_
  rintro e w2 ⟨rfl, hb2⟩
  have B2 := Lib.hid (Below.tr B1.out hb2)
  clear hb2
  go_wp2
  go_ret3
  exact ⟨ret_bib (by rw [E.out.2.1, E.out.1, HY.out]) (by rw [E.out.1]) E.out.2.2.symm, B2.out⟩
set_option maxRecDepth 100000 in
set_option maxHeartbeats 4000000 in
theorem implCheck_any (v : Int) (A B : Option Addr) (n m cap c2 : Nat) (L p : List (List Int)) (w : World) (is : Bool) (at_ : Nat) (ok : Bool) (hr : Hid (CheckR v L p is at_ ok)) (hl : Hid (LLies w A L)) (hl2 : Hid (LLies w B p)) (HX : Hid (L.length = n)) (HY : Hid (p.length = m)) (HN : Hid (A = none → n = 0 ∧ cap = 0)) (hn : n ≤ 9223372036854775807) (hm : m ≤ 9223372036854775807) :
    Calls Try.prog 13 #[.int .i64 v, .slice A n cap, .slice B m c2] w fun e w' => e = .returned (.tuple #[.bool is, .int .i64 at_, .bool ok]) ∧ Below w.heap.size w w' := by
  cases q : (goodB v L && proofB v p)
  · have E := Lib.hid (hr.out.no q)
    go_enter Try.func13, Try.ntmps13
    go_wp2_with (go_at_call 45; refine (isProof_any v _ _ _ _ _ _ L p _ hl hl2 HX HY hn hm).mono ?_; rintro e w' ⟨rfl, rfl⟩; rw [q])
    go_ret3
    exact ⟨ret_bib E.out.1.symm (by rw [E.out.2.1]; rfl) E.out.2.2.symm, Below.refl _ _⟩
  have q' := q
  rw [Bool.and_eq_true] at q'
  have hv := goodB_v q'.1
  have hv2 : v ≤ 12 := hv.2
  have hm3 : m ≤ 300 := by have := proofB_len q'.2; have := HY.out; omega
  have hn6 : n ≤ 60 := by have := goodB_len q'.1; have := HX.out; omega
  have HL := Lib.hid (goodB_cl q'.1)
  have HP := Lib.hid (proofB_cl q'.2)
  obtain ⟨h1, h2, h3⟩ := hr.out.yes q'.1 q'.2
  have E1 := Lib.hid h1
  have E2 := Lib.hid h2
  have E3 := Lib.hid h3
  clear q' hv h1 h2 h3
  go_enter Try.func13, Try.ntmps13
  go_wp2_with (go_at_call 45; refine (isProof_any v _ _ _ _ _ _ L p _ hl hl2 HX HY hn hm).mono ?_; rintro e w' ⟨rfl, rfl⟩; rw [q])
  have hb0 := below1 w (.cells #[.slice A n cap, .slice B m c2, .func (.func 46) #[] #[]] 63)
  have B0 := Lib.hid hb0
  have L0 := Lib.hid (hl.out.below hb0)
  have P0 := Lib.hid (hl2.out.below hb0)
  clear hb0 q
  refine (firstWrong1_any v A B n m cap c2 L p _ L0 P0 HX HY HN hn6 hm3 hv2 HL HP).mono ?_
  rintro e w2 ⟨rfl, hb2⟩
  have B2 := Lib.hid (Below.tr B0.out hb2)
  have P2 := Lib.hid (P0.out.below hb2)
  clear hb2 B0 L0 P0
  rw [← E1.out]
  by_cases hw : at_ = m
  · have F : Hid (is = endsB p) := Lib.hid (by rw [E2.out, HY.out, decide_eq_true hw]; rfl)
    subst hw
    go_wp2_with (go_at_call 48; refine (endsEmpty_any _ _ _ p _ P2 HY (by omega)).mono ?_; rintro e w' ⟨rfl, rfl⟩)
    go_ret3
    exact ⟨ret_bib F.out.symm rfl E3.out.symm, B2.out⟩
  · have F : Hid (is = false) := Lib.hid (by rw [E2.out, HY.out, decide_eq_false hw]; rfl)
    have hne : ((at_ : Int) == (m : Int)) = false := by simp; omega
    go_wp2
    go_ret3
    exact ⟨ret_bib F.out.symm rfl E3.out.symm, B2.out⟩
end Go.Proofs.Ytkkoeeoalkjhoaa
