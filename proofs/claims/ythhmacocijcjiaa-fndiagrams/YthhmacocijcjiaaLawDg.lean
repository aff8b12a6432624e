/-
  The walk of FnDiagrams.
-/
import Derived.Test.YthhmacocijcjiaaLawDgH
import Derived.Test.YthhmacocijcjiaaSp7
namespace Go.Proofs.Ythhmacocijcjiaa
open Go.ChangeShapes Go.WideShapes Go.ChangeAt Go.RowKit

set_option maxRecDepth 100000 in
set_option maxHeartbeats 64000000 in
theorem lawDiagrams (a0 : Option Addr) (len0 cap0 : Nat) (a1 : Option Addr) (len1 cap1 : Nat) (w : World) (h0 : Hid (Bytes w a0 len0)) (h1 : Hid (Bytes w a1 len1)) :
    Calls Try.prog 3 #[.slice a0 len0 cap0, .slice a1 len1 cap1] w fun e w' => e = .returned (.bool true) ∧ Below w.heap.size w w' := by
  go_enter Try.func3, Try.ntmps3
  go_wp2_with fail
  · go_ret
    exact ⟨rfl, Below.refl _ _⟩
  refine (drawDiag_any a0 len0 cap0 _ h0).mono ?_
  rintro e w1 ⟨p, T, AT, cT, rfl, hp6, hT65, hlT, hb⟩
  have S1 := Lib.hid (hb.size)
  have B1 := Lib.hid hb
  have FT_1 := Lib.hid hlT
  clear hlT hb
  obtain ⟨n, hn⟩ : ∃ n, T.length = n := ⟨_, rfl⟩
  have TL := Lib.hid hn
  rw [hn] at hT65 ⊢
  clear hn
  obtain ⟨⟨⟨d0, ds, d2⟩, ok⟩, hr⟩ : ∃ x, rDiag p T = x := ⟨_, rfl⟩
  have hdz := (rDiag_in hr).1
  have HR := Lib.hid hr
  clear hr
  obtain ⟨z, hz⟩ : ∃ z, ds.length = z := ⟨_, rfl⟩
  have DL := Lib.hid hz
  rw [hz] at hdz
  clear hz
  go_wp2_with fail
  refine (implDiag_any p AT n cT T _ d0 ds d2 ok HR FT_1 TL).mono ?_
  rintro e w2 ⟨Ad, cd, rfl, ho, hb⟩
  have S2 := Lib.hid (hb.size)
  have B2 := Lib.hid (Below.tr B1.out hb)
  have FT_2 := Lib.hid (FT_1.out.below hb)
  clear FT_1
  rw [DL.out] at ho ⊢
  have Fd_2 := Lib.hid (ho)
  clear ho hb
  go_wp2_with fail
  obtain ⟨w3, hw3⟩ : ∃ W, W = w2.alloc (.cells #[.int .i64 d0, .slice Ad z cd, .int .i64 d2] 28) := ⟨_, rfl⟩
  have hb : Below w2.heap.size w2 w3 := by rw [hw3]; exact below1 _ _
  have hx : Blk w3 w2.heap.size 28 [.int .i64 d0, .slice Ad z cd, .int .i64 d2] := by rw [hw3]; exact heap_alloc_new _ _
  have hsz : w3.heap.size = w2.heap.size + 1 := by rw [hw3]; simp
  rw [← hw3]
  clear hw3
  have S3 := Lib.hid (hb.size)
  have SE3 := Lib.hid hsz
  have B3 := Lib.hid (Below.tr B2.out hb)
  skip
  have FT_3 := Lib.hid (FT_2.out.below hb)
  clear FT_2
  have Fd_3 := Lib.hid (own_below Fd_2.out hb)
  clear Fd_2
  have Xd_3 := Lib.hid hx
  clear hb hx hsz
  refine (specDiag_any p AT n cT T _ d0 ds d2 ok HR FT_3 TL).mono ?_
  rintro e w4 ⟨Av, cv, rfl, ho, hb⟩
  have S4 := Lib.hid (hb.size)
  have B4 := Lib.hid (Below.tr B3.out hb)
  have FT_4 := Lib.hid (FT_3.out.below hb)
  clear FT_3
  have Fd_4 := Lib.hid (own_below Fd_3.out hb)
  clear Fd_3
  have Xd_4 := Lib.hid (Xd_3.out.below hb)
  clear Xd_3
  rw [DL.out] at ho ⊢
  have Fv_4 := Lib.hid (ho)
  clear ho hb
  have hbo : (ok != ok) = false := by simp
  obtain ⟨zd0, zd1, zd2, _, _, _, zdl⟩ := blk_cells Xd_4.out
  go_wp2_with fail
  clear zd0 zd1 zd2 zdl
  obtain ⟨w5, hw5⟩ : ∃ W, W = w4.alloc (.cells #[.int .i64 d0, .slice Av z cv, .int .i64 d2] 28) := ⟨_, rfl⟩
  have hb : Below w4.heap.size w4 w5 := by rw [hw5]; exact below1 _ _
  have hx : Blk w5 w4.heap.size 28 [.int .i64 d0, .slice Av z cv, .int .i64 d2] := by rw [hw5]; exact heap_alloc_new _ _
  have hsz : w5.heap.size = w4.heap.size + 1 := by rw [hw5]; simp
  rw [← hw5]
  clear hw5
  have S5 := Lib.hid (hb.size)
  have SE5 := Lib.hid hsz
  have B5 := Lib.hid (Below.tr B4.out hb)
  skip
  have FT_5 := Lib.hid (FT_4.out.below hb)
  clear FT_4
  have Fd_5 := Lib.hid (own_below Fd_4.out hb)
  clear Fd_4
  have Fv_5 := Lib.hid (own_below Fv_4.out hb)
  clear Fv_4
  have Xd_5 := Lib.hid (Xd_4.out.below hb)
  clear Xd_4
  have Xv_5 := Lib.hid hx
  clear hb hx hsz
  refine (sameDg_any d0 d2 d0 d2 Ad Av z z cd cv ds ds _ (Lib.hid (own_nlies DL.out Fd_5.out)) (Lib.hid (own_nlies DL.out Fv_5.out)) DL DL (by omega) (by omega)).mono ?_
  rintro e w6 ⟨rfl, hb⟩
  have S6 := Lib.hid (hb.size)
  have B6 := Lib.hid (Below.tr B5.out hb)
  have FT_6 := Lib.hid (FT_5.out.below hb)
  clear FT_5
  have Fd_6 := Lib.hid (own_below Fd_5.out hb)
  clear Fd_5
  have Fv_6 := Lib.hid (own_below Fv_5.out hb)
  clear Fv_5
  have Xd_6 := Lib.hid (Xd_5.out.below hb)
  clear Xd_5
  have Xv_6 := Lib.hid (Xv_5.out.below hb)
  clear Xv_5
  rw [dgEq_same]
  clear hb
  cases ok
  · clear hbo
    obtain ⟨zd0, zd1, zd2, _, _, _, zdl⟩ := blk_cells Xd_6.out
    go_wp2_with fail
    clear zd0 zd1 zd2 zdl
    refine (drawEval_any a1 len1 cap1 _ (Lib.hid (h1.out.below B6.out))).mono ?_
    rintro e w7 ⟨ea, er, AE, AM, cE, cM, es, em, rfl, hel, hml, hlE, hlM, hb⟩
    have S7 := Lib.hid (hb.size)
    have B7 := Lib.hid (Below.tr B6.out hb)
    have FT_7 := Lib.hid (FT_6.out.below hb)
    clear FT_6
    have Fd_7 := Lib.hid (own_below Fd_6.out hb)
    clear Fd_6
    have Xd_7 := Lib.hid (Xd_6.out.below hb)
    clear Xd_6
    obtain ⟨ne, hne⟩ : ∃ n, es.length = n := ⟨_, rfl⟩
    have EL := Lib.hid hne
    obtain ⟨nm, hnm⟩ : ∃ n, em.length = n := ⟨_, rfl⟩
    have ML := Lib.hid hnm
    rw [hne] at hel ⊢
    rw [hnm] at hml ⊢
    clear hne hnm
    have FE_7 := Lib.hid (hlE)
    have FM_7 := Lib.hid (hlM)
    clear hlE hlM hb
    obtain ⟨eb, eo, hre⟩ : ∃ b ok, rEval ea es er em b ok := ⟨_, _, rfl, rfl⟩
    have HRE := Lib.hid hre
    clear hre
    obtain ⟨zd0, zd1, zd2, _, _, _, zdl⟩ := blk_cells Xd_7.out
    go_wp2_with fail
    clear zd0 zd1 zd2 zdl
    obtain ⟨w8, hw8⟩ : ∃ W, W = w7.alloc (.cells #[.int .i64 ea, .slice AE ne cE, .int .i64 er] 28) := ⟨_, rfl⟩
    have hb : Below w7.heap.size w7 w8 := by rw [hw8]; exact below1 _ _
    have hx : Blk w8 w7.heap.size 28 [.int .i64 ea, .slice AE ne cE, .int .i64 er] := by rw [hw8]; exact heap_alloc_new _ _
    have hsz : w8.heap.size = w7.heap.size + 1 := by rw [hw8]; simp
    rw [← hw8]
    clear hw8
    have S8 := Lib.hid (hb.size)
    have SE8 := Lib.hid hsz
    have B8 := Lib.hid (Below.tr B7.out hb)
    skip
    have FT_8 := Lib.hid (FT_7.out.below hb)
    clear FT_7
    have Fd_8 := Lib.hid (own_below Fd_7.out hb)
    clear Fd_7
    have FE_8 := Lib.hid (FE_7.out.below hb)
    clear FE_7
    have FM_8 := Lib.hid (FM_7.out.below hb)
    clear FM_7
    have Xd_8 := Lib.hid (Xd_7.out.below hb)
    clear Xd_7
    have XE_8 := Lib.hid hx
    clear hb hx hsz
    refine (implEval_any ea er AE AM ne cE nm cM es em _ eb eo HRE FE_8 EL (by omega) FM_8 ML (by omega)).mono ?_
    rintro e w9 ⟨rfl, hb⟩
    have S9 := Lib.hid (hb.size)
    have B9 := Lib.hid (Below.tr B8.out hb)
    have FT_9 := Lib.hid (FT_8.out.below hb)
    clear FT_8
    have Fd_9 := Lib.hid (own_below Fd_8.out hb)
    clear Fd_8
    have FE_9 := Lib.hid (FE_8.out.below hb)
    clear FE_8
    have FM_9 := Lib.hid (FM_8.out.below hb)
    clear FM_8
    have Xd_9 := Lib.hid (Xd_8.out.below hb)
    clear Xd_8
    have XE_9 := Lib.hid (XE_8.out.below hb)
    clear XE_8
    clear hb
    obtain ⟨zd0, zd1, zd2, _, _, _, zdl⟩ := blk_cells Xd_9.out
    obtain ⟨zE0, zE1, zE2, _, _, _, zEl⟩ := blk_cells XE_9.out
    go_wp2_with fail
    clear zd0 zd1 zd2 zdl
    clear zE0 zE1 zE2 zEl
    refine (specEval_any ea er AE AM ne cE nm cM es em _ eb eo HRE FE_9 EL (by omega) FM_9 ML (by omega)).mono ?_
    rintro e w10 ⟨rfl, hb⟩
    have S10 := Lib.hid (hb.size)
    have B10 := Lib.hid (Below.tr B9.out hb)
    have FT_10 := Lib.hid (FT_9.out.below hb)
    clear FT_9
    have Fd_10 := Lib.hid (own_below Fd_9.out hb)
    clear Fd_9
    have FE_10 := Lib.hid (FE_9.out.below hb)
    clear FE_9
    have FM_10 := Lib.hid (FM_9.out.below hb)
    clear FM_9
    have Xd_10 := Lib.hid (Xd_9.out.below hb)
    clear Xd_9
    have XE_10 := Lib.hid (XE_9.out.below hb)
    clear XE_9
    clear hb
    obtain ⟨zd0, zd1, zd2, _, _, _, zdl⟩ := blk_cells Xd_10.out
    obtain ⟨zE0, zE1, zE2, _, _, _, zEl⟩ := blk_cells XE_10.out
    go_wp2_with fail
    clear zd0 zd1 zd2 zdl
    clear zE0 zE1 zE2 zEl
    refine (drawOnes_any a1 len1 cap1 _ (Lib.hid (h1.out.below B10.out))).mono ?_
    rintro e w11 ⟨ba, br, AB, cB, bs, rfl, hbl, hoB, hb⟩
    have S11 := Lib.hid (hb.size)
    have B11 := Lib.hid (Below.tr B10.out hb)
    have FT_11 := Lib.hid (FT_10.out.below hb)
    clear FT_10
    have Fd_11 := Lib.hid (own_below Fd_10.out hb)
    clear Fd_10
    have FE_11 := Lib.hid (FE_10.out.below hb)
    clear FE_10
    have FM_11 := Lib.hid (FM_10.out.below hb)
    clear FM_10
    have Xd_11 := Lib.hid (Xd_10.out.below hb)
    clear Xd_10
    have XE_11 := Lib.hid (XE_10.out.below hb)
    clear XE_10
    obtain ⟨nb, hnb⟩ : ∃ n, bs.length = n := ⟨_, rfl⟩
    have BL := Lib.hid hnb
    rw [hnb] at hoB hbl ⊢
    clear hnb
    have FB_11 := Lib.hid (own_nlies BL.out hoB)
    clear hoB hb
    obtain ⟨on, oo, hro⟩ : ∃ x ok, rOnes ba bs br x ok := ⟨_, _, rfl, rfl⟩
    have HRO := Lib.hid hro
    clear hro
    obtain ⟨bt, to, hrt⟩ : ∃ T ok, rTab ba bs br T ok := ⟨_, _, rfl, rfl⟩
    have hbt := rTab_len hrt
    have HRB := Lib.hid hrt
    obtain ⟨nt, hnt⟩ : ∃ n, bt.length = n := ⟨_, rfl⟩
    have BTL := Lib.hid hnt
    rw [hnt] at hbt
    clear hrt hnt
    obtain ⟨zd0, zd1, zd2, _, _, _, zdl⟩ := blk_cells Xd_11.out
    obtain ⟨zE0, zE1, zE2, _, _, _, zEl⟩ := blk_cells XE_11.out
    go_wp2_with fail
    clear zd0 zd1 zd2 zdl
    clear zE0 zE1 zE2 zEl
    obtain ⟨w12, hw12⟩ : ∃ W, W = w11.alloc (.cells #[.int .i64 ba, .slice AB nb cB, .int .i64 br] 28) := ⟨_, rfl⟩
    have hb : Below w11.heap.size w11 w12 := by rw [hw12]; exact below1 _ _
    have hx : Blk w12 w11.heap.size 28 [.int .i64 ba, .slice AB nb cB, .int .i64 br] := by rw [hw12]; exact heap_alloc_new _ _
    have hsz : w12.heap.size = w11.heap.size + 1 := by rw [hw12]; simp
    rw [← hw12]
    clear hw12
    have S12 := Lib.hid (hb.size)
    have SE12 := Lib.hid hsz
    have B12 := Lib.hid (Below.tr B11.out hb)
    skip
    have FT_12 := Lib.hid (FT_11.out.below hb)
    clear FT_11
    have Fd_12 := Lib.hid (own_below Fd_11.out hb)
    clear Fd_11
    have FE_12 := Lib.hid (FE_11.out.below hb)
    clear FE_11
    have FM_12 := Lib.hid (FM_11.out.below hb)
    clear FM_11
    have FB_12 := Lib.hid (FB_11.out.below hb)
    clear FB_11
    have Xd_12 := Lib.hid (Xd_11.out.below hb)
    clear Xd_11
    have XE_12 := Lib.hid (XE_11.out.below hb)
    clear XE_11
    have XB_12 := Lib.hid hx
    clear hb hx hsz
    refine (implOnes_any ba br AB nb cB bs _ on oo HRO FB_12 BL (by omega)).mono ?_
    rintro e w13 ⟨rfl, hb⟩
    have S13 := Lib.hid (hb.size)
    have B13 := Lib.hid (Below.tr B12.out hb)
    have FT_13 := Lib.hid (FT_12.out.below hb)
    clear FT_12
    have Fd_13 := Lib.hid (own_below Fd_12.out hb)
    clear Fd_12
    have FE_13 := Lib.hid (FE_12.out.below hb)
    clear FE_12
    have FM_13 := Lib.hid (FM_12.out.below hb)
    clear FM_12
    have FB_13 := Lib.hid (FB_12.out.below hb)
    clear FB_12
    have Xd_13 := Lib.hid (Xd_12.out.below hb)
    clear Xd_12
    have XE_13 := Lib.hid (XE_12.out.below hb)
    clear XE_12
    have XB_13 := Lib.hid (XB_12.out.below hb)
    clear XB_12
    clear hb
    obtain ⟨zd0, zd1, zd2, _, _, _, zdl⟩ := blk_cells Xd_13.out
    obtain ⟨zE0, zE1, zE2, _, _, _, zEl⟩ := blk_cells XE_13.out
    obtain ⟨zB0, zB1, zB2, _, _, _, zBl⟩ := blk_cells XB_13.out
    go_wp2_with fail
    clear zd0 zd1 zd2 zdl
    clear zE0 zE1 zE2 zEl
    clear zB0 zB1 zB2 zBl
    refine (specOnes_any ba br AB nb cB bs _ on oo HRO FB_13 BL (by omega)).mono ?_
    rintro e w14 ⟨rfl, hb⟩
    have S14 := Lib.hid (hb.size)
    have B14 := Lib.hid (Below.tr B13.out hb)
    have FT_14 := Lib.hid (FT_13.out.below hb)
    clear FT_13
    have Fd_14 := Lib.hid (own_below Fd_13.out hb)
    clear Fd_13
    have FE_14 := Lib.hid (FE_13.out.below hb)
    clear FE_13
    have FM_14 := Lib.hid (FM_13.out.below hb)
    clear FM_13
    have FB_14 := Lib.hid (FB_13.out.below hb)
    clear FB_13
    have Xd_14 := Lib.hid (Xd_13.out.below hb)
    clear Xd_13
    have XE_14 := Lib.hid (XE_13.out.below hb)
    clear XE_13
    have XB_14 := Lib.hid (XB_13.out.below hb)
    clear XB_13
    clear hb
    obtain ⟨zd0, zd1, zd2, _, _, _, zdl⟩ := blk_cells Xd_14.out
    obtain ⟨zE0, zE1, zE2, _, _, _, zEl⟩ := blk_cells XE_14.out
    obtain ⟨zB0, zB1, zB2, _, _, _, zBl⟩ := blk_cells XB_14.out
    go_wp2_with fail
    clear zd0 zd1 zd2 zdl
    clear zE0 zE1 zE2 zEl
    clear zB0 zB1 zB2 zBl
    refine (implTab_any ba br AB nb cB bs _ bt to HRB FB_14 BL (by omega)).mono ?_
    rintro e w15 ⟨Atimpl, ctimpl, rfl, ho, hb⟩
    have S15 := Lib.hid (hb.size)
    have B15 := Lib.hid (Below.tr B14.out hb)
    have FT_15 := Lib.hid (FT_14.out.below hb)
    clear FT_14
    have Fd_15 := Lib.hid (own_below Fd_14.out hb)
    clear Fd_14
    have FE_15 := Lib.hid (FE_14.out.below hb)
    clear FE_14
    have FM_15 := Lib.hid (FM_14.out.below hb)
    clear FM_14
    have FB_15 := Lib.hid (FB_14.out.below hb)
    clear FB_14
    have Xd_15 := Lib.hid (Xd_14.out.below hb)
    clear Xd_14
    have XE_15 := Lib.hid (XE_14.out.below hb)
    clear XE_14
    have XB_15 := Lib.hid (XB_14.out.below hb)
    clear XB_14
    rw [BTL.out] at ho ⊢
    have Ftimpl_15 := Lib.hid (ho)
    clear ho hb
    obtain ⟨zd0, zd1, zd2, _, _, _, zdl⟩ := blk_cells Xd_15.out
    obtain ⟨zE0, zE1, zE2, _, _, _, zEl⟩ := blk_cells XE_15.out
    obtain ⟨zB0, zB1, zB2, _, _, _, zBl⟩ := blk_cells XB_15.out
    go_wp2_with fail
    clear zd0 zd1 zd2 zdl
    clear zE0 zE1 zE2 zEl
    clear zB0 zB1 zB2 zBl
    refine (specTab_any ba br AB nb cB bs _ bt to HRB FB_15 BL (by omega)).mono ?_
    rintro e w16 ⟨Atspec, ctspec, rfl, ho, hb⟩
    have S16 := Lib.hid (hb.size)
    have B16 := Lib.hid (Below.tr B15.out hb)
    have FT_16 := Lib.hid (FT_15.out.below hb)
    clear FT_15
    have Fd_16 := Lib.hid (own_below Fd_15.out hb)
    clear Fd_15
    have FE_16 := Lib.hid (FE_15.out.below hb)
    clear FE_15
    have FM_16 := Lib.hid (FM_15.out.below hb)
    clear FM_15
    have FB_16 := Lib.hid (FB_15.out.below hb)
    clear FB_15
    have Ftimpl_16 := Lib.hid (own_below Ftimpl_15.out hb)
    clear Ftimpl_15
    have Xd_16 := Lib.hid (Xd_15.out.below hb)
    clear Xd_15
    have XE_16 := Lib.hid (XE_15.out.below hb)
    clear XE_15
    have XB_16 := Lib.hid (XB_15.out.below hb)
    clear XB_15
    rw [BTL.out] at ho ⊢
    have Ftspec_16 := Lib.hid (ho)
    clear ho hb
    have q1 : (eo == eo) = true := by simp
    have q2 : (eb == eb) = true := by simp
    have q3 : (oo == oo) = true := by simp
    have q4 : (on == on) = true := by simp
    have q5 : (to == to) = true := by simp
    obtain ⟨gb, hgb⟩ : ∃ b, goodDB ba bs br = b := ⟨_, rfl⟩
    have HGB := Lib.hid hgb
    clear hgb
    have q6 : (gb == gb) = true := by simp
    obtain ⟨zd0, zd1, zd2, _, _, _, zdl⟩ := blk_cells Xd_16.out
    obtain ⟨zE0, zE1, zE2, _, _, _, zEl⟩ := blk_cells XE_16.out
    obtain ⟨zB0, zB1, zB2, _, _, _, zBl⟩ := blk_cells XB_16.out
    go_wp2_with fail
    clear zd0 zd1 zd2 zdl
    clear zE0 zE1 zE2 zEl
    clear zB0 zB1 zB2 zBl
    obtain ⟨zd0, zd1, zd2, _, _, _, zdl⟩ := blk_cells Xd_16.out
    obtain ⟨zE0, zE1, zE2, _, _, _, zEl⟩ := blk_cells XE_16.out
    obtain ⟨zB0, zB1, zB2, _, _, _, zBl⟩ := blk_cells XB_16.out
    refine wp_region_held_drew (S := fun W => W.cell? ⟨w11.heap.size, 0, none⟩ = some (.int .i64 ba) ∧ W.cell? ⟨w11.heap.size, 1, none⟩ = some (.slice AB nb cB) ∧ W.cell? ⟨w11.heap.size, 2, none⟩ = some (.int .i64 br)) (by kernel_rfl) ?_ (fun hHeld => ?_)
    · exact ⟨zB0, zB1, zB2⟩
    clear zd0 zd1 zd2 zdl
    clear zE0 zE1 zE2 zEl
    clear zB0 zB1 zB2 zBl
    obtain ⟨w17, hw17⟩ : ∃ W, W = w16.drew := ⟨_, rfl⟩
    have hb : Below w16.heap.size w16 w17 := by rw [hw17]; exact (Below.refl _ _).drew
    rw [← hw17] at hHeld ⊢
    clear hw17
    have S17 := Lib.hid (hb.size)
    have B17 := Lib.hid (Below.tr B16.out hb)
    have FT_17 := Lib.hid (FT_16.out.below hb)
    clear FT_16
    have Fd_17 := Lib.hid (own_below Fd_16.out hb)
    clear Fd_16
    have FE_17 := Lib.hid (FE_16.out.below hb)
    clear FE_16
    have FM_17 := Lib.hid (FM_16.out.below hb)
    clear FM_16
    have FB_17 := Lib.hid (FB_16.out.below hb)
    clear FB_16
    have Ftimpl_17 := Lib.hid (own_below Ftimpl_16.out hb)
    clear Ftimpl_16
    have Ftspec_17 := Lib.hid (own_below Ftspec_16.out hb)
    clear Ftspec_16
    have Xd_17 := Lib.hid (Xd_16.out.below hb)
    clear Xd_16
    have XE_17 := Lib.hid (XE_16.out.below hb)
    clear XE_16
    have XB_17 := Lib.hid (XB_16.out.below hb)
    clear XB_16
    clear hb
    refine wpAnyH_take (i := 0) (v := ?_) rfl (by kernel_rfl) (by kernel_rfl) (by kernel_rfl) (fun _ _ _ h => h) (Or.inl ⟨by rfl, ?_⟩) (by assumption) ?_
    rotate_left
    · intro W hSw
      try dsimp only at hSw
      go_simp
      try with_reducible rfl
    simp only [Act.put, List.setIfInBounds_toArray]
    refine wpAnyH_take (i := 1) (v := ?_) rfl (by kernel_rfl) (by kernel_rfl) (by kernel_rfl) (fun _ _ _ h => h) (Or.inl ⟨by rfl, ?_⟩) (by assumption) ?_
    rotate_left
    · intro W hSw
      try dsimp only at hSw
      go_simp
      try with_reducible rfl
    simp only [Act.put]
    refine wpAnyH_take (i := 2) (v := ?_) rfl (by kernel_rfl) (by kernel_rfl) (by kernel_rfl) (fun _ _ _ h => h) (Or.inl ⟨by rfl, ?_⟩) (by assumption) ?_
    rotate_left
    · intro W hSw
      try dsimp only at hSw
      go_simp
      try with_reducible rfl
    simp only [Act.put]
    refine wpAnyH_take (i := 3) (v := ?_) rfl (by kernel_rfl) (by kernel_rfl) (by kernel_rfl) (fun _ _ _ h => h) (Or.inl ⟨by rfl, ?_⟩) (by assumption) ?_
    rotate_left
    · intro W hSw
      try dsimp only at hSw
      go_simp
      try with_reducible rfl
    simp only [Act.put]
    refine wpAnyH_take (i := 4) (v := ?_) rfl (by kernel_rfl) (by kernel_rfl) (by kernel_rfl) (fun _ _ _ h => h) (Or.inl ⟨by kernel_rfl, ?_⟩) (by assumption) ?_
    rotate_left
    · intro W hSw
      try dsimp only at hSw
      go_simp
      try with_reducible rfl
    simp only [Act.put]
    refine wpAnyH_take (i := 5) (v := ?_) rfl (by kernel_rfl) (by kernel_rfl) (by kernel_rfl) (fun _ _ _ h => h) (Or.inl ⟨by kernel_rfl, ?_⟩) (by assumption) ?_
    rotate_left
    · intro W hSw
      try dsimp only at hSw
      go_simp
      try with_reducible rfl
    simp only [Act.put]
    refine wpAnyH_take (i := 6) (v := ?_) rfl (by kernel_rfl) (by kernel_rfl) (by kernel_rfl) (fun _ _ _ h => h) (Or.inl ⟨by kernel_rfl, ?_⟩) (by assumption) ?_
    rotate_left
    · intro W hSw
      try dsimp only at hSw
      go_simp
      try with_reducible rfl
    simp only [Act.put]
    refine wpAnyH_take (i := 7) (v := ?_) rfl (by kernel_rfl) (by kernel_rfl) (by kernel_rfl) (fun _ _ _ h => h) (Or.inl ⟨by rfl, ?_⟩) (by assumption) ?_
    rotate_left
    · intro W hSw
      try dsimp only at hSw
      go_simp
      try with_reducible rfl
    simp only [Act.put]
    refine wpAnyH_take (i := 8) (v := ?_) rfl (by kernel_rfl) (by kernel_rfl) (by kernel_rfl) (fun _ _ _ h => h) (Or.inl ⟨by rfl, ?_⟩) (by assumption) ?_
    rotate_left
    · intro W hSw
      try dsimp only at hSw
      go_simp
      try with_reducible rfl
    simp only [Act.put]
    refine wpAnyH_take (i := 9) (v := ?_) rfl (by kernel_rfl) (by kernel_rfl) (by kernel_rfl) (fun _ _ _ h => h) (Or.inl ⟨by kernel_rfl, ?_⟩) (by assumption) ?_
    rotate_left
    · intro W hSw
      try dsimp only at hSw
      go_simp
      try with_reducible rfl
    simp only [Act.put]
    refine wpAnyH_take (i := 10) (v := ?_) rfl (by kernel_rfl) (by kernel_rfl) (by kernel_rfl) (fun _ _ _ h => h) (Or.inl ⟨by kernel_rfl, ?_⟩) (by assumption) ?_
    rotate_left
    · intro W hSw
      try dsimp only at hSw
      go_simp
      try with_reducible rfl
    simp only [Act.put]
    refine wpAnyH_take (i := 11) (v := ?_) rfl (by kernel_rfl) (by kernel_rfl) (by kernel_rfl) (fun _ _ _ h => h) (Or.inl ⟨by kernel_rfl, ?_⟩) (by assumption) ?_
    rotate_left
    · intro W hSw
      try dsimp only at hSw
      go_simp
      try with_reducible rfl
    simp only [Act.put]
    refine wpAnyH_take (i := 12) (v := ?_) rfl (by kernel_rfl) (by kernel_rfl) (by kernel_rfl) (fun _ _ _ h => h) (Or.inl ⟨by rfl, ?_⟩) (by assumption) ?_
    rotate_left
    · intro W hSw
      try dsimp only at hSw
      go_simp
      try with_reducible rfl
    simp only [Act.put]
    refine wpAnyH_take (i := 13) (v := ?_) rfl (by kernel_rfl) (by kernel_rfl) (by kernel_rfl) (fun _ _ _ h => h) (Or.inl ⟨by rfl, ?_⟩) (by assumption) ?_
    rotate_left
    · intro W hSw
      try dsimp only at hSw
      go_simp
      try with_reducible rfl
    simp only [Act.put]
    refine wpAnyH_take (i := 14) (v := ?_) rfl (by kernel_rfl) (by kernel_rfl) (by kernel_rfl) (fun _ _ _ h => h) (Or.inl ⟨by kernel_rfl, ?_⟩) (by assumption) ?_
    rotate_left
    · intro W hSw
      try dsimp only at hSw
      go_simp
      try with_reducible rfl
    simp only [Act.put]
    refine wpAnyH_take (i := 15) (v := ?_) rfl (by kernel_rfl) (by kernel_rfl) (by kernel_rfl) (fun _ _ _ h => h) (Or.inl ⟨by kernel_rfl, ?_⟩) (by assumption) ?_
    rotate_left
    · intro W hSw
      try dsimp only at hSw
      go_simp
      try with_reducible rfl
    simp only [Act.put]
    refine wpAnyH_take (i := 16) (v := ?_) rfl (by kernel_rfl) (by kernel_rfl) (by kernel_rfl) (fun _ _ _ h => h) (Or.inl ⟨by kernel_rfl, ?_⟩) (by assumption) ?_
    rotate_left
    · intro W hSw
      try dsimp only at hSw
      go_simp
      try with_reducible rfl
    simp only [Act.put]
    refine wpAnyH_take (i := 17) (v := ?_) rfl (by kernel_rfl) (by kernel_rfl) (by kernel_rfl) (fun _ _ _ h => h) (Or.inl ⟨by rfl, ?_⟩) (by assumption) ?_
    rotate_left
    · intro W hSw
      try dsimp only at hSw
      go_simp
      try with_reducible rfl
    simp only [Act.put]
    refine wpAnyH_take (i := 18) (v := ?_) rfl (by kernel_rfl) (by kernel_rfl) (by kernel_rfl) (fun _ _ _ h => h) (Or.inl ⟨by rfl, ?_⟩) (by assumption) ?_
    rotate_left
    · intro W hSw
      try dsimp only at hSw
      go_simp
      try with_reducible rfl
    simp only [Act.put]
    refine wpAnyH_take (i := 19) (v := ?_) rfl (by kernel_rfl) (by kernel_rfl) (by kernel_rfl) (fun _ _ _ h => h) (Or.inl ⟨by kernel_rfl, ?_⟩) (by assumption) ?_
    rotate_left
    · intro W hSw
      try dsimp only at hSw
      go_simp
      try with_reducible rfl
    simp only [Act.put]
    refine wpAnyH_take (i := 20) (v := ?_) rfl (by kernel_rfl) (by kernel_rfl) (by kernel_rfl) (fun _ _ _ h => h) (Or.inl ⟨by kernel_rfl, ?_⟩) (by assumption) ?_
    rotate_left
    · intro W hSw
      try dsimp only at hSw
      go_simp
      try with_reducible rfl
    simp only [Act.put]
    refine wpAnyH_take (i := 21) (v := ?_) rfl (by kernel_rfl) (by kernel_rfl) (by kernel_rfl) (fun _ _ _ h => h) (Or.inl ⟨by kernel_rfl, ?_⟩) (by assumption) ?_
    rotate_left
    · intro W hSw
      try dsimp only at hSw
      go_simp
      try with_reducible rfl
    simp only [Act.put]
    refine wpAnyH_take (i := 22) (v := ?_) rfl (by kernel_rfl) (by kernel_rfl) (by kernel_rfl) (fun _ _ _ h => h) (Or.inl ⟨by rfl, ?_⟩) (by assumption) ?_
    rotate_left
    · intro W hSw
      try dsimp only at hSw
      go_simp
      try with_reducible rfl
    simp only [Act.put]
    refine wpAnyH_take (i := 23) (v := ?_) rfl (by kernel_rfl) (by kernel_rfl) (by kernel_rfl) (fun _ _ _ h => h) (Or.inl ⟨by rfl, ?_⟩) (by assumption) ?_
    rotate_left
    · intro W hSw
      try dsimp only at hSw
      go_simp
      try with_reducible rfl
    simp only [Act.put]
    refine wpAnyH_take (i := 24) (v := ?_) rfl (by kernel_rfl) (by kernel_rfl) (by kernel_rfl) (fun _ _ _ h => h) (Or.inl ⟨by kernel_rfl, ?_⟩) (by assumption) ?_
    rotate_left
    · intro W hSw
      try dsimp only at hSw
      go_simp
      try with_reducible rfl
    simp only [Act.put]
    refine wpAnyH_take (i := 25) (v := ?_) rfl (by kernel_rfl) (by kernel_rfl) (by kernel_rfl) (fun _ _ _ h => h) (Or.inl ⟨by kernel_rfl, ?_⟩) (by assumption) ?_
    rotate_left
    · intro W hSw
      try dsimp only at hSw
      go_simp
      try with_reducible rfl
    simp only [Act.put]
    refine wpAnyH_ready (rs := [26]) (by kernel_rfl) (by simp) ?_
    refine AllReadyH.cons rfl (fun K hK => ?_) AllReadyH.nil
    rw [if_pos (by kernel_rfl)]
    go_simp
    refine (sameBoolsD Atimpl Atspec nt ctimpl ctspec bt _ (Lib.hid (own_blies Ftimpl_17.out)) (Lib.hid (own_blies Ftspec_17.out)) BTL (by omega)).mono ?_
    rintro e w18 ⟨rfl, hb⟩
    have S18 := Lib.hid (hb.size)
    have B18 := Lib.hid (Below.tr B17.out hb)
    have FT_18 := Lib.hid (FT_17.out.below hb)
    clear FT_17
    have Fd_18 := Lib.hid (own_below Fd_17.out hb)
    clear Fd_17
    have FE_18 := Lib.hid (FE_17.out.below hb)
    clear FE_17
    have FM_18 := Lib.hid (FM_17.out.below hb)
    clear FM_17
    have FB_18 := Lib.hid (FB_17.out.below hb)
    clear FB_17
    have Ftimpl_18 := Lib.hid (own_below Ftimpl_17.out hb)
    clear Ftimpl_17
    have Ftspec_18 := Lib.hid (own_below Ftspec_17.out hb)
    clear Ftspec_17
    have Xd_18 := Lib.hid (Xd_17.out.below hb)
    clear Xd_17
    have XE_18 := Lib.hid (XE_17.out.below hb)
    clear XE_17
    have XB_18 := Lib.hid (XB_17.out.below hb)
    clear XB_17
    clear hb
    obtain ⟨zd0, zd1, zd2, _, _, _, zdl⟩ := blk_cells Xd_18.out
    obtain ⟨zE0, zE1, zE2, _, _, _, zEl⟩ := blk_cells XE_18.out
    obtain ⟨zB0, zB1, zB2, _, _, _, zBl⟩ := blk_cells XB_18.out
    refine hK.out _ _ ⟨zB0, zB1, zB2⟩ (fun hH1 => ?_)
    clear hK K hHeld
    try simp only [Act.put, List.setIfInBounds_toArray, List.set_cons_zero, List.set_cons_succ]
    clear zd0 zd1 zd2 zdl
    clear zE0 zE1 zE2 zEl
    clear zB0 zB1 zB2 zBl
    refine wpAnyH_take (i := 27) (v := ?_) rfl (by kernel_rfl) (by kernel_rfl) (by kernel_rfl) (fun _ _ _ h => h) (Or.inl ⟨by rfl, ?_⟩) (by assumption) ?_
    rotate_left
    · intro W hSw
      try dsimp only at hSw
      go_simp
      try with_reducible rfl
    simp only [Act.put, List.setIfInBounds_toArray]
    refine wpAnyH_take (i := 28) (v := ?_) rfl (by kernel_rfl) (by kernel_rfl) (by kernel_rfl) (fun _ _ _ h => h) (Or.inl ⟨by rfl, ?_⟩) (by assumption) ?_
    rotate_left
    · intro W hSw
      try dsimp only at hSw
      go_simp
      try with_reducible rfl
    simp only [Act.put]
    refine wpAnyH_take (i := 29) (v := ?_) rfl (by kernel_rfl) (by kernel_rfl) (by kernel_rfl) (fun _ _ _ h => h) (Or.inl ⟨by kernel_rfl, ?_⟩) (by assumption) ?_
    rotate_left
    · intro W hSw
      try dsimp only at hSw
      go_simp
      try with_reducible rfl
    simp only [Act.put]
    refine wpAnyH_take (i := 31) (v := ?_) rfl (by kernel_rfl) (by kernel_rfl) (by kernel_rfl) (fun _ _ _ h => h) (Or.inl ⟨by kernel_rfl, ?_⟩) (by assumption) ?_
    rotate_left
    · intro W hSw
      try dsimp only at hSw
      go_simp
      try with_reducible rfl
    simp only [Act.put]
    refine wpAnyH_ready (rs := [30]) (by kernel_rfl) (by simp) ?_
    refine AllReadyH.cons rfl (fun K hK => ?_) AllReadyH.nil
    rw [if_pos (by kernel_rfl)]
    go_simp
    refine (implGoodD_any ba br AB nb cB bs _ FB_18 BL (by omega)).mono ?_
    rintro e w19 ⟨rfl, hb⟩
    have S19 := Lib.hid (hb.size)
    have B19 := Lib.hid (Below.tr B18.out hb)
    have FT_19 := Lib.hid (FT_18.out.below hb)
    clear FT_18
    have Fd_19 := Lib.hid (own_below Fd_18.out hb)
    clear Fd_18
    have FE_19 := Lib.hid (FE_18.out.below hb)
    clear FE_18
    have FM_19 := Lib.hid (FM_18.out.below hb)
    clear FM_18
    have FB_19 := Lib.hid (FB_18.out.below hb)
    clear FB_18
    have Ftimpl_19 := Lib.hid (own_below Ftimpl_18.out hb)
    clear Ftimpl_18
    have Ftspec_19 := Lib.hid (own_below Ftspec_18.out hb)
    clear Ftspec_18
    have Xd_19 := Lib.hid (Xd_18.out.below hb)
    clear Xd_18
    have XE_19 := Lib.hid (XE_18.out.below hb)
    clear XE_18
    have XB_19 := Lib.hid (XB_18.out.below hb)
    clear XB_18
    rw [HGB.out]
    clear hb
    obtain ⟨zd0, zd1, zd2, _, _, _, zdl⟩ := blk_cells Xd_19.out
    obtain ⟨zE0, zE1, zE2, _, _, _, zEl⟩ := blk_cells XE_19.out
    obtain ⟨zB0, zB1, zB2, _, _, _, zBl⟩ := blk_cells XB_19.out
    refine hK.out _ _ ⟨zB0, zB1, zB2⟩ (fun hH2 => ?_)
    clear hK K hH1
    try simp only [Act.put, List.setIfInBounds_toArray, List.set_cons_zero, List.set_cons_succ]
    clear zd0 zd1 zd2 zdl
    clear zE0 zE1 zE2 zEl
    clear zB0 zB1 zB2 zBl
    refine wpAnyH_ready (rs := [32]) (by kernel_rfl) (by simp) ?_
    refine AllReadyH.cons rfl (fun K hK => ?_) AllReadyH.nil
    rw [if_pos (by kernel_rfl)]
    go_simp
    refine (specGoodD_any ba br AB nb cB bs _ FB_19 BL (by omega)).mono ?_
    rintro e w20 ⟨rfl, hb⟩
    have S20 := Lib.hid (hb.size)
    have B20 := Lib.hid (Below.tr B19.out hb)
    have FT_20 := Lib.hid (FT_19.out.below hb)
    clear FT_19
    have Fd_20 := Lib.hid (own_below Fd_19.out hb)
    clear Fd_19
    have FE_20 := Lib.hid (FE_19.out.below hb)
    clear FE_19
    have FM_20 := Lib.hid (FM_19.out.below hb)
    clear FM_19
    have FB_20 := Lib.hid (FB_19.out.below hb)
    clear FB_19
    have Ftimpl_20 := Lib.hid (own_below Ftimpl_19.out hb)
    clear Ftimpl_19
    have Ftspec_20 := Lib.hid (own_below Ftspec_19.out hb)
    clear Ftspec_19
    have Xd_20 := Lib.hid (Xd_19.out.below hb)
    clear Xd_19
    have XE_20 := Lib.hid (XE_19.out.below hb)
    clear XE_19
    have XB_20 := Lib.hid (XB_19.out.below hb)
    clear XB_19
    rw [HGB.out]
    clear hb
    obtain ⟨zd0, zd1, zd2, _, _, _, zdl⟩ := blk_cells Xd_20.out
    obtain ⟨zE0, zE1, zE2, _, _, _, zEl⟩ := blk_cells XE_20.out
    obtain ⟨zB0, zB1, zB2, _, _, _, zBl⟩ := blk_cells XB_20.out
    refine hK.out _ _ ⟨zB0, zB1, zB2⟩ (fun hH3 => ?_)
    clear hK K hH2
    try simp only [Act.put, List.setIfInBounds_toArray, List.set_cons_zero, List.set_cons_succ]
    clear zd0 zd1 zd2 zdl
    clear zE0 zE1 zE2 zEl
    clear zB0 zB1 zB2 zBl
    refine wpAnyH_take (i := 33) (v := ?_) rfl (by kernel_rfl) (by kernel_rfl) (by kernel_rfl) (fun _ _ _ h => h) (Or.inl ⟨by kernel_rfl, ?_⟩) (by assumption) ?_
    rotate_left
    · intro W hSw
      try dsimp only at hSw
      go_simp
      try with_reducible rfl
    simp only [Act.put, List.setIfInBounds_toArray]
    refine wpAnyH_take (i := 34) (v := ?_) rfl (by kernel_rfl) (by kernel_rfl) (by kernel_rfl) (fun _ _ _ h => h) (Or.inl ⟨by rfl, ?_⟩) (by assumption) ?_
    rotate_left
    · intro W hSw
      try dsimp only at hSw
      go_simp
      try with_reducible rfl
    simp only [Act.put]
    refine wpAnyH_ready (rs := [35]) (by kernel_rfl) (by simp) ?_
    refine AllReadyH.cons rfl (fun K hK => ?_) AllReadyH.nil
    rw [if_pos (by kernel_rfl)]
    go_simp
    obtain ⟨zd0, zd1, zd2, _, _, _, zdl⟩ := blk_cells Xd_20.out
    obtain ⟨zE0, zE1, zE2, _, _, _, zEl⟩ := blk_cells XE_20.out
    obtain ⟨zB0, zB1, zB2, _, _, _, zBl⟩ := blk_cells XB_20.out
    refine hK.out _ _ ⟨zB0, zB1, zB2⟩ (fun hH4 => ?_)
    clear hK K hH3
    try simp only [Act.put, List.setIfInBounds_toArray, List.set_cons_zero, List.set_cons_succ]
    clear zd0 zd1 zd2 zdl
    clear zE0 zE1 zE2 zEl
    clear zB0 zB1 zB2 zBl
    refine wpAnyH_done (by kernel_rfl) ?_ _
    clear hH4
    go_wp2
    go_ret
    exact ⟨rfl, B20.out⟩
  · clear hbo
    have hok := HR.out
    unfold rDiag at hok
    split at hok
    rotate_left
    · unfold dv0 at hok; simp at hok
    rename_i hcond
    simp only [Bool.and_eq_true, decide_eq_true_eq] at hcond
    unfold dvOf at hok
    rw [show ((p : Int)).toNat = p by omega] at hok hcond
    simp only [Prod.mk.injEq] at hok
    obtain ⟨⟨hd0, hds, hd2⟩, _⟩ := hok
    subst hd0
    obtain ⟨kk, kms, hkm⟩ : ∃ k ms, dgm p T = (k, ms) := ⟨_, _, rfl⟩
    rw [hkm] at hds hd2
    simp only at hds hd2
    subst hds hd2
    have hTp := hcond.2
    obtain ⟨hfol, htab, _⟩ := dgm_facts hTp hkm
    have hgood := dgm_good hp6 hTp hkm
    have GD := Lib.hid (goodDB_yes hgood)
    have n2 : n = 2 ^ p := by rw [← TL.out]; exact hTp
    have HN2 := Lib.hid n2
    have hn64 : n ≤ 64 := by rw [n2]; exact pow_le6 hp6
    have HRT : Hid (rTab p kms kk T true) := Lib.hid ⟨GD.out.symm, by rw [if_pos rfl, show ((p : Int)).toNat = p by omega, htab]⟩
    have HRO2 : Hid (rOnes p kms kk (T.count true : Int) true) := Lib.hid ⟨GD.out.symm, by rw [if_pos rfl, show ((p : Int)).toNat = p by omega, htab]⟩
    obtain ⟨xk, xms, hxm⟩ : ∃ k ms, dgm p (T.map not) = (k, ms) := ⟨_, _, rfl⟩
    have hxTp : (T.map not).length = 2 ^ p := by rw [List.length_map]; exact hTp
    have hxtab := (dgm_facts hxTp hxm).2.1
    have hxgood := goodDB_yes (dgm_good hp6 hxTp hxm)
    have HN1 : Hid (rNot p kms kk = (((p : Int), xms, (xk : Int)), true)) := Lib.hid (by unfold rNot; rw [if_pos GD.out, show ((p : Int)).toNat = p by omega, htab]; unfold dvOf; rw [hxm])
    have HNN : Hid (rNot p xms xk = (((p : Int), kms, (kk : Int)), true)) := Lib.hid (by unfold rNot; rw [if_pos hxgood, show ((p : Int)).toNat = p by omega, hxtab, List.map_map, show (not ∘ not) = id by funext b; simp, List.map_id]; unfold dvOf; rw [hkm])
    have HNE : Hid (dgEq (p : Int) xms (xk : Int) (p : Int) kms (kk : Int) = false) := Lib.hid (by
      cases he : dgEq (p : Int) xms (xk : Int) (p : Int) kms (kk : Int)
      · rfl
      · exfalso
        simp only [dgEq, Bool.and_eq_true, decide_eq_true_eq] at he
        have e1 : dgm p (T.map not) = dgm p T := by rw [hxm, hkm, he.2, show xk = kk by omega]
        have e2 := dgm_inj hxTp hTp e1
        have hpos : 0 < T.length := by rw [hTp]; exact Nat.pow_pos (by omega)
        have e3 : (T.map not)[0]? = T[0]? := by rw [e2]
        rw [List.getElem?_map, List.getElem?_eq_getElem hpos] at e3
        simp at e3)
    obtain ⟨xz, hxz⟩ : ∃ z, xms.length = z := ⟨_, rfl⟩
    have XL := Lib.hid hxz
    have hxz64 : xz ≤ 64 := by rw [← hxz]; exact dgm_len hp6 hxTp hxm
    have EVT : Hid (∀ j x, T[j]? = some x → rEval p kms kk (modelN p j) x true) := Lib.hid (fun j x hj => by
      have hjl := (List.getElem?_eq_some_iff.1 hj).1
      refine ⟨by rw [GD.out, modelN_len]; simp, ?_⟩
      rw [idxM_model p j (by rw [← hTp]; exact hjl), Bool.true_and]
      rw [← htab, tabL_at (by rw [← hTp]; exact hjl)] at hj
      injection hj with hj
      exact hj.symm)
    clear hcond hkm hTp hfol htab hgood hxm hxTp hxtab hxgood hxz n2
    obtain ⟨zd0, zd1, zd2, _, _, _, zdl⟩ := blk_cells Xd_6.out
    go_wp2_with fail
    clear zd0 zd1 zd2 zdl
    refine (implTab_any p kk Ad z cd kms _ T true HRT (Lib.hid (own_nlies DL.out Fd_6.out)) DL (by omega)).mono ?_
    rintro e w7 ⟨Ab, cb, rfl, ho, hb⟩
    have S7 := Lib.hid (hb.size)
    have B7 := Lib.hid (Below.tr B6.out hb)
    have FT_7 := Lib.hid (FT_6.out.below hb)
    clear FT_6
    have Fd_7 := Lib.hid (own_below Fd_6.out hb)
    clear Fd_6
    have Xd_7 := Lib.hid (Xd_6.out.below hb)
    clear Xd_6
    rw [TL.out] at ho ⊢
    have Fb_7 := Lib.hid (ho)
    clear ho hb
    obtain ⟨zd0, zd1, zd2, _, _, _, zdl⟩ := blk_cells Xd_7.out
    go_wp2_with fail
    clear zd0 zd1 zd2 zdl
    refine (implOnes_any p kk Ad z cd kms _ _ true HRO2 (Lib.hid (own_nlies DL.out Fd_7.out)) DL (by omega)).mono ?_
    rintro e w8 ⟨rfl, hb⟩
    have S8 := Lib.hid (hb.size)
    have B8 := Lib.hid (Below.tr B7.out hb)
    have FT_8 := Lib.hid (FT_7.out.below hb)
    clear FT_7
    have Fd_8 := Lib.hid (own_below Fd_7.out hb)
    clear Fd_7
    have Fb_8 := Lib.hid (own_below Fb_7.out hb)
    clear Fb_7
    have Xd_8 := Lib.hid (Xd_7.out.below hb)
    clear Xd_7
    clear hb
    obtain ⟨zd0, zd1, zd2, _, _, _, zdl⟩ := blk_cells Xd_8.out
    go_wp2_with fail
    clear zd0 zd1 zd2 zdl
    go_loopw [15, 84] (fun m i wr => ∃ (j y : Nat), j ≤ n ∧ i = .int .i64 j ∧ m = .int .i64 y ∧ y = (T.take j).count true ∧ y ≤ j ∧ Below w8.heap.size w8 wr) (fun _ i _ => n - (intOf i).toNat)
    case atStart => exact ⟨0, 0, Nat.zero_le _, rfl, rfl, rfl, Nat.le_refl _, Below.refl _ _⟩
    case round =>
      obtain ⟨j, y, hj, rfl, rfl, hy, hyj, hb⟩ := hrel
      obtain ⟨w9, hw9⟩ : ∃ x, x = wr := ⟨_, rfl⟩
      subst hw9
      have HY := Lib.hid hy
      clear hy
      have BL0 := Lib.hid hb
      have S9 := Lib.hid (hb.size)
      have B9 := Lib.hid (Below.tr B8.out hb)
      have FT_9 := Lib.hid (FT_8.out.below hb)
      clear FT_8
      have Fd_9 := Lib.hid (own_below Fd_8.out hb)
      clear Fd_8
      have Fb_9 := Lib.hid (own_below Fb_8.out hb)
      clear Fb_8
      have Xd_9 := Lib.hid (Xd_8.out.below hb)
      clear Xd_8
      clear hb
      by_cases hlt : j < n
      · obtain ⟨x, hx⟩ : ∃ x, T[j]? = some x := ⟨_, List.getElem?_eq_getElem (by rw [TL.out]; exact hlt)⟩
        obtain ⟨bT, oT, hAT, hbT, hcT⟩ := FT_9.out j x hx
        have HRE2 := Lib.hid (EVT.out j x hx)
        have HS : Hid ((T.take (j + 1)).count true = y + if x then 1 else 0) := Lib.hid (by
          rw [List.take_add_one, hx, List.count_append, HY.out]
          cases x <;> simp)
        subst hAT
        clear hx
        obtain ⟨zd0, zd1, zd2, _, _, _, zdl⟩ := blk_cells Xd_9.out
        go_wp2_with fail
        refine wp_region_held_drew (S := fun W => W.cell? ⟨w2.heap.size, 0, none⟩ = some (.int .i64 p) ∧ W.cell? ⟨w2.heap.size, 1, none⟩ = some (.slice Ad z cd) ∧ W.cell? ⟨w2.heap.size, 2, none⟩ = some (.int .i64 kk)) (by kernel_rfl) ?_ (fun hHeld => ?_)
        · exact ⟨zd0, zd1, zd2⟩
        clear zd0 zd1 zd2 zdl
        clear hcT
        obtain ⟨w10, hw10⟩ : ∃ W, W = w9.drew := ⟨_, rfl⟩
        have hb : Below w9.heap.size w9 w10 := by rw [hw10]; exact (Below.refl _ _).drew
        rw [← hw10] at hHeld ⊢
        clear hw10
        have S10 := Lib.hid (hb.size)
        have B10 := Lib.hid (Below.tr B9.out hb)
        have BL1 := Lib.hid (Below.tr BL0.out hb)
        have FT_10 := Lib.hid (FT_9.out.below hb)
        clear FT_9
        have Fd_10 := Lib.hid (own_below Fd_9.out hb)
        clear Fd_9
        have Fb_10 := Lib.hid (own_below Fb_9.out hb)
        clear Fb_9
        have Xd_10 := Lib.hid (Xd_9.out.below hb)
        clear Xd_9
        clear hb
        refine wpAnyH_take (i := 0) (v := ?_) rfl (by kernel_rfl) (by kernel_rfl) (by kernel_rfl) (fun _ _ _ h => h) (Or.inl ⟨by rfl, ?_⟩) (by assumption) ?_
        rotate_left
        · intro W hSw
          try dsimp only at hSw
          go_simp
          try with_reducible rfl
        simp only [Act.put, List.setIfInBounds_toArray]
        refine wpAnyH_take (i := 1) (v := ?_) rfl (by kernel_rfl) (by kernel_rfl) (by kernel_rfl) (fun _ _ _ h => h) (Or.inl ⟨by rfl, ?_⟩) (by assumption) ?_
        rotate_left
        · intro W hSw
          try dsimp only at hSw
          go_simp
          try with_reducible rfl
        simp only [Act.put]
        refine wpAnyH_take (i := 2) (v := ?_) rfl (by kernel_rfl) (by kernel_rfl) (by kernel_rfl) (fun _ _ _ h => h) (Or.inl ⟨by rfl, ?_⟩) (by assumption) ?_
        rotate_left
        · intro W hSw
          try dsimp only at hSw
          go_simp
          try with_reducible rfl
        simp only [Act.put]
        refine wpAnyH_ready (rs := [3]) (by kernel_rfl) (by simp) ?_
        refine AllReadyH.cons rfl (fun K hK => ?_) AllReadyH.nil
        go_simp
        refine (modelD_any p j _ (by omega) (by omega)).mono ?_
        rintro e w11 ⟨rfl, hk, hb⟩
        have S11 := Lib.hid (hb.size)
        have B11 := Lib.hid (Below.tr B10.out hb)
        have FT_11 := Lib.hid (FT_10.out.below hb)
        clear FT_10
        have Fd_11 := Lib.hid (own_below Fd_10.out hb)
        clear Fd_10
        have Fb_11 := Lib.hid (own_below Fb_10.out hb)
        clear Fb_10
        have Xd_11 := Lib.hid (Xd_10.out.below hb)
        clear Xd_10
        have BL2 := Lib.hid (Below.tr BL1.out hb)
        have Fm_11 := Lib.hid (hk.blies)
        clear hk hb
        obtain ⟨zd0, zd1, zd2, _, _, _, zdl⟩ := blk_cells Xd_11.out
        refine hK.out _ _ ⟨zd0, zd1, zd2⟩ (fun hH1 => ?_)
        clear hK K hHeld
        try simp only [Act.put, List.setIfInBounds_toArray, List.set_cons_zero, List.set_cons_succ]
        clear zd0 zd1 zd2 zdl
        refine wpAnyH_ready (rs := [4]) (by kernel_rfl) (by simp) ?_
        refine AllReadyH.cons rfl (fun K hK => ?_) AllReadyH.nil
        go_simp
        refine (implEval_any p kk Ad _ z cd p p kms (modelN p j) _ x true HRE2 (Lib.hid (own_nlies DL.out Fd_11.out)) DL (by omega) Fm_11 (Lib.hid (modelN_len p j)) (by omega)).mono ?_
        rintro e w12 ⟨rfl, hb⟩
        have S12 := Lib.hid (hb.size)
        have B12 := Lib.hid (Below.tr B11.out hb)
        have FT_12 := Lib.hid (FT_11.out.below hb)
        clear FT_11
        have Fd_12 := Lib.hid (own_below Fd_11.out hb)
        clear Fd_11
        have Fb_12 := Lib.hid (own_below Fb_11.out hb)
        clear Fb_11
        have Fm_12 := Lib.hid (Fm_11.out.below hb)
        clear Fm_11
        have Xd_12 := Lib.hid (Xd_11.out.below hb)
        clear Xd_11
        have BL3 := Lib.hid (Below.tr BL2.out hb)
        clear hb
        obtain ⟨zd0, zd1, zd2, _, _, _, zdl⟩ := blk_cells Xd_12.out
        refine hK.out _ _ ⟨zd0, zd1, zd2⟩ (fun hH2 => ?_)
        clear hK K hH1
        try simp only [Act.put, List.setIfInBounds_toArray, List.set_cons_zero, List.set_cons_succ]
        clear zd0 zd1 zd2 zdl
        refine wpAnyH_take (i := 5) (v := ?_) rfl (by kernel_rfl) (by kernel_rfl) (by kernel_rfl) (fun _ _ _ h => h) (Or.inl ⟨by rfl, ?_⟩) (by assumption) ?_
        rotate_left
        · intro W hSw
          try dsimp only at hSw
          go_simp
          try with_reducible rfl
        simp only [Act.put, List.setIfInBounds_toArray]
        refine wpAnyH_take (i := 6) (v := ?_) rfl (by kernel_rfl) (by kernel_rfl) (by kernel_rfl) (fun _ _ _ h => h) (Or.inl ⟨by rfl, ?_⟩) (by assumption) ?_
        rotate_left
        · intro W hSw
          try dsimp only at hSw
          go_simp
          try with_reducible rfl
        simp only [Act.put]
        refine wpAnyH_take (i := 7) (v := ?_) rfl (by kernel_rfl) (by kernel_rfl) (by kernel_rfl) (fun _ _ _ h => h) (Or.inl ⟨by rfl, ?_⟩) (by assumption) ?_
        rotate_left
        · intro W hSw
          try dsimp only at hSw
          go_simp
          try with_reducible rfl
        simp only [Act.put]
        refine wpAnyH_take (i := 8) (v := ?_) rfl (by kernel_rfl) (by kernel_rfl) (by kernel_rfl) (fun _ _ _ h => h) (Or.inl ⟨by rfl, ?_⟩) (by assumption) ?_
        rotate_left
        · intro W hSw
          try dsimp only at hSw
          go_simp
          try with_reducible rfl
        simp only [Act.put]
        refine wpAnyH_ready (rs := [9]) (by kernel_rfl) (by simp) ?_
        refine AllReadyH.cons rfl (fun K hK => ?_) AllReadyH.nil
        go_simp
        obtain ⟨zd0, zd1, zd2, _, _, _, zdl⟩ := blk_cells Xd_12.out
        refine hK.out _ _ ⟨zd0, zd1, zd2⟩ (fun hH3 => ?_)
        clear hK K hH2
        try simp only [Act.put, List.setIfInBounds_toArray, List.set_cons_zero, List.set_cons_succ]
        clear zd0 zd1 zd2 zdl
        refine wpAnyH_done (by kernel_rfl) ?_ _
        clear hH3
        have hxx : (x != x) = false := by simp
        cases x
        · go_wp2
          go_roundw
          case rel => exact ⟨j + 1, y, by omega, by go_num, rfl, by rw [HS.out]; simp, by omega, BL3.out⟩
          case measure => simp [intOf]; omega
        · go_wp2
          go_roundw
          case rel => exact ⟨j + 1, y + 1, by omega, by go_num, by go_num, by rw [HS.out]; simp, by omega, BL3.out⟩
          case measure => simp [intOf]; omega
      · obtain rfl : j = n := by omega
        have E2 : Hid ((T.count true : Int) = (y : Int)) := Lib.hid (by rw [HY.out, List.take_of_length_le (by rw [TL.out]; exact Nat.le_refl _)])
        have hyy : ((T.count true : Int) != (y : Int)) = false := by rw [E2.out]; simp
        obtain ⟨zd0, zd1, zd2, _, _, _, zdl⟩ := blk_cells Xd_9.out
        go_wp2_with fail
        clear zd0 zd1 zd2 zdl
        refine (implNot_any p kk Ad z cd kms _ p xms xk true HN1 (Lib.hid (own_nlies DL.out Fd_9.out)) DL (by omega)).mono ?_
        rintro e w10 ⟨Ax, cx, rfl, ho, hb⟩
        have S10 := Lib.hid (hb.size)
        have B10 := Lib.hid (Below.tr B9.out hb)
        have FT_10 := Lib.hid (FT_9.out.below hb)
        clear FT_9
        have Fd_10 := Lib.hid (own_below Fd_9.out hb)
        clear Fd_9
        have Fb_10 := Lib.hid (own_below Fb_9.out hb)
        clear Fb_9
        have Xd_10 := Lib.hid (Xd_9.out.below hb)
        clear Xd_9
        rw [XL.out] at ho ⊢
        have Fx_10 := Lib.hid (ho)
        clear ho hb
        obtain ⟨zd0, zd1, zd2, _, _, _, zdl⟩ := blk_cells Xd_10.out
        go_wp2_with fail
        clear zd0 zd1 zd2 zdl
        obtain ⟨w11, hw11⟩ : ∃ W, W = w10.alloc (.cells #[.int .i64 p, .slice Ax xz cx, .int .i64 xk] 28) := ⟨_, rfl⟩
        have hb : Below w10.heap.size w10 w11 := by rw [hw11]; exact below1 _ _
        have hx : Blk w11 w10.heap.size 28 [.int .i64 p, .slice Ax xz cx, .int .i64 xk] := by rw [hw11]; exact heap_alloc_new _ _
        have hsz : w11.heap.size = w10.heap.size + 1 := by rw [hw11]; simp
        rw [← hw11]
        clear hw11
        have S11 := Lib.hid (hb.size)
        have SE11 := Lib.hid hsz
        have B11 := Lib.hid (Below.tr B10.out hb)
        skip
        have FT_11 := Lib.hid (FT_10.out.below hb)
        clear FT_10
        have Fd_11 := Lib.hid (own_below Fd_10.out hb)
        clear Fd_10
        have Fb_11 := Lib.hid (own_below Fb_10.out hb)
        clear Fb_10
        have Fx_11 := Lib.hid (own_below Fx_10.out hb)
        clear Fx_10
        have Xd_11 := Lib.hid (Xd_10.out.below hb)
        clear Xd_10
        have Xx_11 := Lib.hid hx
        clear hb hx hsz
        refine (implNot_any p xk Ax xz cx xms _ p kms kk true HNN (Lib.hid (own_nlies XL.out Fx_11.out)) XL (by omega)).mono ?_
        rintro e w12 ⟨Ay, cy, rfl, ho, hb⟩
        have S12 := Lib.hid (hb.size)
        have B12 := Lib.hid (Below.tr B11.out hb)
        have FT_12 := Lib.hid (FT_11.out.below hb)
        clear FT_11
        have Fd_12 := Lib.hid (own_below Fd_11.out hb)
        clear Fd_11
        have Fb_12 := Lib.hid (own_below Fb_11.out hb)
        clear Fb_11
        have Fx_12 := Lib.hid (own_below Fx_11.out hb)
        clear Fx_11
        have Xd_12 := Lib.hid (Xd_11.out.below hb)
        clear Xd_11
        have Xx_12 := Lib.hid (Xx_11.out.below hb)
        clear Xx_11
        rw [DL.out] at ho ⊢
        have Fy_12 := Lib.hid (ho)
        clear ho hb
        obtain ⟨zd0, zd1, zd2, _, _, _, zdl⟩ := blk_cells Xd_12.out
        obtain ⟨zx0, zx1, zx2, _, _, _, zxl⟩ := blk_cells Xx_12.out
        go_wp2_with fail
        clear zd0 zd1 zd2 zdl
        clear zx0 zx1 zx2 zxl
        obtain ⟨w13, hw13⟩ : ∃ W, W = w12.alloc (.cells #[.int .i64 p, .slice Ay z cy, .int .i64 kk] 28) := ⟨_, rfl⟩
        have hb : Below w12.heap.size w12 w13 := by rw [hw13]; exact below1 _ _
        have hx : Blk w13 w12.heap.size 28 [.int .i64 p, .slice Ay z cy, .int .i64 kk] := by rw [hw13]; exact heap_alloc_new _ _
        have hsz : w13.heap.size = w12.heap.size + 1 := by rw [hw13]; simp
        rw [← hw13]
        clear hw13
        have S13 := Lib.hid (hb.size)
        have SE13 := Lib.hid hsz
        have B13 := Lib.hid (Below.tr B12.out hb)
        skip
        have FT_13 := Lib.hid (FT_12.out.below hb)
        clear FT_12
        have Fd_13 := Lib.hid (own_below Fd_12.out hb)
        clear Fd_12
        have Fb_13 := Lib.hid (own_below Fb_12.out hb)
        clear Fb_12
        have Fx_13 := Lib.hid (own_below Fx_12.out hb)
        clear Fx_12
        have Fy_13 := Lib.hid (own_below Fy_12.out hb)
        clear Fy_12
        have Xd_13 := Lib.hid (Xd_12.out.below hb)
        clear Xd_12
        have Xx_13 := Lib.hid (Xx_12.out.below hb)
        clear Xx_12
        have Xy_13 := Lib.hid hx
        clear hb hx hsz
        refine (implGoodD_any p kk Ad z cd kms _ (Lib.hid (own_nlies DL.out Fd_13.out)) DL (by omega)).mono ?_
        rintro e w14 ⟨rfl, hb⟩
        have S14 := Lib.hid (hb.size)
        have B14 := Lib.hid (Below.tr B13.out hb)
        have FT_14 := Lib.hid (FT_13.out.below hb)
        clear FT_13
        have Fd_14 := Lib.hid (own_below Fd_13.out hb)
        clear Fd_13
        have Fb_14 := Lib.hid (own_below Fb_13.out hb)
        clear Fb_13
        have Fx_14 := Lib.hid (own_below Fx_13.out hb)
        clear Fx_13
        have Fy_14 := Lib.hid (own_below Fy_13.out hb)
        clear Fy_13
        have Xd_14 := Lib.hid (Xd_13.out.below hb)
        clear Xd_13
        have Xx_14 := Lib.hid (Xx_13.out.below hb)
        clear Xx_13
        have Xy_14 := Lib.hid (Xy_13.out.below hb)
        clear Xy_13
        rw [GD.out]
        clear hb
        obtain ⟨zd0, zd1, zd2, _, _, _, zdl⟩ := blk_cells Xd_14.out
        obtain ⟨zx0, zx1, zx2, _, _, _, zxl⟩ := blk_cells Xx_14.out
        obtain ⟨zy0, zy1, zy2, _, _, _, zyl⟩ := blk_cells Xy_14.out
        go_wp2_with fail
        clear zd0 zd1 zd2 zdl
        clear zx0 zx1 zx2 zxl
        clear zy0 zy1 zy2 zyl
        refine (sameBoolsD Ab AT j cb cT T _ (Lib.hid (own_blies Fb_14.out)) FT_14 TL (by omega)).mono ?_
        rintro e w15 ⟨rfl, hb⟩
        have S15 := Lib.hid (hb.size)
        have B15 := Lib.hid (Below.tr B14.out hb)
        have FT_15 := Lib.hid (FT_14.out.below hb)
        clear FT_14
        have Fd_15 := Lib.hid (own_below Fd_14.out hb)
        clear Fd_14
        have Fb_15 := Lib.hid (own_below Fb_14.out hb)
        clear Fb_14
        have Fx_15 := Lib.hid (own_below Fx_14.out hb)
        clear Fx_14
        have Fy_15 := Lib.hid (own_below Fy_14.out hb)
        clear Fy_14
        have Xd_15 := Lib.hid (Xd_14.out.below hb)
        clear Xd_14
        have Xx_15 := Lib.hid (Xx_14.out.below hb)
        clear Xx_14
        have Xy_15 := Lib.hid (Xy_14.out.below hb)
        clear Xy_14
        clear hb
        obtain ⟨zd0, zd1, zd2, _, _, _, zdl⟩ := blk_cells Xd_15.out
        obtain ⟨zx0, zx1, zx2, _, _, _, zxl⟩ := blk_cells Xx_15.out
        obtain ⟨zy0, zy1, zy2, _, _, _, zyl⟩ := blk_cells Xy_15.out
        go_wp2_with fail
        clear zd0 zd1 zd2 zdl
        clear zx0 zx1 zx2 zxl
        clear zy0 zy1 zy2 zyl
        refine (sameDg_any p kk p kk Ay Ad z z cy cd kms kms _ (Lib.hid (own_nlies DL.out Fy_15.out)) (Lib.hid (own_nlies DL.out Fd_15.out)) DL DL (by omega) (by omega)).mono ?_
        rintro e w16 ⟨rfl, hb⟩
        have S16 := Lib.hid (hb.size)
        have B16 := Lib.hid (Below.tr B15.out hb)
        have FT_16 := Lib.hid (FT_15.out.below hb)
        clear FT_15
        have Fd_16 := Lib.hid (own_below Fd_15.out hb)
        clear Fd_15
        have Fb_16 := Lib.hid (own_below Fb_15.out hb)
        clear Fb_15
        have Fx_16 := Lib.hid (own_below Fx_15.out hb)
        clear Fx_15
        have Fy_16 := Lib.hid (own_below Fy_15.out hb)
        clear Fy_15
        have Xd_16 := Lib.hid (Xd_15.out.below hb)
        clear Xd_15
        have Xx_16 := Lib.hid (Xx_15.out.below hb)
        clear Xx_15
        have Xy_16 := Lib.hid (Xy_15.out.below hb)
        clear Xy_15
        rw [dgEq_same]
        clear hb
        obtain ⟨zd0, zd1, zd2, _, _, _, zdl⟩ := blk_cells Xd_16.out
        obtain ⟨zx0, zx1, zx2, _, _, _, zxl⟩ := blk_cells Xx_16.out
        obtain ⟨zy0, zy1, zy2, _, _, _, zyl⟩ := blk_cells Xy_16.out
        go_wp2_with fail
        clear zd0 zd1 zd2 zdl
        clear zx0 zx1 zx2 zxl
        clear zy0 zy1 zy2 zyl
        refine (sameDg_any p xk p kk Ax Ad xz z cx cd xms kms _ (Lib.hid (own_nlies XL.out Fx_16.out)) (Lib.hid (own_nlies DL.out Fd_16.out)) XL DL (by omega) (by omega)).mono ?_
        rintro e w17 ⟨rfl, hb⟩
        have S17 := Lib.hid (hb.size)
        have B17 := Lib.hid (Below.tr B16.out hb)
        have FT_17 := Lib.hid (FT_16.out.below hb)
        clear FT_16
        have Fd_17 := Lib.hid (own_below Fd_16.out hb)
        clear Fd_16
        have Fb_17 := Lib.hid (own_below Fb_16.out hb)
        clear Fb_16
        have Fx_17 := Lib.hid (own_below Fx_16.out hb)
        clear Fx_16
        have Fy_17 := Lib.hid (own_below Fy_16.out hb)
        clear Fy_16
        have Xd_17 := Lib.hid (Xd_16.out.below hb)
        clear Xd_16
        have Xx_17 := Lib.hid (Xx_16.out.below hb)
        clear Xx_16
        have Xy_17 := Lib.hid (Xy_16.out.below hb)
        clear Xy_16
        rw [HNE.out]
        clear hb
        obtain ⟨zd0, zd1, zd2, _, _, _, zdl⟩ := blk_cells Xd_17.out
        go_wp2_with fail
        clear zd0 zd1 zd2 zdl
        refine (drawEval_any a1 len1 cap1 _ (Lib.hid (h1.out.below B17.out))).mono ?_
        rintro e w18 ⟨ea, er, AE, AM, cE, cM, es, em, rfl, hel, hml, hlE, hlM, hb⟩
        have S18 := Lib.hid (hb.size)
        have B18 := Lib.hid (Below.tr B17.out hb)
        have FT_18 := Lib.hid (FT_17.out.below hb)
        clear FT_17
        have Fd_18 := Lib.hid (own_below Fd_17.out hb)
        clear Fd_17
        have Xd_18 := Lib.hid (Xd_17.out.below hb)
        clear Xd_17
        obtain ⟨ne, hne⟩ : ∃ n, es.length = n := ⟨_, rfl⟩
        have EL := Lib.hid hne
        obtain ⟨nm, hnm⟩ : ∃ n, em.length = n := ⟨_, rfl⟩
        have ML := Lib.hid hnm
        rw [hne] at hel ⊢
        rw [hnm] at hml ⊢
        clear hne hnm
        have FE_18 := Lib.hid (hlE)
        have FM_18 := Lib.hid (hlM)
        clear hlE hlM hb
        obtain ⟨eb, eo, hre⟩ : ∃ b ok, rEval ea es er em b ok := ⟨_, _, rfl, rfl⟩
        have HRE := Lib.hid hre
        clear hre
        obtain ⟨zd0, zd1, zd2, _, _, _, zdl⟩ := blk_cells Xd_18.out
        go_wp2_with fail
        clear zd0 zd1 zd2 zdl
        obtain ⟨w19, hw19⟩ : ∃ W, W = w18.alloc (.cells #[.int .i64 ea, .slice AE ne cE, .int .i64 er] 28) := ⟨_, rfl⟩
        have hb : Below w18.heap.size w18 w19 := by rw [hw19]; exact below1 _ _
        have hx : Blk w19 w18.heap.size 28 [.int .i64 ea, .slice AE ne cE, .int .i64 er] := by rw [hw19]; exact heap_alloc_new _ _
        have hsz : w19.heap.size = w18.heap.size + 1 := by rw [hw19]; simp
        rw [← hw19]
        clear hw19
        have S19 := Lib.hid (hb.size)
        have SE19 := Lib.hid hsz
        have B19 := Lib.hid (Below.tr B18.out hb)
        skip
        have FT_19 := Lib.hid (FT_18.out.below hb)
        clear FT_18
        have Fd_19 := Lib.hid (own_below Fd_18.out hb)
        clear Fd_18
        have FE_19 := Lib.hid (FE_18.out.below hb)
        clear FE_18
        have FM_19 := Lib.hid (FM_18.out.below hb)
        clear FM_18
        have Xd_19 := Lib.hid (Xd_18.out.below hb)
        clear Xd_18
        have XE_19 := Lib.hid hx
        clear hb hx hsz
        refine (implEval_any ea er AE AM ne cE nm cM es em _ eb eo HRE FE_19 EL (by omega) FM_19 ML (by omega)).mono ?_
        rintro e w20 ⟨rfl, hb⟩
        have S20 := Lib.hid (hb.size)
        have B20 := Lib.hid (Below.tr B19.out hb)
        have FT_20 := Lib.hid (FT_19.out.below hb)
        clear FT_19
        have Fd_20 := Lib.hid (own_below Fd_19.out hb)
        clear Fd_19
        have FE_20 := Lib.hid (FE_19.out.below hb)
        clear FE_19
        have FM_20 := Lib.hid (FM_19.out.below hb)
        clear FM_19
        have Xd_20 := Lib.hid (Xd_19.out.below hb)
        clear Xd_19
        have XE_20 := Lib.hid (XE_19.out.below hb)
        clear XE_19
        clear hb
        obtain ⟨zd0, zd1, zd2, _, _, _, zdl⟩ := blk_cells Xd_20.out
        obtain ⟨zE0, zE1, zE2, _, _, _, zEl⟩ := blk_cells XE_20.out
        go_wp2_with fail
        clear zd0 zd1 zd2 zdl
        clear zE0 zE1 zE2 zEl
        refine (specEval_any ea er AE AM ne cE nm cM es em _ eb eo HRE FE_20 EL (by omega) FM_20 ML (by omega)).mono ?_
        rintro e w21 ⟨rfl, hb⟩
        have S21 := Lib.hid (hb.size)
        have B21 := Lib.hid (Below.tr B20.out hb)
        have FT_21 := Lib.hid (FT_20.out.below hb)
        clear FT_20
        have Fd_21 := Lib.hid (own_below Fd_20.out hb)
        clear Fd_20
        have FE_21 := Lib.hid (FE_20.out.below hb)
        clear FE_20
        have FM_21 := Lib.hid (FM_20.out.below hb)
        clear FM_20
        have Xd_21 := Lib.hid (Xd_20.out.below hb)
        clear Xd_20
        have XE_21 := Lib.hid (XE_20.out.below hb)
        clear XE_20
        clear hb
        obtain ⟨zd0, zd1, zd2, _, _, _, zdl⟩ := blk_cells Xd_21.out
        obtain ⟨zE0, zE1, zE2, _, _, _, zEl⟩ := blk_cells XE_21.out
        go_wp2_with fail
        clear zd0 zd1 zd2 zdl
        clear zE0 zE1 zE2 zEl
        refine (drawOnes_any a1 len1 cap1 _ (Lib.hid (h1.out.below B21.out))).mono ?_
        rintro e w22 ⟨ba, br, AB, cB, bs, rfl, hbl, hoB, hb⟩
        have S22 := Lib.hid (hb.size)
        have B22 := Lib.hid (Below.tr B21.out hb)
        have FT_22 := Lib.hid (FT_21.out.below hb)
        clear FT_21
        have Fd_22 := Lib.hid (own_below Fd_21.out hb)
        clear Fd_21
        have FE_22 := Lib.hid (FE_21.out.below hb)
        clear FE_21
        have FM_22 := Lib.hid (FM_21.out.below hb)
        clear FM_21
        have Xd_22 := Lib.hid (Xd_21.out.below hb)
        clear Xd_21
        have XE_22 := Lib.hid (XE_21.out.below hb)
        clear XE_21
        obtain ⟨nb, hnb⟩ : ∃ n, bs.length = n := ⟨_, rfl⟩
        have BL := Lib.hid hnb
        rw [hnb] at hoB hbl ⊢
        clear hnb
        have FB_22 := Lib.hid (own_nlies BL.out hoB)
        clear hoB hb
        obtain ⟨on, oo, hro⟩ : ∃ x ok, rOnes ba bs br x ok := ⟨_, _, rfl, rfl⟩
        have HRO := Lib.hid hro
        clear hro
        obtain ⟨bt, to, hrt⟩ : ∃ T ok, rTab ba bs br T ok := ⟨_, _, rfl, rfl⟩
        have hbt := rTab_len hrt
        have HRB := Lib.hid hrt
        obtain ⟨nt, hnt⟩ : ∃ n, bt.length = n := ⟨_, rfl⟩
        have BTL := Lib.hid hnt
        rw [hnt] at hbt
        clear hrt hnt
        obtain ⟨zd0, zd1, zd2, _, _, _, zdl⟩ := blk_cells Xd_22.out
        obtain ⟨zE0, zE1, zE2, _, _, _, zEl⟩ := blk_cells XE_22.out
        go_wp2_with fail
        clear zd0 zd1 zd2 zdl
        clear zE0 zE1 zE2 zEl
        obtain ⟨w23, hw23⟩ : ∃ W, W = w22.alloc (.cells #[.int .i64 ba, .slice AB nb cB, .int .i64 br] 28) := ⟨_, rfl⟩
        have hb : Below w22.heap.size w22 w23 := by rw [hw23]; exact below1 _ _
        have hx : Blk w23 w22.heap.size 28 [.int .i64 ba, .slice AB nb cB, .int .i64 br] := by rw [hw23]; exact heap_alloc_new _ _
        have hsz : w23.heap.size = w22.heap.size + 1 := by rw [hw23]; simp
        rw [← hw23]
        clear hw23
        have S23 := Lib.hid (hb.size)
        have SE23 := Lib.hid hsz
        have B23 := Lib.hid (Below.tr B22.out hb)
        skip
        have FT_23 := Lib.hid (FT_22.out.below hb)
        clear FT_22
        have Fd_23 := Lib.hid (own_below Fd_22.out hb)
        clear Fd_22
        have FE_23 := Lib.hid (FE_22.out.below hb)
        clear FE_22
        have FM_23 := Lib.hid (FM_22.out.below hb)
        clear FM_22
        have FB_23 := Lib.hid (FB_22.out.below hb)
        clear FB_22
        have Xd_23 := Lib.hid (Xd_22.out.below hb)
        clear Xd_22
        have XE_23 := Lib.hid (XE_22.out.below hb)
        clear XE_22
        have XB_23 := Lib.hid hx
        clear hb hx hsz
        refine (implOnes_any ba br AB nb cB bs _ on oo HRO FB_23 BL (by omega)).mono ?_
        rintro e w24 ⟨rfl, hb⟩
        have S24 := Lib.hid (hb.size)
        have B24 := Lib.hid (Below.tr B23.out hb)
        have FT_24 := Lib.hid (FT_23.out.below hb)
        clear FT_23
        have Fd_24 := Lib.hid (own_below Fd_23.out hb)
        clear Fd_23
        have FE_24 := Lib.hid (FE_23.out.below hb)
        clear FE_23
        have FM_24 := Lib.hid (FM_23.out.below hb)
        clear FM_23
        have FB_24 := Lib.hid (FB_23.out.below hb)
        clear FB_23
        have Xd_24 := Lib.hid (Xd_23.out.below hb)
        clear Xd_23
        have XE_24 := Lib.hid (XE_23.out.below hb)
        clear XE_23
        have XB_24 := Lib.hid (XB_23.out.below hb)
        clear XB_23
        clear hb
        obtain ⟨zd0, zd1, zd2, _, _, _, zdl⟩ := blk_cells Xd_24.out
        obtain ⟨zE0, zE1, zE2, _, _, _, zEl⟩ := blk_cells XE_24.out
        obtain ⟨zB0, zB1, zB2, _, _, _, zBl⟩ := blk_cells XB_24.out
        go_wp2_with fail
        clear zd0 zd1 zd2 zdl
        clear zE0 zE1 zE2 zEl
        clear zB0 zB1 zB2 zBl
        refine (specOnes_any ba br AB nb cB bs _ on oo HRO FB_24 BL (by omega)).mono ?_
        rintro e w25 ⟨rfl, hb⟩
        have S25 := Lib.hid (hb.size)
        have B25 := Lib.hid (Below.tr B24.out hb)
        have FT_25 := Lib.hid (FT_24.out.below hb)
        clear FT_24
        have Fd_25 := Lib.hid (own_below Fd_24.out hb)
        clear Fd_24
        have FE_25 := Lib.hid (FE_24.out.below hb)
        clear FE_24
        have FM_25 := Lib.hid (FM_24.out.below hb)
        clear FM_24
        have FB_25 := Lib.hid (FB_24.out.below hb)
        clear FB_24
        have Xd_25 := Lib.hid (Xd_24.out.below hb)
        clear Xd_24
        have XE_25 := Lib.hid (XE_24.out.below hb)
        clear XE_24
        have XB_25 := Lib.hid (XB_24.out.below hb)
        clear XB_24
        clear hb
        obtain ⟨zd0, zd1, zd2, _, _, _, zdl⟩ := blk_cells Xd_25.out
        obtain ⟨zE0, zE1, zE2, _, _, _, zEl⟩ := blk_cells XE_25.out
        obtain ⟨zB0, zB1, zB2, _, _, _, zBl⟩ := blk_cells XB_25.out
        go_wp2_with fail
        clear zd0 zd1 zd2 zdl
        clear zE0 zE1 zE2 zEl
        clear zB0 zB1 zB2 zBl
        refine (implTab_any ba br AB nb cB bs _ bt to HRB FB_25 BL (by omega)).mono ?_
        rintro e w26 ⟨Atimpl, ctimpl, rfl, ho, hb⟩
        have S26 := Lib.hid (hb.size)
        have B26 := Lib.hid (Below.tr B25.out hb)
        have FT_26 := Lib.hid (FT_25.out.below hb)
        clear FT_25
        have Fd_26 := Lib.hid (own_below Fd_25.out hb)
        clear Fd_25
        have FE_26 := Lib.hid (FE_25.out.below hb)
        clear FE_25
        have FM_26 := Lib.hid (FM_25.out.below hb)
        clear FM_25
        have FB_26 := Lib.hid (FB_25.out.below hb)
        clear FB_25
        have Xd_26 := Lib.hid (Xd_25.out.below hb)
        clear Xd_25
        have XE_26 := Lib.hid (XE_25.out.below hb)
        clear XE_25
        have XB_26 := Lib.hid (XB_25.out.below hb)
        clear XB_25
        rw [BTL.out] at ho ⊢
        have Ftimpl_26 := Lib.hid (ho)
        clear ho hb
        obtain ⟨zd0, zd1, zd2, _, _, _, zdl⟩ := blk_cells Xd_26.out
        obtain ⟨zE0, zE1, zE2, _, _, _, zEl⟩ := blk_cells XE_26.out
        obtain ⟨zB0, zB1, zB2, _, _, _, zBl⟩ := blk_cells XB_26.out
        go_wp2_with fail
        clear zd0 zd1 zd2 zdl
        clear zE0 zE1 zE2 zEl
        clear zB0 zB1 zB2 zBl
        refine (specTab_any ba br AB nb cB bs _ bt to HRB FB_26 BL (by omega)).mono ?_
        rintro e w27 ⟨Atspec, ctspec, rfl, ho, hb⟩
        have S27 := Lib.hid (hb.size)
        have B27 := Lib.hid (Below.tr B26.out hb)
        have FT_27 := Lib.hid (FT_26.out.below hb)
        clear FT_26
        have Fd_27 := Lib.hid (own_below Fd_26.out hb)
        clear Fd_26
        have FE_27 := Lib.hid (FE_26.out.below hb)
        clear FE_26
        have FM_27 := Lib.hid (FM_26.out.below hb)
        clear FM_26
        have FB_27 := Lib.hid (FB_26.out.below hb)
        clear FB_26
        have Ftimpl_27 := Lib.hid (own_below Ftimpl_26.out hb)
        clear Ftimpl_26
        have Xd_27 := Lib.hid (Xd_26.out.below hb)
        clear Xd_26
        have XE_27 := Lib.hid (XE_26.out.below hb)
        clear XE_26
        have XB_27 := Lib.hid (XB_26.out.below hb)
        clear XB_26
        rw [BTL.out] at ho ⊢
        have Ftspec_27 := Lib.hid (ho)
        clear ho hb
        have q1 : (eo == eo) = true := by simp
        have q2 : (eb == eb) = true := by simp
        have q3 : (oo == oo) = true := by simp
        have q4 : (on == on) = true := by simp
        have q5 : (to == to) = true := by simp
        obtain ⟨gb, hgb⟩ : ∃ b, goodDB ba bs br = b := ⟨_, rfl⟩
        have HGB := Lib.hid hgb
        clear hgb
        have q6 : (gb == gb) = true := by simp
        obtain ⟨zd0, zd1, zd2, _, _, _, zdl⟩ := blk_cells Xd_27.out
        obtain ⟨zE0, zE1, zE2, _, _, _, zEl⟩ := blk_cells XE_27.out
        obtain ⟨zB0, zB1, zB2, _, _, _, zBl⟩ := blk_cells XB_27.out
        go_wp2_with fail
        clear zd0 zd1 zd2 zdl
        clear zE0 zE1 zE2 zEl
        clear zB0 zB1 zB2 zBl
        obtain ⟨zd0, zd1, zd2, _, _, _, zdl⟩ := blk_cells Xd_27.out
        obtain ⟨zE0, zE1, zE2, _, _, _, zEl⟩ := blk_cells XE_27.out
        obtain ⟨zB0, zB1, zB2, _, _, _, zBl⟩ := blk_cells XB_27.out
        refine wp_region_held_drew (S := fun W => W.cell? ⟨w22.heap.size, 0, none⟩ = some (.int .i64 ba) ∧ W.cell? ⟨w22.heap.size, 1, none⟩ = some (.slice AB nb cB) ∧ W.cell? ⟨w22.heap.size, 2, none⟩ = some (.int .i64 br)) (by kernel_rfl) ?_ (fun hHeld => ?_)
        · exact ⟨zB0, zB1, zB2⟩
        clear zd0 zd1 zd2 zdl
        clear zE0 zE1 zE2 zEl
        clear zB0 zB1 zB2 zBl
        obtain ⟨w28, hw28⟩ : ∃ W, W = w27.drew := ⟨_, rfl⟩
        have hb : Below w27.heap.size w27 w28 := by rw [hw28]; exact (Below.refl _ _).drew
        rw [← hw28] at hHeld ⊢
        clear hw28
        have S28 := Lib.hid (hb.size)
        have B28 := Lib.hid (Below.tr B27.out hb)
        have FT_28 := Lib.hid (FT_27.out.below hb)
        clear FT_27
        have Fd_28 := Lib.hid (own_below Fd_27.out hb)
        clear Fd_27
        have FE_28 := Lib.hid (FE_27.out.below hb)
        clear FE_27
        have FM_28 := Lib.hid (FM_27.out.below hb)
        clear FM_27
        have FB_28 := Lib.hid (FB_27.out.below hb)
        clear FB_27
        have Ftimpl_28 := Lib.hid (own_below Ftimpl_27.out hb)
        clear Ftimpl_27
        have Ftspec_28 := Lib.hid (own_below Ftspec_27.out hb)
        clear Ftspec_27
        have Xd_28 := Lib.hid (Xd_27.out.below hb)
        clear Xd_27
        have XE_28 := Lib.hid (XE_27.out.below hb)
        clear XE_27
        have XB_28 := Lib.hid (XB_27.out.below hb)
        clear XB_27
        clear hb
        refine wpAnyH_take (i := 0) (v := ?_) rfl (by kernel_rfl) (by kernel_rfl) (by kernel_rfl) (fun _ _ _ h => h) (Or.inl ⟨by rfl, ?_⟩) (by assumption) ?_
        rotate_left
        · intro W hSw
          try dsimp only at hSw
          go_simp
          try with_reducible rfl
        simp only [Act.put, List.setIfInBounds_toArray]
        refine wpAnyH_take (i := 1) (v := ?_) rfl (by kernel_rfl) (by kernel_rfl) (by kernel_rfl) (fun _ _ _ h => h) (Or.inl ⟨by rfl, ?_⟩) (by assumption) ?_
        rotate_left
        · intro W hSw
          try dsimp only at hSw
          go_simp
          try with_reducible rfl
        simp only [Act.put]
        refine wpAnyH_take (i := 2) (v := ?_) rfl (by kernel_rfl) (by kernel_rfl) (by kernel_rfl) (fun _ _ _ h => h) (Or.inl ⟨by rfl, ?_⟩) (by assumption) ?_
        rotate_left
        · intro W hSw
          try dsimp only at hSw
          go_simp
          try with_reducible rfl
        simp only [Act.put]
        refine wpAnyH_take (i := 3) (v := ?_) rfl (by kernel_rfl) (by kernel_rfl) (by kernel_rfl) (fun _ _ _ h => h) (Or.inl ⟨by rfl, ?_⟩) (by assumption) ?_
        rotate_left
        · intro W hSw
          try dsimp only at hSw
          go_simp
          try with_reducible rfl
        simp only [Act.put]
        refine wpAnyH_take (i := 4) (v := ?_) rfl (by kernel_rfl) (by kernel_rfl) (by kernel_rfl) (fun _ _ _ h => h) (Or.inl ⟨by kernel_rfl, ?_⟩) (by assumption) ?_
        rotate_left
        · intro W hSw
          try dsimp only at hSw
          go_simp
          try with_reducible rfl
        simp only [Act.put]
        refine wpAnyH_take (i := 5) (v := ?_) rfl (by kernel_rfl) (by kernel_rfl) (by kernel_rfl) (fun _ _ _ h => h) (Or.inl ⟨by kernel_rfl, ?_⟩) (by assumption) ?_
        rotate_left
        · intro W hSw
          try dsimp only at hSw
          go_simp
          try with_reducible rfl
        simp only [Act.put]
        refine wpAnyH_take (i := 6) (v := ?_) rfl (by kernel_rfl) (by kernel_rfl) (by kernel_rfl) (fun _ _ _ h => h) (Or.inl ⟨by kernel_rfl, ?_⟩) (by assumption) ?_
        rotate_left
        · intro W hSw
          try dsimp only at hSw
          go_simp
          try with_reducible rfl
        simp only [Act.put]
        refine wpAnyH_take (i := 7) (v := ?_) rfl (by kernel_rfl) (by kernel_rfl) (by kernel_rfl) (fun _ _ _ h => h) (Or.inl ⟨by rfl, ?_⟩) (by assumption) ?_
        rotate_left
        · intro W hSw
          try dsimp only at hSw
          go_simp
          try with_reducible rfl
        simp only [Act.put]
        refine wpAnyH_take (i := 8) (v := ?_) rfl (by kernel_rfl) (by kernel_rfl) (by kernel_rfl) (fun _ _ _ h => h) (Or.inl ⟨by rfl, ?_⟩) (by assumption) ?_
        rotate_left
        · intro W hSw
          try dsimp only at hSw
          go_simp
          try with_reducible rfl
        simp only [Act.put]
        refine wpAnyH_take (i := 9) (v := ?_) rfl (by kernel_rfl) (by kernel_rfl) (by kernel_rfl) (fun _ _ _ h => h) (Or.inl ⟨by kernel_rfl, ?_⟩) (by assumption) ?_
        rotate_left
        · intro W hSw
          try dsimp only at hSw
          go_simp
          try with_reducible rfl
        simp only [Act.put]
        refine wpAnyH_take (i := 10) (v := ?_) rfl (by kernel_rfl) (by kernel_rfl) (by kernel_rfl) (fun _ _ _ h => h) (Or.inl ⟨by kernel_rfl, ?_⟩) (by assumption) ?_
        rotate_left
        · intro W hSw
          try dsimp only at hSw
          go_simp
          try with_reducible rfl
        simp only [Act.put]
        refine wpAnyH_take (i := 11) (v := ?_) rfl (by kernel_rfl) (by kernel_rfl) (by kernel_rfl) (fun _ _ _ h => h) (Or.inl ⟨by kernel_rfl, ?_⟩) (by assumption) ?_
        rotate_left
        · intro W hSw
          try dsimp only at hSw
          go_simp
          try with_reducible rfl
        simp only [Act.put]
        refine wpAnyH_take (i := 12) (v := ?_) rfl (by kernel_rfl) (by kernel_rfl) (by kernel_rfl) (fun _ _ _ h => h) (Or.inl ⟨by rfl, ?_⟩) (by assumption) ?_
        rotate_left
        · intro W hSw
          try dsimp only at hSw
          go_simp
          try with_reducible rfl
        simp only [Act.put]
        refine wpAnyH_take (i := 13) (v := ?_) rfl (by kernel_rfl) (by kernel_rfl) (by kernel_rfl) (fun _ _ _ h => h) (Or.inl ⟨by rfl, ?_⟩) (by assumption) ?_
        rotate_left
        · intro W hSw
          try dsimp only at hSw
          go_simp
          try with_reducible rfl
        simp only [Act.put]
        refine wpAnyH_take (i := 14) (v := ?_) rfl (by kernel_rfl) (by kernel_rfl) (by kernel_rfl) (fun _ _ _ h => h) (Or.inl ⟨by kernel_rfl, ?_⟩) (by assumption) ?_
        rotate_left
        · intro W hSw
          try dsimp only at hSw
          go_simp
          try with_reducible rfl
        simp only [Act.put]
        refine wpAnyH_take (i := 15) (v := ?_) rfl (by kernel_rfl) (by kernel_rfl) (by kernel_rfl) (fun _ _ _ h => h) (Or.inl ⟨by kernel_rfl, ?_⟩) (by assumption) ?_
        rotate_left
        · intro W hSw
          try dsimp only at hSw
          go_simp
          try with_reducible rfl
        simp only [Act.put]
        refine wpAnyH_take (i := 16) (v := ?_) rfl (by kernel_rfl) (by kernel_rfl) (by kernel_rfl) (fun _ _ _ h => h) (Or.inl ⟨by kernel_rfl, ?_⟩) (by assumption) ?_
        rotate_left
        · intro W hSw
          try dsimp only at hSw
          go_simp
          try with_reducible rfl
        simp only [Act.put]
        refine wpAnyH_take (i := 17) (v := ?_) rfl (by kernel_rfl) (by kernel_rfl) (by kernel_rfl) (fun _ _ _ h => h) (Or.inl ⟨by rfl, ?_⟩) (by assumption) ?_
        rotate_left
        · intro W hSw
          try dsimp only at hSw
          go_simp
          try with_reducible rfl
        simp only [Act.put]
        refine wpAnyH_take (i := 18) (v := ?_) rfl (by kernel_rfl) (by kernel_rfl) (by kernel_rfl) (fun _ _ _ h => h) (Or.inl ⟨by rfl, ?_⟩) (by assumption) ?_
        rotate_left
        · intro W hSw
          try dsimp only at hSw
          go_simp
          try with_reducible rfl
        simp only [Act.put]
        refine wpAnyH_take (i := 19) (v := ?_) rfl (by kernel_rfl) (by kernel_rfl) (by kernel_rfl) (fun _ _ _ h => h) (Or.inl ⟨by kernel_rfl, ?_⟩) (by assumption) ?_
        rotate_left
        · intro W hSw
          try dsimp only at hSw
          go_simp
          try with_reducible rfl
        simp only [Act.put]
        refine wpAnyH_take (i := 20) (v := ?_) rfl (by kernel_rfl) (by kernel_rfl) (by kernel_rfl) (fun _ _ _ h => h) (Or.inl ⟨by kernel_rfl, ?_⟩) (by assumption) ?_
        rotate_left
        · intro W hSw
          try dsimp only at hSw
          go_simp
          try with_reducible rfl
        simp only [Act.put]
        refine wpAnyH_take (i := 21) (v := ?_) rfl (by kernel_rfl) (by kernel_rfl) (by kernel_rfl) (fun _ _ _ h => h) (Or.inl ⟨by kernel_rfl, ?_⟩) (by assumption) ?_
        rotate_left
        · intro W hSw
          try dsimp only at hSw
          go_simp
          try with_reducible rfl
        simp only [Act.put]
        refine wpAnyH_take (i := 22) (v := ?_) rfl (by kernel_rfl) (by kernel_rfl) (by kernel_rfl) (fun _ _ _ h => h) (Or.inl ⟨by rfl, ?_⟩) (by assumption) ?_
        rotate_left
        · intro W hSw
          try dsimp only at hSw
          go_simp
          try with_reducible rfl
        simp only [Act.put]
        refine wpAnyH_take (i := 23) (v := ?_) rfl (by kernel_rfl) (by kernel_rfl) (by kernel_rfl) (fun _ _ _ h => h) (Or.inl ⟨by rfl, ?_⟩) (by assumption) ?_
        rotate_left
        · intro W hSw
          try dsimp only at hSw
          go_simp
          try with_reducible rfl
        simp only [Act.put]
        refine wpAnyH_take (i := 24) (v := ?_) rfl (by kernel_rfl) (by kernel_rfl) (by kernel_rfl) (fun _ _ _ h => h) (Or.inl ⟨by kernel_rfl, ?_⟩) (by assumption) ?_
        rotate_left
        · intro W hSw
          try dsimp only at hSw
          go_simp
          try with_reducible rfl
        simp only [Act.put]
        refine wpAnyH_take (i := 25) (v := ?_) rfl (by kernel_rfl) (by kernel_rfl) (by kernel_rfl) (fun _ _ _ h => h) (Or.inl ⟨by kernel_rfl, ?_⟩) (by assumption) ?_
        rotate_left
        · intro W hSw
          try dsimp only at hSw
          go_simp
          try with_reducible rfl
        simp only [Act.put]
        refine wpAnyH_ready (rs := [26]) (by kernel_rfl) (by simp) ?_
        refine AllReadyH.cons rfl (fun K hK => ?_) AllReadyH.nil
        rw [if_pos (by kernel_rfl)]
        go_simp
        refine (sameBoolsD Atimpl Atspec nt ctimpl ctspec bt _ (Lib.hid (own_blies Ftimpl_28.out)) (Lib.hid (own_blies Ftspec_28.out)) BTL (by omega)).mono ?_
        rintro e w29 ⟨rfl, hb⟩
        have S29 := Lib.hid (hb.size)
        have B29 := Lib.hid (Below.tr B28.out hb)
        have FT_29 := Lib.hid (FT_28.out.below hb)
        clear FT_28
        have Fd_29 := Lib.hid (own_below Fd_28.out hb)
        clear Fd_28
        have FE_29 := Lib.hid (FE_28.out.below hb)
        clear FE_28
        have FM_29 := Lib.hid (FM_28.out.below hb)
        clear FM_28
        have FB_29 := Lib.hid (FB_28.out.below hb)
        clear FB_28
        have Ftimpl_29 := Lib.hid (own_below Ftimpl_28.out hb)
        clear Ftimpl_28
        have Ftspec_29 := Lib.hid (own_below Ftspec_28.out hb)
        clear Ftspec_28
        have Xd_29 := Lib.hid (Xd_28.out.below hb)
        clear Xd_28
        have XE_29 := Lib.hid (XE_28.out.below hb)
        clear XE_28
        have XB_29 := Lib.hid (XB_28.out.below hb)
        clear XB_28
        clear hb
        obtain ⟨zd0, zd1, zd2, _, _, _, zdl⟩ := blk_cells Xd_29.out
        obtain ⟨zE0, zE1, zE2, _, _, _, zEl⟩ := blk_cells XE_29.out
        obtain ⟨zB0, zB1, zB2, _, _, _, zBl⟩ := blk_cells XB_29.out
        refine hK.out _ _ ⟨zB0, zB1, zB2⟩ (fun hH1 => ?_)
        clear hK K hHeld
        try simp only [Act.put, List.setIfInBounds_toArray, List.set_cons_zero, List.set_cons_succ]
        clear zd0 zd1 zd2 zdl
        clear zE0 zE1 zE2 zEl
        clear zB0 zB1 zB2 zBl
        refine wpAnyH_take (i := 27) (v := ?_) rfl (by kernel_rfl) (by kernel_rfl) (by kernel_rfl) (fun _ _ _ h => h) (Or.inl ⟨by rfl, ?_⟩) (by assumption) ?_
        rotate_left
        · intro W hSw
          try dsimp only at hSw
          go_simp
          try with_reducible rfl
        simp only [Act.put, List.setIfInBounds_toArray]
        refine wpAnyH_take (i := 28) (v := ?_) rfl (by kernel_rfl) (by kernel_rfl) (by kernel_rfl) (fun _ _ _ h => h) (Or.inl ⟨by rfl, ?_⟩) (by assumption) ?_
        rotate_left
        · intro W hSw
          try dsimp only at hSw
          go_simp
          try with_reducible rfl
        simp only [Act.put]
        refine wpAnyH_take (i := 29) (v := ?_) rfl (by kernel_rfl) (by kernel_rfl) (by kernel_rfl) (fun _ _ _ h => h) (Or.inl ⟨by kernel_rfl, ?_⟩) (by assumption) ?_
        rotate_left
        · intro W hSw
          try dsimp only at hSw
          go_simp
          try with_reducible rfl
        simp only [Act.put]
        refine wpAnyH_take (i := 31) (v := ?_) rfl (by kernel_rfl) (by kernel_rfl) (by kernel_rfl) (fun _ _ _ h => h) (Or.inl ⟨by kernel_rfl, ?_⟩) (by assumption) ?_
        rotate_left
        · intro W hSw
          try dsimp only at hSw
          go_simp
          try with_reducible rfl
        simp only [Act.put]
        refine wpAnyH_ready (rs := [30]) (by kernel_rfl) (by simp) ?_
        refine AllReadyH.cons rfl (fun K hK => ?_) AllReadyH.nil
        rw [if_pos (by kernel_rfl)]
        go_simp
        refine (implGoodD_any ba br AB nb cB bs _ FB_29 BL (by omega)).mono ?_
        rintro e w30 ⟨rfl, hb⟩
        have S30 := Lib.hid (hb.size)
        have B30 := Lib.hid (Below.tr B29.out hb)
        have FT_30 := Lib.hid (FT_29.out.below hb)
        clear FT_29
        have Fd_30 := Lib.hid (own_below Fd_29.out hb)
        clear Fd_29
        have FE_30 := Lib.hid (FE_29.out.below hb)
        clear FE_29
        have FM_30 := Lib.hid (FM_29.out.below hb)
        clear FM_29
        have FB_30 := Lib.hid (FB_29.out.below hb)
        clear FB_29
        have Ftimpl_30 := Lib.hid (own_below Ftimpl_29.out hb)
        clear Ftimpl_29
        have Ftspec_30 := Lib.hid (own_below Ftspec_29.out hb)
        clear Ftspec_29
        have Xd_30 := Lib.hid (Xd_29.out.below hb)
        clear Xd_29
        have XE_30 := Lib.hid (XE_29.out.below hb)
        clear XE_29
        have XB_30 := Lib.hid (XB_29.out.below hb)
        clear XB_29
        rw [HGB.out]
        clear hb
        obtain ⟨zd0, zd1, zd2, _, _, _, zdl⟩ := blk_cells Xd_30.out
        obtain ⟨zE0, zE1, zE2, _, _, _, zEl⟩ := blk_cells XE_30.out
        obtain ⟨zB0, zB1, zB2, _, _, _, zBl⟩ := blk_cells XB_30.out
        refine hK.out _ _ ⟨zB0, zB1, zB2⟩ (fun hH2 => ?_)
        clear hK K hH1
        try simp only [Act.put, List.setIfInBounds_toArray, List.set_cons_zero, List.set_cons_succ]
        clear zd0 zd1 zd2 zdl
        clear zE0 zE1 zE2 zEl
        clear zB0 zB1 zB2 zBl
        refine wpAnyH_ready (rs := [32]) (by kernel_rfl) (by simp) ?_
        refine AllReadyH.cons rfl (fun K hK => ?_) AllReadyH.nil
        rw [if_pos (by kernel_rfl)]
        go_simp
        refine (specGoodD_any ba br AB nb cB bs _ FB_30 BL (by omega)).mono ?_
        rintro e w31 ⟨rfl, hb⟩
        have S31 := Lib.hid (hb.size)
        have B31 := Lib.hid (Below.tr B30.out hb)
        have FT_31 := Lib.hid (FT_30.out.below hb)
        clear FT_30
        have Fd_31 := Lib.hid (own_below Fd_30.out hb)
        clear Fd_30
        have FE_31 := Lib.hid (FE_30.out.below hb)
        clear FE_30
        have FM_31 := Lib.hid (FM_30.out.below hb)
        clear FM_30
        have FB_31 := Lib.hid (FB_30.out.below hb)
        clear FB_30
        have Ftimpl_31 := Lib.hid (own_below Ftimpl_30.out hb)
        clear Ftimpl_30
        have Ftspec_31 := Lib.hid (own_below Ftspec_30.out hb)
        clear Ftspec_30
        have Xd_31 := Lib.hid (Xd_30.out.below hb)
        clear Xd_30
        have XE_31 := Lib.hid (XE_30.out.below hb)
        clear XE_30
        have XB_31 := Lib.hid (XB_30.out.below hb)
        clear XB_30
        rw [HGB.out]
        clear hb
        obtain ⟨zd0, zd1, zd2, _, _, _, zdl⟩ := blk_cells Xd_31.out
        obtain ⟨zE0, zE1, zE2, _, _, _, zEl⟩ := blk_cells XE_31.out
        obtain ⟨zB0, zB1, zB2, _, _, _, zBl⟩ := blk_cells XB_31.out
        refine hK.out _ _ ⟨zB0, zB1, zB2⟩ (fun hH3 => ?_)
        clear hK K hH2
        try simp only [Act.put, List.setIfInBounds_toArray, List.set_cons_zero, List.set_cons_succ]
        clear zd0 zd1 zd2 zdl
        clear zE0 zE1 zE2 zEl
        clear zB0 zB1 zB2 zBl
        refine wpAnyH_take (i := 33) (v := ?_) rfl (by kernel_rfl) (by kernel_rfl) (by kernel_rfl) (fun _ _ _ h => h) (Or.inl ⟨by kernel_rfl, ?_⟩) (by assumption) ?_
        rotate_left
        · intro W hSw
          try dsimp only at hSw
          go_simp
          try with_reducible rfl
        simp only [Act.put, List.setIfInBounds_toArray]
        refine wpAnyH_take (i := 34) (v := ?_) rfl (by kernel_rfl) (by kernel_rfl) (by kernel_rfl) (fun _ _ _ h => h) (Or.inl ⟨by rfl, ?_⟩) (by assumption) ?_
        rotate_left
        · intro W hSw
          try dsimp only at hSw
          go_simp
          try with_reducible rfl
        simp only [Act.put]
        refine wpAnyH_ready (rs := [35]) (by kernel_rfl) (by simp) ?_
        refine AllReadyH.cons rfl (fun K hK => ?_) AllReadyH.nil
        rw [if_pos (by kernel_rfl)]
        go_simp
        obtain ⟨zd0, zd1, zd2, _, _, _, zdl⟩ := blk_cells Xd_31.out
        obtain ⟨zE0, zE1, zE2, _, _, _, zEl⟩ := blk_cells XE_31.out
        obtain ⟨zB0, zB1, zB2, _, _, _, zBl⟩ := blk_cells XB_31.out
        refine hK.out _ _ ⟨zB0, zB1, zB2⟩ (fun hH4 => ?_)
        clear hK K hH3
        try simp only [Act.put, List.setIfInBounds_toArray, List.set_cons_zero, List.set_cons_succ]
        clear zd0 zd1 zd2 zdl
        clear zE0 zE1 zE2 zEl
        clear zB0 zB1 zB2 zBl
        refine wpAnyH_done (by kernel_rfl) ?_ _
        clear hH4
        go_wp2
        go_ret
        exact ⟨rfl, B31.out⟩
end Go.Proofs.Ythhmacocijcjiaa
