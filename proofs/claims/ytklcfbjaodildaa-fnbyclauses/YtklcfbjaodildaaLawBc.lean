/-
  The walk of FnByClauses.
-/
import Derived.Test.YtklcfbjaodildaaLawDgH
import Derived.Test.YtklcfbjaodildaaSp7
import Derived.Test.YtklcfbjaodildaaDrawDg2
import Derived.Test.YtklcfbjaodildaaDgMath4
import Derived.Test.YtklcfbjaodildaaDLen
namespace Go.Proofs.Ytklcfbjaodildaa
open Go.ChangeShapes Go.WideShapes Go.ChangeAt Go.RowKit

set_option maxRecDepth 100000 in
set_option maxHeartbeats 64000000 in
theorem lawByClauses (a0 : Option Addr) (len0 cap0 : Nat) (a1 : Option Addr) (len1 cap1 : Nat) (w : World) (h0 : Hid (Bytes w a0 len0)) (h1 : Hid (Bytes w a1 len1)) :
    Calls Try.prog 3 #[.slice a0 len0 cap0, .slice a1 len1 cap1] w fun e w' => e = .returned (.bool true) ∧ Below w.heap.size w w' := by
  by_cases hbig : (1048576 : Int) < wrap64 ((len0 : Int) + (len1 : Int))
  · go_enter Try.func3, Try.ntmps3
    go_wp2
    go_ret
    exact ⟨rfl, Below.refl _ _⟩
  have hdec : decide ((1048576 : Int) < wrap64 ((len0 : Int) + (len1 : Int))) = false := decide_eq_false hbig
  clear hbig
  go_enter Try.func3, Try.ntmps3
  go_wp2_with fail
  refine (drawByC_any a0 len0 cap0 _ h0).mono ?_
  rintro e w1 ⟨v, L, A, c1, rfl, hv, hL, hl, hc, hcm, hA, hb⟩
  have S1 := Lib.hid (hb.size)
  have B1 := Lib.hid hb
  have FL_1 := Lib.hid hl
  have HA := Lib.hid hA
  clear hl hb hA
  obtain ⟨n, hn⟩ : ∃ n, L.length = n := ⟨_, rfl⟩
  rw [hn] at hL hc ⊢
  have HX := Lib.hid hn
  clear hn
  obtain ⟨⟨⟨d0, ds, d2⟩, ok⟩, hr⟩ : ∃ x, rBy v L = x := ⟨_, rfl⟩
  have hdz : ds.length ≤ 64 := rBy_len hr
  have HR := Lib.hid hr
  clear hr
  obtain ⟨z, hz⟩ : ∃ z, ds.length = z := ⟨_, rfl⟩
  have DL := Lib.hid hz
  rw [hz] at hdz
  clear hz
  go_wp2_with fail
  refine (implBy_any v A n c1 L _ d0 ds d2 ok HR FL_1 HX (by omega)).mono ?_
  rintro e w2 ⟨Ad, cd, rfl, ho, hb⟩
  have S2 := Lib.hid (hb.size)
  have B2 := Lib.hid (Below.tr B1.out hb)
  have FL_2 := Lib.hid (FL_1.out.below hb)
  clear FL_1
  rw [DL.out] at ho ⊢
  have Fd_2 := Lib.hid (ho)
  clear ho hb
  go_wp2_with fail
  obtain ⟨w3, hw3⟩ : ∃ W, W = w2.alloc (.cells #[.int .i64 d0, .slice Ad z cd, .int .i64 d2] 28) := ⟨_, rfl⟩
  have hb : Below w2.heap.size w2 w3 := by rw [hw3]; exact below1 _ _
  have hx : Blk w3 w2.heap.size 28 [.int .i64 d0, .slice Ad z cd, .int .i64 d2] := by rw [hw3]; exact heap_alloc_new _ _
  have hsz : w3.heap.size = w2.heap.size + 1 := by rw [hw3]; simp
  rw [← hw3]
  clear hw3
  have S3 := Lib.hid (hb.size)
  have SE3 := Lib.hid hsz
  have B3 := Lib.hid (Below.tr B2.out hb)
  have FL_3 := Lib.hid (FL_2.out.below hb)
  clear FL_2
  have Fd_3 := Lib.hid (own_below Fd_2.out hb)
  clear Fd_2
  have Xd_3 := Lib.hid hx
  clear hb hx hsz
  refine (specBy_any v A n c1 L _ d0 ds d2 ok HR FL_3 HX (by omega)).mono ?_
  rintro e w4 ⟨Av, cv, rfl, ho, hb⟩
  have S4 := Lib.hid (hb.size)
  have B4 := Lib.hid (Below.tr B3.out hb)
  have FL_4 := Lib.hid (FL_3.out.below hb)
  clear FL_3
  have Fd_4 := Lib.hid (own_below Fd_3.out hb)
  clear Fd_3
  have Xd_4 := Lib.hid (Xd_3.out.below hb)
  clear Xd_3
  rw [DL.out] at ho ⊢
  have Fv_4 := Lib.hid (ho)
  clear ho hb
  have hbo : (ok != ok) = false := by simp
  obtain ⟨zd0, zd1, zd2, _, _, _, zdl⟩ := blk_cells Xd_4.out
  go_wp2_with fail
  clear zd0 zd1 zd2 zdl
  obtain ⟨w5, hw5⟩ : ∃ W, W = w4.alloc (.cells #[.int .i64 d0, .slice Av z cv, .int .i64 d2] 28) := ⟨_, rfl⟩
  have hb : Below w4.heap.size w4 w5 := by rw [hw5]; exact below1 _ _
  have hx : Blk w5 w4.heap.size 28 [.int .i64 d0, .slice Av z cv, .int .i64 d2] := by rw [hw5]; exact heap_alloc_new _ _
  have hsz : w5.heap.size = w4.heap.size + 1 := by rw [hw5]; simp
  rw [← hw5]
  clear hw5
  have S5 := Lib.hid (hb.size)
  have SE5 := Lib.hid hsz
  have B5 := Lib.hid (Below.tr B4.out hb)
  have FL_5 := Lib.hid (FL_4.out.below hb)
  clear FL_4
  have Fd_5 := Lib.hid (own_below Fd_4.out hb)
  clear Fd_4
  have Fv_5 := Lib.hid (own_below Fv_4.out hb)
  clear Fv_4
  have Xd_5 := Lib.hid (Xd_4.out.below hb)
  clear Xd_4
  have Xv_5 := Lib.hid hx
  clear hb hx hsz
  refine (sameDg_any d0 d2 d0 d2 Ad Av z z cd cv ds ds _ (Lib.hid (own_nlies DL.out Fd_5.out)) (Lib.hid (own_nlies DL.out Fv_5.out)) DL DL (by omega) (by omega)).mono ?_
  rintro e w6 ⟨rfl, hb⟩
  have S6 := Lib.hid (hb.size)
  have B6 := Lib.hid (Below.tr B5.out hb)
  have FL_6 := Lib.hid (FL_5.out.below hb)
  clear FL_5
  have Fd_6 := Lib.hid (own_below Fd_5.out hb)
  clear Fd_5
  have Fv_6 := Lib.hid (own_below Fv_5.out hb)
  clear Fv_5
  have Xd_6 := Lib.hid (Xd_5.out.below hb)
  clear Xd_5
  have Xv_6 := Lib.hid (Xv_5.out.below hb)
  clear Xv_5
  rw [dgEq_same]
  clear hb
  cases ok
  · clear hbo
    obtain ⟨zd0, zd1, zd2, _, _, _, zdl⟩ := blk_cells Xd_6.out
    go_wp2_with fail
    clear zd0 zd1 zd2 zdl
    refine (drawFixV_any a1 len1 cap1 _ (Lib.hid (h1.out.below B6.out))).mono ?_
    rintro e w7 ⟨fa, fr, AE, cE, es, fv, so, rfl, hel, hlE, hb⟩
    have S7 := Lib.hid (hb.size)
    have B7 := Lib.hid (Below.tr B6.out hb)
    have FL_7 := Lib.hid (FL_6.out.below hb)
    clear FL_6
    have Fd_7 := Lib.hid (own_below Fd_6.out hb)
    clear Fd_6
    have Xd_7 := Lib.hid (Xd_6.out.below hb)
    clear Xd_6
    obtain ⟨ne, hne⟩ : ∃ n, es.length = n := ⟨_, rfl⟩
    have EL := Lib.hid hne
    rw [hne] at hel ⊢
    clear hne
    have FE_7 := Lib.hid (hlE)
    clear hlE hb
    obtain ⟨⟨⟨f0, fs, f2⟩, fo⟩, hfr⟩ : ∃ x, rFix fa es fr fv so = x := ⟨_, rfl⟩
    have hfl : fs.length ≤ 64 := rFix_len hfr
    have HFR := Lib.hid hfr
    clear hfr
    obtain ⟨nf, hnf⟩ : ∃ n, fs.length = n := ⟨_, rfl⟩
    have FL := Lib.hid hnf
    rw [hnf] at hfl
    clear hnf
    obtain ⟨zd0, zd1, zd2, _, _, _, zdl⟩ := blk_cells Xd_7.out
    go_wp2_with fail
    clear zd0 zd1 zd2 zdl
    obtain ⟨w8, hw8⟩ : ∃ W, W = w7.alloc (.cells #[.int .i64 fa, .slice AE ne cE, .int .i64 fr] 28) := ⟨_, rfl⟩
    have hb : Below w7.heap.size w7 w8 := by rw [hw8]; exact below1 _ _
    have hx : Blk w8 w7.heap.size 28 [.int .i64 fa, .slice AE ne cE, .int .i64 fr] := by rw [hw8]; exact heap_alloc_new _ _
    have hsz : w8.heap.size = w7.heap.size + 1 := by rw [hw8]; simp
    rw [← hw8]
    clear hw8
    have S8 := Lib.hid (hb.size)
    have SE8 := Lib.hid hsz
    have B8 := Lib.hid (Below.tr B7.out hb)
    have FL_8 := Lib.hid (FL_7.out.below hb)
    clear FL_7
    have Fd_8 := Lib.hid (own_below Fd_7.out hb)
    clear Fd_7
    have FE_8 := Lib.hid (FE_7.out.below hb)
    clear FE_7
    have Xd_8 := Lib.hid (Xd_7.out.below hb)
    clear Xd_7
    have XE_8 := Lib.hid hx
    clear hb hx hsz
    refine (implFix_any fa fr fv so AE ne cE es _ f0 fs f2 fo HFR FE_8 EL (by omega)).mono ?_
    rintro e w9 ⟨Af, cf, rfl, ho, hb⟩
    have S9 := Lib.hid (hb.size)
    have B9 := Lib.hid (Below.tr B8.out hb)
    have FL_9 := Lib.hid (FL_8.out.below hb)
    clear FL_8
    have Fd_9 := Lib.hid (own_below Fd_8.out hb)
    clear Fd_8
    have FE_9 := Lib.hid (FE_8.out.below hb)
    clear FE_8
    have Xd_9 := Lib.hid (Xd_8.out.below hb)
    clear Xd_8
    have XE_9 := Lib.hid (XE_8.out.below hb)
    clear XE_8
    rw [FL.out] at ho ⊢
    have Ff_9 := Lib.hid (ho)
    clear ho hb
    obtain ⟨zd0, zd1, zd2, _, _, _, zdl⟩ := blk_cells Xd_9.out
    obtain ⟨zE0, zE1, zE2, _, _, _, zEl⟩ := blk_cells XE_9.out
    go_wp2_with fail
    clear zd0 zd1 zd2 zdl
    clear zE0 zE1 zE2 zEl
    obtain ⟨w10, hw10⟩ : ∃ W, W = w9.alloc (.cells #[.int .i64 f0, .slice Af nf cf, .int .i64 f2] 28) := ⟨_, rfl⟩
    have hb : Below w9.heap.size w9 w10 := by rw [hw10]; exact below1 _ _
    have hx : Blk w10 w9.heap.size 28 [.int .i64 f0, .slice Af nf cf, .int .i64 f2] := by rw [hw10]; exact heap_alloc_new _ _
    have hsz : w10.heap.size = w9.heap.size + 1 := by rw [hw10]; simp
    rw [← hw10]
    clear hw10
    have S10 := Lib.hid (hb.size)
    have SE10 := Lib.hid hsz
    have B10 := Lib.hid (Below.tr B9.out hb)
    have FL_10 := Lib.hid (FL_9.out.below hb)
    clear FL_9
    have Fd_10 := Lib.hid (own_below Fd_9.out hb)
    clear Fd_9
    have FE_10 := Lib.hid (FE_9.out.below hb)
    clear FE_9
    have Ff_10 := Lib.hid (own_below Ff_9.out hb)
    clear Ff_9
    have Xd_10 := Lib.hid (Xd_9.out.below hb)
    clear Xd_9
    have XE_10 := Lib.hid (XE_9.out.below hb)
    clear XE_9
    have Xf_10 := Lib.hid hx
    clear hb hx hsz
    refine (specFix_any fa fr fv so AE ne cE es _ f0 fs f2 fo HFR FE_10 EL (by omega)).mono ?_
    rintro e w11 ⟨Au, cu, rfl, ho, hb⟩
    have S11 := Lib.hid (hb.size)
    have B11 := Lib.hid (Below.tr B10.out hb)
    have FL_11 := Lib.hid (FL_10.out.below hb)
    clear FL_10
    have Fd_11 := Lib.hid (own_below Fd_10.out hb)
    clear Fd_10
    have FE_11 := Lib.hid (FE_10.out.below hb)
    clear FE_10
    have Ff_11 := Lib.hid (own_below Ff_10.out hb)
    clear Ff_10
    have Xd_11 := Lib.hid (Xd_10.out.below hb)
    clear Xd_10
    have XE_11 := Lib.hid (XE_10.out.below hb)
    clear XE_10
    have Xf_11 := Lib.hid (Xf_10.out.below hb)
    clear Xf_10
    rw [FL.out] at ho ⊢
    have Fu_11 := Lib.hid (ho)
    clear ho hb
    obtain ⟨zd0, zd1, zd2, _, _, _, zdl⟩ := blk_cells Xd_11.out
    obtain ⟨zE0, zE1, zE2, _, _, _, zEl⟩ := blk_cells XE_11.out
    obtain ⟨zf0, zf1, zf2, _, _, _, zfl⟩ := blk_cells Xf_11.out
    go_wp2_with fail
    clear zd0 zd1 zd2 zdl
    clear zE0 zE1 zE2 zEl
    clear zf0 zf1 zf2 zfl
    obtain ⟨w12, hw12⟩ : ∃ W, W = w11.alloc (.cells #[.int .i64 f0, .slice Au nf cu, .int .i64 f2] 28) := ⟨_, rfl⟩
    have hb : Below w11.heap.size w11 w12 := by rw [hw12]; exact below1 _ _
    have hx : Blk w12 w11.heap.size 28 [.int .i64 f0, .slice Au nf cu, .int .i64 f2] := by rw [hw12]; exact heap_alloc_new _ _
    have hsz : w12.heap.size = w11.heap.size + 1 := by rw [hw12]; simp
    rw [← hw12]
    clear hw12
    have S12 := Lib.hid (hb.size)
    have SE12 := Lib.hid hsz
    have B12 := Lib.hid (Below.tr B11.out hb)
    have FL_12 := Lib.hid (FL_11.out.below hb)
    clear FL_11
    have Fd_12 := Lib.hid (own_below Fd_11.out hb)
    clear Fd_11
    have FE_12 := Lib.hid (FE_11.out.below hb)
    clear FE_11
    have Ff_12 := Lib.hid (own_below Ff_11.out hb)
    clear Ff_11
    have Fu_12 := Lib.hid (own_below Fu_11.out hb)
    clear Fu_11
    have Xd_12 := Lib.hid (Xd_11.out.below hb)
    clear Xd_11
    have XE_12 := Lib.hid (XE_11.out.below hb)
    clear XE_11
    have Xf_12 := Lib.hid (Xf_11.out.below hb)
    clear Xf_11
    have Xu_12 := Lib.hid hx
    clear hb hx hsz
    refine (drawBothD_any a1 len1 cap1 _ (Lib.hid (h1.out.below B12.out))).mono ?_
    rintro e w13 ⟨xa, xr, ya, yr, AX, AY, cX, cY, xs, ys, rfl, hxl, hyl, hlX, hlY, hb⟩
    have S13 := Lib.hid (hb.size)
    have B13 := Lib.hid (Below.tr B12.out hb)
    have FL_13 := Lib.hid (FL_12.out.below hb)
    clear FL_12
    have Fd_13 := Lib.hid (own_below Fd_12.out hb)
    clear Fd_12
    have FE_13 := Lib.hid (FE_12.out.below hb)
    clear FE_12
    have Ff_13 := Lib.hid (own_below Ff_12.out hb)
    clear Ff_12
    have Fu_13 := Lib.hid (own_below Fu_12.out hb)
    clear Fu_12
    have Xd_13 := Lib.hid (Xd_12.out.below hb)
    clear Xd_12
    have XE_13 := Lib.hid (XE_12.out.below hb)
    clear XE_12
    have Xf_13 := Lib.hid (Xf_12.out.below hb)
    clear Xf_12
    have Xu_13 := Lib.hid (Xu_12.out.below hb)
    clear Xu_12
    obtain ⟨nx, hnx⟩ : ∃ n, xs.length = n := ⟨_, rfl⟩
    have XL := Lib.hid hnx
    obtain ⟨ny, hny⟩ : ∃ n, ys.length = n := ⟨_, rfl⟩
    have YL := Lib.hid hny
    rw [hnx] at hxl ⊢
    rw [hny] at hyl ⊢
    clear hnx hny
    have FX_13 := Lib.hid (hlX)
    have FY_13 := Lib.hid (hlY)
    clear hlX hlY hb
    obtain ⟨⟨⟨t0, ts, t2⟩, to⟩, htr⟩ : ∃ x, rBoth xa xs xr ya ys yr = x := ⟨_, rfl⟩
    have htl : ts.length ≤ 64 := rBoth_len htr
    have HTR := Lib.hid htr
    clear htr
    obtain ⟨nt, hnt⟩ : ∃ n, ts.length = n := ⟨_, rfl⟩
    have TL := Lib.hid hnt
    rw [hnt] at htl
    clear hnt
    obtain ⟨zd0, zd1, zd2, _, _, _, zdl⟩ := blk_cells Xd_13.out
    obtain ⟨zE0, zE1, zE2, _, _, _, zEl⟩ := blk_cells XE_13.out
    obtain ⟨zf0, zf1, zf2, _, _, _, zfl⟩ := blk_cells Xf_13.out
    obtain ⟨zu0, zu1, zu2, _, _, _, zul⟩ := blk_cells Xu_13.out
    go_wp2_with fail
    clear zd0 zd1 zd2 zdl
    clear zE0 zE1 zE2 zEl
    clear zf0 zf1 zf2 zfl
    clear zu0 zu1 zu2 zul
    obtain ⟨w14, hw14⟩ : ∃ W, W = w13.alloc (.cells #[.int .i64 xa, .slice AX nx cX, .int .i64 xr] 28) := ⟨_, rfl⟩
    have hb : Below w13.heap.size w13 w14 := by rw [hw14]; exact below1 _ _
    have hx : Blk w14 w13.heap.size 28 [.int .i64 xa, .slice AX nx cX, .int .i64 xr] := by rw [hw14]; exact heap_alloc_new _ _
    have hsz : w14.heap.size = w13.heap.size + 1 := by rw [hw14]; simp
    rw [← hw14]
    clear hw14
    have S14 := Lib.hid (hb.size)
    have SE14 := Lib.hid hsz
    have B14 := Lib.hid (Below.tr B13.out hb)
    have FL_14 := Lib.hid (FL_13.out.below hb)
    clear FL_13
    have Fd_14 := Lib.hid (own_below Fd_13.out hb)
    clear Fd_13
    have FE_14 := Lib.hid (FE_13.out.below hb)
    clear FE_13
    have Ff_14 := Lib.hid (own_below Ff_13.out hb)
    clear Ff_13
    have Fu_14 := Lib.hid (own_below Fu_13.out hb)
    clear Fu_13
    have FX_14 := Lib.hid (FX_13.out.below hb)
    clear FX_13
    have FY_14 := Lib.hid (FY_13.out.below hb)
    clear FY_13
    have Xd_14 := Lib.hid (Xd_13.out.below hb)
    clear Xd_13
    have XE_14 := Lib.hid (XE_13.out.below hb)
    clear XE_13
    have Xf_14 := Lib.hid (Xf_13.out.below hb)
    clear Xf_13
    have Xu_14 := Lib.hid (Xu_13.out.below hb)
    clear Xu_13
    have XX_14 := Lib.hid hx
    clear hb hx hsz
    obtain ⟨w15, hw15⟩ : ∃ W, W = w14.alloc (.cells #[.int .i64 ya, .slice AY ny cY, .int .i64 yr] 28) := ⟨_, rfl⟩
    have hb : Below w14.heap.size w14 w15 := by rw [hw15]; exact below1 _ _
    have hx : Blk w15 w14.heap.size 28 [.int .i64 ya, .slice AY ny cY, .int .i64 yr] := by rw [hw15]; exact heap_alloc_new _ _
    have hsz : w15.heap.size = w14.heap.size + 1 := by rw [hw15]; simp
    rw [← hw15]
    clear hw15
    have S15 := Lib.hid (hb.size)
    have SE15 := Lib.hid hsz
    have B15 := Lib.hid (Below.tr B14.out hb)
    have FL_15 := Lib.hid (FL_14.out.below hb)
    clear FL_14
    have Fd_15 := Lib.hid (own_below Fd_14.out hb)
    clear Fd_14
    have FE_15 := Lib.hid (FE_14.out.below hb)
    clear FE_14
    have Ff_15 := Lib.hid (own_below Ff_14.out hb)
    clear Ff_14
    have Fu_15 := Lib.hid (own_below Fu_14.out hb)
    clear Fu_14
    have FX_15 := Lib.hid (FX_14.out.below hb)
    clear FX_14
    have FY_15 := Lib.hid (FY_14.out.below hb)
    clear FY_14
    have Xd_15 := Lib.hid (Xd_14.out.below hb)
    clear Xd_14
    have XE_15 := Lib.hid (XE_14.out.below hb)
    clear XE_14
    have Xf_15 := Lib.hid (Xf_14.out.below hb)
    clear Xf_14
    have Xu_15 := Lib.hid (Xu_14.out.below hb)
    clear Xu_14
    have XX_15 := Lib.hid (XX_14.out.below hb)
    clear XX_14
    rw [SE14.out] at hx
    have XY_15 := Lib.hid hx
    clear hb hx hsz
    refine (implBoth_any xa xr ya yr AX AY nx cX ny cY xs ys _ t0 ts t2 to HTR FX_15 XL (by omega) FY_15 YL (by omega)).mono ?_
    rintro e w16 ⟨Ab, cb, rfl, ho, hb⟩
    have S16 := Lib.hid (hb.size)
    have B16 := Lib.hid (Below.tr B15.out hb)
    have FL_16 := Lib.hid (FL_15.out.below hb)
    clear FL_15
    have Fd_16 := Lib.hid (own_below Fd_15.out hb)
    clear Fd_15
    have FE_16 := Lib.hid (FE_15.out.below hb)
    clear FE_15
    have Ff_16 := Lib.hid (own_below Ff_15.out hb)
    clear Ff_15
    have Fu_16 := Lib.hid (own_below Fu_15.out hb)
    clear Fu_15
    have FX_16 := Lib.hid (FX_15.out.below hb)
    clear FX_15
    have FY_16 := Lib.hid (FY_15.out.below hb)
    clear FY_15
    have Xd_16 := Lib.hid (Xd_15.out.below hb)
    clear Xd_15
    have XE_16 := Lib.hid (XE_15.out.below hb)
    clear XE_15
    have Xf_16 := Lib.hid (Xf_15.out.below hb)
    clear Xf_15
    have Xu_16 := Lib.hid (Xu_15.out.below hb)
    clear Xu_15
    have XX_16 := Lib.hid (XX_15.out.below hb)
    clear XX_15
    have XY_16 := Lib.hid (XY_15.out.below hb)
    clear XY_15
    rw [TL.out] at ho ⊢
    have Fb_16 := Lib.hid (ho)
    clear ho hb
    obtain ⟨zd0, zd1, zd2, _, _, _, zdl⟩ := blk_cells Xd_16.out
    obtain ⟨zE0, zE1, zE2, _, _, _, zEl⟩ := blk_cells XE_16.out
    obtain ⟨zf0, zf1, zf2, _, _, _, zfl⟩ := blk_cells Xf_16.out
    obtain ⟨zu0, zu1, zu2, _, _, _, zul⟩ := blk_cells Xu_16.out
    obtain ⟨zX0, zX1, zX2, _, _, _, zXl⟩ := blk_cells XX_16.out
    obtain ⟨zY0, zY1, zY2, _, _, _, zYl⟩ := blk_cells XY_16.out
    go_wp2_with fail
    clear zd0 zd1 zd2 zdl
    clear zE0 zE1 zE2 zEl
    clear zf0 zf1 zf2 zfl
    clear zu0 zu1 zu2 zul
    clear zX0 zX1 zX2 zXl
    clear zY0 zY1 zY2 zYl
    obtain ⟨w17, hw17⟩ : ∃ W, W = w16.alloc (.cells #[.int .i64 t0, .slice Ab nt cb, .int .i64 t2] 28) := ⟨_, rfl⟩
    have hb : Below w16.heap.size w16 w17 := by rw [hw17]; exact below1 _ _
    have hx : Blk w17 w16.heap.size 28 [.int .i64 t0, .slice Ab nt cb, .int .i64 t2] := by rw [hw17]; exact heap_alloc_new _ _
    have hsz : w17.heap.size = w16.heap.size + 1 := by rw [hw17]; simp
    rw [← hw17]
    clear hw17
    have S17 := Lib.hid (hb.size)
    have SE17 := Lib.hid hsz
    have B17 := Lib.hid (Below.tr B16.out hb)
    have FL_17 := Lib.hid (FL_16.out.below hb)
    clear FL_16
    have Fd_17 := Lib.hid (own_below Fd_16.out hb)
    clear Fd_16
    have FE_17 := Lib.hid (FE_16.out.below hb)
    clear FE_16
    have Ff_17 := Lib.hid (own_below Ff_16.out hb)
    clear Ff_16
    have Fu_17 := Lib.hid (own_below Fu_16.out hb)
    clear Fu_16
    have FX_17 := Lib.hid (FX_16.out.below hb)
    clear FX_16
    have FY_17 := Lib.hid (FY_16.out.below hb)
    clear FY_16
    have Fb_17 := Lib.hid (own_below Fb_16.out hb)
    clear Fb_16
    have Xd_17 := Lib.hid (Xd_16.out.below hb)
    clear Xd_16
    have XE_17 := Lib.hid (XE_16.out.below hb)
    clear XE_16
    have Xf_17 := Lib.hid (Xf_16.out.below hb)
    clear Xf_16
    have Xu_17 := Lib.hid (Xu_16.out.below hb)
    clear Xu_16
    have XX_17 := Lib.hid (XX_16.out.below hb)
    clear XX_16
    have XY_17 := Lib.hid (XY_16.out.below hb)
    clear XY_16
    have Xb_17 := Lib.hid hx
    clear hb hx hsz
    refine (specBoth_any xa xr ya yr AX AY nx cX ny cY xs ys _ t0 ts t2 to HTR FX_17 XL (by omega) FY_17 YL (by omega)).mono ?_
    rintro e w18 ⟨Ac, cc, rfl, ho, hb⟩
    have S18 := Lib.hid (hb.size)
    have B18 := Lib.hid (Below.tr B17.out hb)
    have FL_18 := Lib.hid (FL_17.out.below hb)
    clear FL_17
    have Fd_18 := Lib.hid (own_below Fd_17.out hb)
    clear Fd_17
    have FE_18 := Lib.hid (FE_17.out.below hb)
    clear FE_17
    have Ff_18 := Lib.hid (own_below Ff_17.out hb)
    clear Ff_17
    have Fu_18 := Lib.hid (own_below Fu_17.out hb)
    clear Fu_17
    have FX_18 := Lib.hid (FX_17.out.below hb)
    clear FX_17
    have FY_18 := Lib.hid (FY_17.out.below hb)
    clear FY_17
    have Fb_18 := Lib.hid (own_below Fb_17.out hb)
    clear Fb_17
    have Xd_18 := Lib.hid (Xd_17.out.below hb)
    clear Xd_17
    have XE_18 := Lib.hid (XE_17.out.below hb)
    clear XE_17
    have Xf_18 := Lib.hid (Xf_17.out.below hb)
    clear Xf_17
    have Xu_18 := Lib.hid (Xu_17.out.below hb)
    clear Xu_17
    have XX_18 := Lib.hid (XX_17.out.below hb)
    clear XX_17
    have XY_18 := Lib.hid (XY_17.out.below hb)
    clear XY_17
    have Xb_18 := Lib.hid (Xb_17.out.below hb)
    clear Xb_17
    rw [TL.out] at ho ⊢
    have Fc_18 := Lib.hid (ho)
    clear ho hb
    have hq1 : (fo != fo) = false := by simp
    have hq2 : (to != to) = false := by simp
    obtain ⟨zd0, zd1, zd2, _, _, _, zdl⟩ := blk_cells Xd_18.out
    obtain ⟨zE0, zE1, zE2, _, _, _, zEl⟩ := blk_cells XE_18.out
    obtain ⟨zf0, zf1, zf2, _, _, _, zfl⟩ := blk_cells Xf_18.out
    obtain ⟨zu0, zu1, zu2, _, _, _, zul⟩ := blk_cells Xu_18.out
    obtain ⟨zX0, zX1, zX2, _, _, _, zXl⟩ := blk_cells XX_18.out
    obtain ⟨zY0, zY1, zY2, _, _, _, zYl⟩ := blk_cells XY_18.out
    obtain ⟨zb0, zb1, zb2, _, _, _, zbl⟩ := blk_cells Xb_18.out
    go_wp2_with fail
    clear zd0 zd1 zd2 zdl
    clear zE0 zE1 zE2 zEl
    clear zf0 zf1 zf2 zfl
    clear zu0 zu1 zu2 zul
    clear zX0 zX1 zX2 zXl
    clear zY0 zY1 zY2 zYl
    clear zb0 zb1 zb2 zbl
    obtain ⟨w19, hw19⟩ : ∃ W, W = w18.alloc (.cells #[.int .i64 t0, .slice Ac nt cc, .int .i64 t2] 28) := ⟨_, rfl⟩
    have hb : Below w18.heap.size w18 w19 := by rw [hw19]; exact below1 _ _
    have hx : Blk w19 w18.heap.size 28 [.int .i64 t0, .slice Ac nt cc, .int .i64 t2] := by rw [hw19]; exact heap_alloc_new _ _
    have hsz : w19.heap.size = w18.heap.size + 1 := by rw [hw19]; simp
    rw [← hw19]
    clear hw19
    have S19 := Lib.hid (hb.size)
    have SE19 := Lib.hid hsz
    have B19 := Lib.hid (Below.tr B18.out hb)
    have FL_19 := Lib.hid (FL_18.out.below hb)
    clear FL_18
    have Fd_19 := Lib.hid (own_below Fd_18.out hb)
    clear Fd_18
    have FE_19 := Lib.hid (FE_18.out.below hb)
    clear FE_18
    have Ff_19 := Lib.hid (own_below Ff_18.out hb)
    clear Ff_18
    have Fu_19 := Lib.hid (own_below Fu_18.out hb)
    clear Fu_18
    have FX_19 := Lib.hid (FX_18.out.below hb)
    clear FX_18
    have FY_19 := Lib.hid (FY_18.out.below hb)
    clear FY_18
    have Fb_19 := Lib.hid (own_below Fb_18.out hb)
    clear Fb_18
    have Fc_19 := Lib.hid (own_below Fc_18.out hb)
    clear Fc_18
    have Xd_19 := Lib.hid (Xd_18.out.below hb)
    clear Xd_18
    have XE_19 := Lib.hid (XE_18.out.below hb)
    clear XE_18
    have Xf_19 := Lib.hid (Xf_18.out.below hb)
    clear Xf_18
    have Xu_19 := Lib.hid (Xu_18.out.below hb)
    clear Xu_18
    have XX_19 := Lib.hid (XX_18.out.below hb)
    clear XX_18
    have XY_19 := Lib.hid (XY_18.out.below hb)
    clear XY_18
    have Xb_19 := Lib.hid (Xb_18.out.below hb)
    clear Xb_18
    have Xc_19 := Lib.hid hx
    clear hb hx hsz
    refine (sameDg_any f0 f2 f0 f2 Af Au nf nf cf cu fs fs _ (Lib.hid (own_nlies FL.out Ff_19.out)) (Lib.hid (own_nlies FL.out Fu_19.out)) FL FL (by omega) (by omega)).mono ?_
    rintro e w20 ⟨rfl, hb⟩
    have S20 := Lib.hid (hb.size)
    have B20 := Lib.hid (Below.tr B19.out hb)
    have FL_20 := Lib.hid (FL_19.out.below hb)
    clear FL_19
    have Fd_20 := Lib.hid (own_below Fd_19.out hb)
    clear Fd_19
    have FE_20 := Lib.hid (FE_19.out.below hb)
    clear FE_19
    have Ff_20 := Lib.hid (own_below Ff_19.out hb)
    clear Ff_19
    have Fu_20 := Lib.hid (own_below Fu_19.out hb)
    clear Fu_19
    have FX_20 := Lib.hid (FX_19.out.below hb)
    clear FX_19
    have FY_20 := Lib.hid (FY_19.out.below hb)
    clear FY_19
    have Fb_20 := Lib.hid (own_below Fb_19.out hb)
    clear Fb_19
    have Fc_20 := Lib.hid (own_below Fc_19.out hb)
    clear Fc_19
    have Xd_20 := Lib.hid (Xd_19.out.below hb)
    clear Xd_19
    have XE_20 := Lib.hid (XE_19.out.below hb)
    clear XE_19
    have Xf_20 := Lib.hid (Xf_19.out.below hb)
    clear Xf_19
    have Xu_20 := Lib.hid (Xu_19.out.below hb)
    clear Xu_19
    have XX_20 := Lib.hid (XX_19.out.below hb)
    clear XX_19
    have XY_20 := Lib.hid (XY_19.out.below hb)
    clear XY_19
    have Xb_20 := Lib.hid (Xb_19.out.below hb)
    clear Xb_19
    have Xc_20 := Lib.hid (Xc_19.out.below hb)
    clear Xc_19
    rw [dgEq_same]
    clear hb
    obtain ⟨zd0, zd1, zd2, _, _, _, zdl⟩ := blk_cells Xd_20.out
    obtain ⟨zE0, zE1, zE2, _, _, _, zEl⟩ := blk_cells XE_20.out
    obtain ⟨zf0, zf1, zf2, _, _, _, zfl⟩ := blk_cells Xf_20.out
    obtain ⟨zu0, zu1, zu2, _, _, _, zul⟩ := blk_cells Xu_20.out
    obtain ⟨zX0, zX1, zX2, _, _, _, zXl⟩ := blk_cells XX_20.out
    obtain ⟨zY0, zY1, zY2, _, _, _, zYl⟩ := blk_cells XY_20.out
    obtain ⟨zb0, zb1, zb2, _, _, _, zbl⟩ := blk_cells Xb_20.out
    obtain ⟨zc0, zc1, zc2, _, _, _, zcl⟩ := blk_cells Xc_20.out
    go_wp2_with fail
    clear zd0 zd1 zd2 zdl
    clear zE0 zE1 zE2 zEl
    clear zf0 zf1 zf2 zfl
    clear zu0 zu1 zu2 zul
    clear zX0 zX1 zX2 zXl
    clear zY0 zY1 zY2 zYl
    clear zb0 zb1 zb2 zbl
    clear zc0 zc1 zc2 zcl
    refine (sameDg_any t0 t2 t0 t2 Ab Ac nt nt cb cc ts ts _ (Lib.hid (own_nlies TL.out Fb_20.out)) (Lib.hid (own_nlies TL.out Fc_20.out)) TL TL (by omega) (by omega)).mono ?_
    rintro e w21 ⟨rfl, hb⟩
    have S21 := Lib.hid (hb.size)
    have B21 := Lib.hid (Below.tr B20.out hb)
    have FL_21 := Lib.hid (FL_20.out.below hb)
    clear FL_20
    have Fd_21 := Lib.hid (own_below Fd_20.out hb)
    clear Fd_20
    have FE_21 := Lib.hid (FE_20.out.below hb)
    clear FE_20
    have Ff_21 := Lib.hid (own_below Ff_20.out hb)
    clear Ff_20
    have Fu_21 := Lib.hid (own_below Fu_20.out hb)
    clear Fu_20
    have FX_21 := Lib.hid (FX_20.out.below hb)
    clear FX_20
    have FY_21 := Lib.hid (FY_20.out.below hb)
    clear FY_20
    have Fb_21 := Lib.hid (own_below Fb_20.out hb)
    clear Fb_20
    have Fc_21 := Lib.hid (own_below Fc_20.out hb)
    clear Fc_20
    have Xd_21 := Lib.hid (Xd_20.out.below hb)
    clear Xd_20
    have XE_21 := Lib.hid (XE_20.out.below hb)
    clear XE_20
    have Xf_21 := Lib.hid (Xf_20.out.below hb)
    clear Xf_20
    have Xu_21 := Lib.hid (Xu_20.out.below hb)
    clear Xu_20
    have XX_21 := Lib.hid (XX_20.out.below hb)
    clear XX_20
    have XY_21 := Lib.hid (XY_20.out.below hb)
    clear XY_20
    have Xb_21 := Lib.hid (Xb_20.out.below hb)
    clear Xb_20
    have Xc_21 := Lib.hid (Xc_20.out.below hb)
    clear Xc_20
    rw [dgEq_same]
    clear hb
    cases fo
    · go_wp2
      go_ret
      exact ⟨rfl, B21.out⟩
    · obtain ⟨m, q, hfa, hm6, hfv, hqm, hgd, hf0, hfs, hf2⟩ := rFix_yes HFR.out
      subst hfa hfv hf0
      have HFS := Lib.hid hfs
      have HF2 := Lib.hid hf2
      have HNO : Hid (∀ x ∈ fs, x.v ≠ (q : Int) + 1) := Lib.hid (by rw [hfs]; exact fix_no hm6 hqm)
      have HO1 : Hid (rOnes (m : Int) fs f2 (((fixL m q so (ev es fr)).count true : Nat) : Int) true) := Lib.hid (by rw [hfs, hf2]; exact fix_ones hm6)
      have HGF : Hid (rFix (m : Int) es fr ((q : Int) + 1) (!so) = (((m : Int), (dgm m (fixL m q (!so) (ev es fr))).2, ((dgm m (fixL m q (!so) (ev es fr))).1 : Int)), true)) := Lib.hid (rFix_mk hgd hqm)
      have HO2 := Lib.hid (fix_ones (p := q) (ns := es) (r := fr) (so := !so) hm6)
      have HO3 : Hid (rOnes (m : Int) es fr (((tabL m es fr).count true : Nat) : Int) true) := Lib.hid ⟨hgd.symm, by rw [if_pos rfl, Int.toNat_natCast]⟩
      have HTW : (((fixL m q so (ev es fr)).count true : Nat) : Int) + (((fixL m q (!so) (ev es fr)).count true : Nat) : Int) = 2 * (((tabL m es fr).count true : Nat) : Int) := by have := fix_two (ns := es) (r := fr) hm6 hqm; cases so <;> simp <;> omega
      obtain ⟨n1, hn1⟩ : ∃ c : Int, (((fixL m q so (ev es fr)).count true : Nat) : Int) = c := ⟨_, rfl⟩
      obtain ⟨n2, hn2⟩ : ∃ c : Int, (((fixL m q (!so) (ev es fr)).count true : Nat) : Int) = c := ⟨_, rfl⟩
      obtain ⟨n3, hn3⟩ : ∃ c : Int, (((tabL m es fr).count true : Nat) : Int) = c := ⟨_, rfl⟩
      have hb1 : 0 ≤ n1 ∧ n1 ≤ 64 := by rw [← hn1]; have := List.count_le_length (a := true) (l := fixL m q so (ev es fr)); rw [fixL_len] at this; have := pow_le6 hm6; omega
      have hb2 : 0 ≤ n2 ∧ n2 ≤ 64 := by rw [← hn2]; have := List.count_le_length (a := true) (l := fixL m q (!so) (ev es fr)); rw [fixL_len] at this; have := pow_le6 hm6; omega
      have hb3 : 0 ≤ n3 ∧ n3 ≤ 64 := by rw [← hn3]; have := List.count_le_length (a := true) (l := tabL m es fr); rw [tabL_len] at this; have := pow_le6 hm6; omega
      rw [hn1] at HO1 HTW
      rw [hn2] at HO2 HTW
      rw [hn3] at HO3 HTW
      obtain ⟨gs, hgs⟩ : ∃ x, (dgm m (fixL m q (!so) (ev es fr))).2 = x := ⟨_, rfl⟩
      obtain ⟨g2, hg2⟩ : ∃ x : Int, ((dgm m (fixL m q (!so) (ev es fr))).1 : Int) = x := ⟨_, rfl⟩
      rw [hgs, hg2] at HGF HO2
      have hgl : gs.length ≤ 64 := rFix_len HGF.out
      obtain ⟨ng, hng⟩ : ∃ n, gs.length = n := ⟨_, rfl⟩
      have GL := Lib.hid hng
      rw [hng] at hgl
      have hmz : (0 : Int) ≤ m ∧ (m : Int) ≤ 6 := by omega
      have hq6 : q < 6 := by omega
      clear hfs hf2 hn1 hn2 hn3 hgs hg2 hng hgd hq1 hq2
      have hfin : (n1 + n2 == 2 * n3) = true := by simp; omega
      obtain ⟨zd0, zd1, zd2, _, _, _, zdl⟩ := blk_cells Xd_21.out
      obtain ⟨zE0, zE1, zE2, _, _, _, zEl⟩ := blk_cells XE_21.out
      obtain ⟨zf0, zf1, zf2, _, _, _, zfl⟩ := blk_cells Xf_21.out
      go_wp2_with fail
      clear zd0 zd1 zd2 zdl
      clear zE0 zE1 zE2 zEl
      clear zf0 zf1 zf2 zfl
      obtain ⟨zd0, zd1, zd2, _, _, _, zdl⟩ := blk_cells Xd_21.out
      obtain ⟨zE0, zE1, zE2, _, _, _, zEl⟩ := blk_cells XE_21.out
      obtain ⟨zf0, zf1, zf2, _, _, _, zfl⟩ := blk_cells Xf_21.out
      go_loopw [207] (fun i wr => ∃ j : Nat, j ≤ nf ∧ i = .int .i64 j ∧ Below w21.heap.size w21 wr) (fun i _ => nf - (intOf i).toNat)
      case atStart => exact ⟨0, Nat.zero_le _, rfl, Below.refl _ _⟩
      case round =>
        clear zd0 zd1 zd2 zdl
        clear zE0 zE1 zE2 zEl
        clear zf0 zf1 zf2 zfl
        obtain ⟨j, hj, rfl, hb⟩ := hrel
        obtain ⟨w22, hw22⟩ : ∃ x, x = wr := ⟨_, rfl⟩
        subst hw22
        have BL0 := Lib.hid hb
        have S22 := Lib.hid (hb.size)
        have B22 := Lib.hid (Below.tr B21.out hb)
        have FL_22 := Lib.hid (FL_21.out.below hb)
        clear FL_21
        have Fd_22 := Lib.hid (own_below Fd_21.out hb)
        clear Fd_21
        have FE_22 := Lib.hid (FE_21.out.below hb)
        clear FE_21
        have Ff_22 := Lib.hid (own_below Ff_21.out hb)
        clear Ff_21
        have Xd_22 := Lib.hid (Xd_21.out.below hb)
        clear Xd_21
        have XE_22 := Lib.hid (XE_21.out.below hb)
        clear XE_21
        have Xf_22 := Lib.hid (Xf_21.out.below hb)
        clear Xf_21
        clear hb
        by_cases hlt : j < nf
        · obtain ⟨x, hx⟩ : ∃ x, fs[j]? = some x := ⟨_, List.getElem?_eq_getElem (by rw [FL.out]; exact hlt)⟩
          obtain ⟨bF, oF, hAF, hbF, e0, e1, e2⟩ := (Lib.hid (own_nlies FL.out Ff_22.out)).out j x hx
          have hne : (x.v == (q : Int) + 1) = false := by have := HNO.out x (List.mem_of_getElem? hx); simp [this]
          subst hAF
          clear hx
          obtain ⟨zd0, zd1, zd2, _, _, _, zdl⟩ := blk_cells Xd_22.out
          obtain ⟨zE0, zE1, zE2, _, _, _, zEl⟩ := blk_cells XE_22.out
          obtain ⟨zf0, zf1, zf2, _, _, _, zfl⟩ := blk_cells Xf_22.out
          go_wp2
          go_roundw
          case rel => exact ⟨j + 1, by omega, by go_num, Below.tr BL0.out (below1 _ _)⟩
          case measure => simp [intOf]; omega
        · obtain rfl : j = nf := by omega
          obtain ⟨zd0, zd1, zd2, _, _, _, zdl⟩ := blk_cells Xd_22.out
          obtain ⟨zE0, zE1, zE2, _, _, _, zEl⟩ := blk_cells XE_22.out
          obtain ⟨zf0, zf1, zf2, _, _, _, zfl⟩ := blk_cells Xf_22.out
          go_wp2_with fail
          clear zd0 zd1 zd2 zdl
          clear zE0 zE1 zE2 zEl
          clear zf0 zf1 zf2 zfl
          refine (implFix_any m fr ((q : Int) + 1) (!so) AE ne cE es _ m gs g2 true HGF FE_22 EL (by omega)).mono ?_
          rintro e w23 ⟨Ag, cg, rfl, ho, hb⟩
          have S23 := Lib.hid (hb.size)
          have B23 := Lib.hid (Below.tr B22.out hb)
          have FL_23 := Lib.hid (FL_22.out.below hb)
          clear FL_22
          have Fd_23 := Lib.hid (own_below Fd_22.out hb)
          clear Fd_22
          have FE_23 := Lib.hid (FE_22.out.below hb)
          clear FE_22
          have Ff_23 := Lib.hid (own_below Ff_22.out hb)
          clear Ff_22
          have Xd_23 := Lib.hid (Xd_22.out.below hb)
          clear Xd_22
          have XE_23 := Lib.hid (XE_22.out.below hb)
          clear XE_22
          have Xf_23 := Lib.hid (Xf_22.out.below hb)
          clear Xf_22
          rw [GL.out] at ho ⊢
          have Fg_23 := Lib.hid (ho)
          clear ho hb
          obtain ⟨zd0, zd1, zd2, _, _, _, zdl⟩ := blk_cells Xd_23.out
          obtain ⟨zE0, zE1, zE2, _, _, _, zEl⟩ := blk_cells XE_23.out
          obtain ⟨zf0, zf1, zf2, _, _, _, zfl⟩ := blk_cells Xf_23.out
          go_wp2_with fail
          clear zd0 zd1 zd2 zdl
          clear zE0 zE1 zE2 zEl
          clear zf0 zf1 zf2 zfl
          obtain ⟨w24, hw24⟩ : ∃ W, W = w23.alloc (.cells #[.int .i64 m, .slice Ag ng cg, .int .i64 g2] 28) := ⟨_, rfl⟩
          have hb : Below w23.heap.size w23 w24 := by rw [hw24]; exact below1 _ _
          have hx : Blk w24 w23.heap.size 28 [.int .i64 m, .slice Ag ng cg, .int .i64 g2] := by rw [hw24]; exact heap_alloc_new _ _
          have hsz : w24.heap.size = w23.heap.size + 1 := by rw [hw24]; simp
          rw [← hw24]
          clear hw24
          have S24 := Lib.hid (hb.size)
          have SE24 := Lib.hid hsz
          have B24 := Lib.hid (Below.tr B23.out hb)
          have FL_24 := Lib.hid (FL_23.out.below hb)
          clear FL_23
          have Fd_24 := Lib.hid (own_below Fd_23.out hb)
          clear Fd_23
          have FE_24 := Lib.hid (FE_23.out.below hb)
          clear FE_23
          have Ff_24 := Lib.hid (own_below Ff_23.out hb)
          clear Ff_23
          have Fg_24 := Lib.hid (own_below Fg_23.out hb)
          clear Fg_23
          have Xd_24 := Lib.hid (Xd_23.out.below hb)
          clear Xd_23
          have XE_24 := Lib.hid (XE_23.out.below hb)
          clear XE_23
          have Xf_24 := Lib.hid (Xf_23.out.below hb)
          clear Xf_23
          have Xg_24 := Lib.hid hx
          clear hb hx hsz
          refine (implOnes_any m f2 Af j cf fs _ n1 true HO1 (Lib.hid (own_nlies FL.out Ff_24.out)) FL (by omega)).mono ?_
          rintro e w25 ⟨rfl, hb⟩
          have S25 := Lib.hid (hb.size)
          have B25 := Lib.hid (Below.tr B24.out hb)
          have FL_25 := Lib.hid (FL_24.out.below hb)
          clear FL_24
          have Fd_25 := Lib.hid (own_below Fd_24.out hb)
          clear Fd_24
          have FE_25 := Lib.hid (FE_24.out.below hb)
          clear FE_24
          have Ff_25 := Lib.hid (own_below Ff_24.out hb)
          clear Ff_24
          have Fg_25 := Lib.hid (own_below Fg_24.out hb)
          clear Fg_24
          have Xd_25 := Lib.hid (Xd_24.out.below hb)
          clear Xd_24
          have XE_25 := Lib.hid (XE_24.out.below hb)
          clear XE_24
          have Xf_25 := Lib.hid (Xf_24.out.below hb)
          clear Xf_24
          have Xg_25 := Lib.hid (Xg_24.out.below hb)
          clear Xg_24
          clear hb
          obtain ⟨zd0, zd1, zd2, _, _, _, zdl⟩ := blk_cells Xd_25.out
          obtain ⟨zE0, zE1, zE2, _, _, _, zEl⟩ := blk_cells XE_25.out
          obtain ⟨zf0, zf1, zf2, _, _, _, zfl⟩ := blk_cells Xf_25.out
          obtain ⟨zg0, zg1, zg2, _, _, _, zgl⟩ := blk_cells Xg_25.out
          go_wp2_with fail
          clear zd0 zd1 zd2 zdl
          clear zE0 zE1 zE2 zEl
          clear zf0 zf1 zf2 zfl
          clear zg0 zg1 zg2 zgl
          refine (implOnes_any m g2 Ag ng cg gs _ n2 true HO2 (Lib.hid (own_nlies GL.out Fg_25.out)) GL (by omega)).mono ?_
          rintro e w26 ⟨rfl, hb⟩
          have S26 := Lib.hid (hb.size)
          have B26 := Lib.hid (Below.tr B25.out hb)
          have FL_26 := Lib.hid (FL_25.out.below hb)
          clear FL_25
          have Fd_26 := Lib.hid (own_below Fd_25.out hb)
          clear Fd_25
          have FE_26 := Lib.hid (FE_25.out.below hb)
          clear FE_25
          have Ff_26 := Lib.hid (own_below Ff_25.out hb)
          clear Ff_25
          have Fg_26 := Lib.hid (own_below Fg_25.out hb)
          clear Fg_25
          have Xd_26 := Lib.hid (Xd_25.out.below hb)
          clear Xd_25
          have XE_26 := Lib.hid (XE_25.out.below hb)
          clear XE_25
          have Xf_26 := Lib.hid (Xf_25.out.below hb)
          clear Xf_25
          have Xg_26 := Lib.hid (Xg_25.out.below hb)
          clear Xg_25
          clear hb
          obtain ⟨zd0, zd1, zd2, _, _, _, zdl⟩ := blk_cells Xd_26.out
          obtain ⟨zE0, zE1, zE2, _, _, _, zEl⟩ := blk_cells XE_26.out
          obtain ⟨zf0, zf1, zf2, _, _, _, zfl⟩ := blk_cells Xf_26.out
          obtain ⟨zg0, zg1, zg2, _, _, _, zgl⟩ := blk_cells Xg_26.out
          go_wp2_with fail
          clear zd0 zd1 zd2 zdl
          clear zE0 zE1 zE2 zEl
          clear zf0 zf1 zf2 zfl
          clear zg0 zg1 zg2 zgl
          refine (implOnes_any m fr AE ne cE es _ n3 true HO3 FE_26 EL (by omega)).mono ?_
          rintro e w27 ⟨rfl, hb⟩
          have S27 := Lib.hid (hb.size)
          have B27 := Lib.hid (Below.tr B26.out hb)
          have FL_27 := Lib.hid (FL_26.out.below hb)
          clear FL_26
          have Fd_27 := Lib.hid (own_below Fd_26.out hb)
          clear Fd_26
          have FE_27 := Lib.hid (FE_26.out.below hb)
          clear FE_26
          have Ff_27 := Lib.hid (own_below Ff_26.out hb)
          clear Ff_26
          have Fg_27 := Lib.hid (own_below Fg_26.out hb)
          clear Fg_26
          have Xd_27 := Lib.hid (Xd_26.out.below hb)
          clear Xd_26
          have XE_27 := Lib.hid (XE_26.out.below hb)
          clear XE_26
          have Xf_27 := Lib.hid (Xf_26.out.below hb)
          clear Xf_26
          have Xg_27 := Lib.hid (Xg_26.out.below hb)
          clear Xg_26
          clear hb
          go_wp2
          go_ret
          exact ⟨rfl, B27.out⟩
  · clear hbo
    obtain ⟨p, hvp, hp6, hgd, hd0, hds, hd2⟩ := rBy_yes HR.out
    subst hvp hd0
    have HGD := Lib.hid hgd
    have HDS := Lib.hid hds
    have HD2 := Lib.hid hd2
    obtain ⟨cnt, hcnt⟩ : ∃ c : Int, ((countB p L (2 ^ p) : Nat) : Int) = c := ⟨_, rfl⟩
    have HO : Hid (rOnes (p : Int) ds d2 cnt true) := Lib.hid (by rw [hds, hd2, ← hcnt]; exact by_ones hp6 L)
    have HCO : Hid (CountR (p : Int) L cnt true) := Lib.hid ⟨hgd.symm, by rw [if_pos rfl, Int.toNat_natCast, hcnt]⟩
    clear hds hd2 hcnt hgd
    have hcc : (cnt != cnt) = false := by simp
    obtain ⟨zd0, zd1, zd2, _, _, _, zdl⟩ := blk_cells Xd_6.out
    go_wp2_with fail
    clear zd0 zd1 zd2 zdl
    refine (implOnes_any p d2 Ad z cd ds _ cnt true HO (Lib.hid (own_nlies DL.out Fd_6.out)) DL (by omega)).mono ?_
    rintro e w7 ⟨rfl, hb⟩
    have S7 := Lib.hid (hb.size)
    have B7 := Lib.hid (Below.tr B6.out hb)
    have FL_7 := Lib.hid (FL_6.out.below hb)
    clear FL_6
    have Fd_7 := Lib.hid (own_below Fd_6.out hb)
    clear Fd_6
    have Xd_7 := Lib.hid (Xd_6.out.below hb)
    clear Xd_6
    clear hb
    obtain ⟨zd0, zd1, zd2, _, _, _, zdl⟩ := blk_cells Xd_7.out
    go_wp2_with fail
    clear zd0 zd1 zd2 zdl
    refine (implCount_any (p : Int) A n c1 L _ cnt true HCO FL_7 HX (by omega)).mono ?_
    rintro e w8 ⟨rfl, hb⟩
    have S8 := Lib.hid (hb.size)
    have B8 := Lib.hid (Below.tr B7.out hb)
    have FL_8 := Lib.hid (FL_7.out.below hb)
    clear FL_7
    have Fd_8 := Lib.hid (own_below Fd_7.out hb)
    clear Fd_7
    have Xd_8 := Lib.hid (Xd_7.out.below hb)
    clear Xd_7
    clear hb
    obtain ⟨zd0, zd1, zd2, _, _, _, zdl⟩ := blk_cells Xd_8.out
    go_wp2_with fail
    clear zd0 zd1 zd2 zdl
    refine (number_any a1 len1 cap1 _ (Lib.hid (h1.out.below B8.out))).mono ?_
    rintro e w' ⟨⟨N, rfl, hN⟩, rfl⟩
    obtain ⟨k, hk, hkn⟩ := num_mod N n
    obtain ⟨la, has⟩ : ∃ x, (dgm p (clT p (L.take k))).2 = x := ⟨_, rfl⟩
    obtain ⟨a2, ha2⟩ : ∃ x : Int, ((dgm p (clT p (L.take k))).1 : Int) = x := ⟨_, rfl⟩
    obtain ⟨lb, hbs⟩ : ∃ x, (dgm p (clT p (L.drop k))).2 = x := ⟨_, rfl⟩
    obtain ⟨b2, hb2⟩ : ∃ x : Int, ((dgm p (clT p (L.drop k))).1 : Int) = x := ⟨_, rfl⟩
    have HRA : Hid (rBy (p : Int) (L.take k) = (((p : Int), la, a2), true)) := Lib.hid (by rw [rBy_mk hp6 (good_part HGD.out k).1, has, ha2])
    have HRB : Hid (rBy (p : Int) (L.drop k) = (((p : Int), lb, b2), true)) := Lib.hid (by rw [rBy_mk hp6 (good_part HGD.out k).2, hbs, hb2])
    have HRC : Hid (rBoth (p : Int) la a2 (p : Int) lb b2 = (((p : Int), ds, d2), true)) := Lib.hid (by rw [← has, ← ha2, ← hbs, ← hb2, by_both hp6 L k, HDS.out, HD2.out]; rfl)
    have hal : la.length ≤ 64 := rBy_len HRA.out
    have hbl : lb.length ≤ 64 := rBy_len HRB.out
    obtain ⟨na, hna⟩ : ∃ n, la.length = n := ⟨_, rfl⟩
    obtain ⟨nb, hnb⟩ : ∃ n, lb.length = n := ⟨_, rfl⟩
    have AL := Lib.hid hna
    have BL := Lib.hid hnb
    rw [hna] at hal
    rw [hnb] at hbl
    clear has ha2 hbs hb2 hna hnb
    have HTK : Hid ((L.take k).length = k) := Lib.hid (by rw [List.length_take, HX.out]; omega)
    have HDR : Hid ((L.drop k).length = n - k) := Lib.hid (by rw [List.length_drop, HX.out])
    have hp0 : (0 : Int) ≤ p ∧ (p : Int) ≤ 6 := by omega
    rcases HA.out with ⟨hAn, hLn, hcn⟩ | ⟨ga, hAg⟩
    · subst hAn hcn
      obtain rfl : n = 0 := by rw [← HX.out, hLn]; rfl
      obtain rfl : k = 0 := by omega
      obtain ⟨zd0, zd1, zd2, _, _, _, zdl⟩ := blk_cells Xd_8.out
      go_wp2_with fail
      clear zd0 zd1 zd2 zdl
      clear hk
      refine (implBy_any p none 0 0 (L.take 0) _ p la a2 true HRA (Lib.hid (FL_8.out.take 0)) HTK (by omega)).mono ?_
      rintro e w9 ⟨Aa, ca, rfl, ho, hb⟩
      have S9 := Lib.hid (hb.size)
      have B9 := Lib.hid (Below.tr B8.out hb)
      have FL_9 := Lib.hid (FL_8.out.below hb)
      clear FL_8
      have Fd_9 := Lib.hid (own_below Fd_8.out hb)
      clear Fd_8
      have Xd_9 := Lib.hid (Xd_8.out.below hb)
      clear Xd_8
      rw [AL.out] at ho ⊢
      have Fa_9 := Lib.hid (ho)
      clear ho hb
      obtain ⟨zd0, zd1, zd2, _, _, _, zdl⟩ := blk_cells Xd_9.out
      go_wp2_with fail
      clear zd0 zd1 zd2 zdl
      obtain ⟨w10, hw10⟩ : ∃ W, W = w9.alloc (.cells #[.int .i64 p, .slice Aa na ca, .int .i64 a2] 28) := ⟨_, rfl⟩
      have hb : Below w9.heap.size w9 w10 := by rw [hw10]; exact below1 _ _
      have hx : Blk w10 w9.heap.size 28 [.int .i64 p, .slice Aa na ca, .int .i64 a2] := by rw [hw10]; exact heap_alloc_new _ _
      have hsz : w10.heap.size = w9.heap.size + 1 := by rw [hw10]; simp
      rw [← hw10]
      clear hw10
      have S10 := Lib.hid (hb.size)
      have SE10 := Lib.hid hsz
      have B10 := Lib.hid (Below.tr B9.out hb)
      have FL_10 := Lib.hid (FL_9.out.below hb)
      clear FL_9
      have Fd_10 := Lib.hid (own_below Fd_9.out hb)
      clear Fd_9
      have Fa_10 := Lib.hid (own_below Fa_9.out hb)
      clear Fa_9
      have Xd_10 := Lib.hid (Xd_9.out.below hb)
      clear Xd_9
      have Xa_10 := Lib.hid hx
      clear hb hx hsz
      refine (implBy_any p none 0 0 (L.drop 0) _ p lb b2 true HRB FL_10 HDR (by omega)).mono ?_
      rintro e w11 ⟨Ae, ce, rfl, ho, hb⟩
      have S11 := Lib.hid (hb.size)
      have B11 := Lib.hid (Below.tr B10.out hb)
      have FL_11 := Lib.hid (FL_10.out.below hb)
      clear FL_10
      have Fd_11 := Lib.hid (own_below Fd_10.out hb)
      clear Fd_10
      have Fa_11 := Lib.hid (own_below Fa_10.out hb)
      clear Fa_10
      have Xd_11 := Lib.hid (Xd_10.out.below hb)
      clear Xd_10
      have Xa_11 := Lib.hid (Xa_10.out.below hb)
      clear Xa_10
      rw [BL.out] at ho ⊢
      have Fe_11 := Lib.hid (ho)
      clear ho hb
      obtain ⟨zd0, zd1, zd2, _, _, _, zdl⟩ := blk_cells Xd_11.out
      obtain ⟨za0, za1, za2, _, _, _, zal⟩ := blk_cells Xa_11.out
      go_wp2_with fail
      clear zd0 zd1 zd2 zdl
      clear za0 za1 za2 zal
      obtain ⟨w12, hw12⟩ : ∃ W, W = w11.alloc (.cells #[.int .i64 p, .slice Ae nb ce, .int .i64 b2] 28) := ⟨_, rfl⟩
      have hb : Below w11.heap.size w11 w12 := by rw [hw12]; exact below1 _ _
      have hx : Blk w12 w11.heap.size 28 [.int .i64 p, .slice Ae nb ce, .int .i64 b2] := by rw [hw12]; exact heap_alloc_new _ _
      have hsz : w12.heap.size = w11.heap.size + 1 := by rw [hw12]; simp
      rw [← hw12]
      clear hw12
      have S12 := Lib.hid (hb.size)
      have SE12 := Lib.hid hsz
      have B12 := Lib.hid (Below.tr B11.out hb)
      have FL_12 := Lib.hid (FL_11.out.below hb)
      clear FL_11
      have Fd_12 := Lib.hid (own_below Fd_11.out hb)
      clear Fd_11
      have Fa_12 := Lib.hid (own_below Fa_11.out hb)
      clear Fa_11
      have Fe_12 := Lib.hid (own_below Fe_11.out hb)
      clear Fe_11
      have Xd_12 := Lib.hid (Xd_11.out.below hb)
      clear Xd_11
      have Xa_12 := Lib.hid (Xa_11.out.below hb)
      clear Xa_11
      have Xe_12 := Lib.hid hx
      clear hb hx hsz
      refine (implBoth_any p a2 p b2 Aa Ae na ca nb ce la lb _ p ds d2 true HRC (Lib.hid (own_nlies AL.out Fa_12.out)) AL (by omega) (Lib.hid (own_nlies BL.out Fe_12.out)) BL (by omega)).mono ?_
      rintro e w13 ⟨Ah, ch, rfl, ho, hb⟩
      have S13 := Lib.hid (hb.size)
      have B13 := Lib.hid (Below.tr B12.out hb)
      have FL_13 := Lib.hid (FL_12.out.below hb)
      clear FL_12
      have Fd_13 := Lib.hid (own_below Fd_12.out hb)
      clear Fd_12
      have Fa_13 := Lib.hid (own_below Fa_12.out hb)
      clear Fa_12
      have Fe_13 := Lib.hid (own_below Fe_12.out hb)
      clear Fe_12
      have Xd_13 := Lib.hid (Xd_12.out.below hb)
      clear Xd_12
      have Xa_13 := Lib.hid (Xa_12.out.below hb)
      clear Xa_12
      have Xe_13 := Lib.hid (Xe_12.out.below hb)
      clear Xe_12
      rw [DL.out] at ho ⊢
      have Fh_13 := Lib.hid (ho)
      clear ho hb
      obtain ⟨zd0, zd1, zd2, _, _, _, zdl⟩ := blk_cells Xd_13.out
      obtain ⟨za0, za1, za2, _, _, _, zal⟩ := blk_cells Xa_13.out
      obtain ⟨ze0, ze1, ze2, _, _, _, zel⟩ := blk_cells Xe_13.out
      go_wp2_with fail
      clear zd0 zd1 zd2 zdl
      clear za0 za1 za2 zal
      clear ze0 ze1 ze2 zel
      obtain ⟨w14, hw14⟩ : ∃ W, W = w13.alloc (.cells #[.int .i64 p, .slice Ah z ch, .int .i64 d2] 28) := ⟨_, rfl⟩
      have hb : Below w13.heap.size w13 w14 := by rw [hw14]; exact below1 _ _
      have hx : Blk w14 w13.heap.size 28 [.int .i64 p, .slice Ah z ch, .int .i64 d2] := by rw [hw14]; exact heap_alloc_new _ _
      have hsz : w14.heap.size = w13.heap.size + 1 := by rw [hw14]; simp
      rw [← hw14]
      clear hw14
      have S14 := Lib.hid (hb.size)
      have SE14 := Lib.hid hsz
      have B14 := Lib.hid (Below.tr B13.out hb)
      have FL_14 := Lib.hid (FL_13.out.below hb)
      clear FL_13
      have Fd_14 := Lib.hid (own_below Fd_13.out hb)
      clear Fd_13
      have Fa_14 := Lib.hid (own_below Fa_13.out hb)
      clear Fa_13
      have Fe_14 := Lib.hid (own_below Fe_13.out hb)
      clear Fe_13
      have Fh_14 := Lib.hid (own_below Fh_13.out hb)
      clear Fh_13
      have Xd_14 := Lib.hid (Xd_13.out.below hb)
      clear Xd_13
      have Xa_14 := Lib.hid (Xa_13.out.below hb)
      clear Xa_13
      have Xe_14 := Lib.hid (Xe_13.out.below hb)
      clear Xe_13
      have Xh_14 := Lib.hid hx
      clear hb hx hsz
      refine (sameDg_any p d2 p d2 Ah Ad z z ch cd ds ds _ (Lib.hid (own_nlies DL.out Fh_14.out)) (Lib.hid (own_nlies DL.out Fd_14.out)) DL DL (by omega) (by omega)).mono ?_
      rintro e w15 ⟨rfl, hb⟩
      have S15 := Lib.hid (hb.size)
      have B15 := Lib.hid (Below.tr B14.out hb)
      have FL_15 := Lib.hid (FL_14.out.below hb)
      clear FL_14
      have Fd_15 := Lib.hid (own_below Fd_14.out hb)
      clear Fd_14
      have Fa_15 := Lib.hid (own_below Fa_14.out hb)
      clear Fa_14
      have Fe_15 := Lib.hid (own_below Fe_14.out hb)
      clear Fe_14
      have Fh_15 := Lib.hid (own_below Fh_14.out hb)
      clear Fh_14
      have Xd_15 := Lib.hid (Xd_14.out.below hb)
      clear Xd_14
      have Xa_15 := Lib.hid (Xa_14.out.below hb)
      clear Xa_14
      have Xe_15 := Lib.hid (Xe_14.out.below hb)
      clear Xe_14
      have Xh_15 := Lib.hid (Xh_14.out.below hb)
      clear Xh_14
      rw [dgEq_same]
      clear hb
      go_wp2_with fail
      refine (drawFixV_any a1 len1 cap1 _ (Lib.hid (h1.out.below B15.out))).mono ?_
      rintro e w16 ⟨fa, fr, AE, cE, es, fv, so, rfl, hel, hlE, hb⟩
      have S16 := Lib.hid (hb.size)
      have B16 := Lib.hid (Below.tr B15.out hb)
      obtain ⟨ne, hne⟩ : ∃ n, es.length = n := ⟨_, rfl⟩
      have EL := Lib.hid hne
      rw [hne] at hel ⊢
      clear hne
      have FE_16 := Lib.hid (hlE)
      clear hlE hb
      obtain ⟨⟨⟨f0, fs, f2⟩, fo⟩, hfr⟩ : ∃ x, rFix fa es fr fv so = x := ⟨_, rfl⟩
      have hfl : fs.length ≤ 64 := rFix_len hfr
      have HFR := Lib.hid hfr
      clear hfr
      obtain ⟨nf, hnf⟩ : ∃ n, fs.length = n := ⟨_, rfl⟩
      have FL := Lib.hid hnf
      rw [hnf] at hfl
      clear hnf
      go_wp2_with fail
      obtain ⟨w17, hw17⟩ : ∃ W, W = w16.alloc (.cells #[.int .i64 fa, .slice AE ne cE, .int .i64 fr] 28) := ⟨_, rfl⟩
      have hb : Below w16.heap.size w16 w17 := by rw [hw17]; exact below1 _ _
      have hx : Blk w17 w16.heap.size 28 [.int .i64 fa, .slice AE ne cE, .int .i64 fr] := by rw [hw17]; exact heap_alloc_new _ _
      have hsz : w17.heap.size = w16.heap.size + 1 := by rw [hw17]; simp
      rw [← hw17]
      clear hw17
      have S17 := Lib.hid (hb.size)
      have SE17 := Lib.hid hsz
      have B17 := Lib.hid (Below.tr B16.out hb)
      have FE_17 := Lib.hid (FE_16.out.below hb)
      clear FE_16
      have XE_17 := Lib.hid hx
      clear hb hx hsz
      refine (implFix_any fa fr fv so AE ne cE es _ f0 fs f2 fo HFR FE_17 EL (by omega)).mono ?_
      rintro e w18 ⟨Af, cf, rfl, ho, hb⟩
      have S18 := Lib.hid (hb.size)
      have B18 := Lib.hid (Below.tr B17.out hb)
      have FE_18 := Lib.hid (FE_17.out.below hb)
      clear FE_17
      have XE_18 := Lib.hid (XE_17.out.below hb)
      clear XE_17
      rw [FL.out] at ho ⊢
      have Ff_18 := Lib.hid (ho)
      clear ho hb
      obtain ⟨zE0, zE1, zE2, _, _, _, zEl⟩ := blk_cells XE_18.out
      go_wp2_with fail
      clear zE0 zE1 zE2 zEl
      obtain ⟨w19, hw19⟩ : ∃ W, W = w18.alloc (.cells #[.int .i64 f0, .slice Af nf cf, .int .i64 f2] 28) := ⟨_, rfl⟩
      have hb : Below w18.heap.size w18 w19 := by rw [hw19]; exact below1 _ _
      have hx : Blk w19 w18.heap.size 28 [.int .i64 f0, .slice Af nf cf, .int .i64 f2] := by rw [hw19]; exact heap_alloc_new _ _
      have hsz : w19.heap.size = w18.heap.size + 1 := by rw [hw19]; simp
      rw [← hw19]
      clear hw19
      have S19 := Lib.hid (hb.size)
      have SE19 := Lib.hid hsz
      have B19 := Lib.hid (Below.tr B18.out hb)
      have FE_19 := Lib.hid (FE_18.out.below hb)
      clear FE_18
      have Ff_19 := Lib.hid (own_below Ff_18.out hb)
      clear Ff_18
      have XE_19 := Lib.hid (XE_18.out.below hb)
      clear XE_18
      have Xf_19 := Lib.hid hx
      clear hb hx hsz
      refine (specFix_any fa fr fv so AE ne cE es _ f0 fs f2 fo HFR FE_19 EL (by omega)).mono ?_
      rintro e w20 ⟨Au, cu, rfl, ho, hb⟩
      have S20 := Lib.hid (hb.size)
      have B20 := Lib.hid (Below.tr B19.out hb)
      have FE_20 := Lib.hid (FE_19.out.below hb)
      clear FE_19
      have Ff_20 := Lib.hid (own_below Ff_19.out hb)
      clear Ff_19
      have XE_20 := Lib.hid (XE_19.out.below hb)
      clear XE_19
      have Xf_20 := Lib.hid (Xf_19.out.below hb)
      clear Xf_19
      rw [FL.out] at ho ⊢
      have Fu_20 := Lib.hid (ho)
      clear ho hb
      obtain ⟨zE0, zE1, zE2, _, _, _, zEl⟩ := blk_cells XE_20.out
      obtain ⟨zf0, zf1, zf2, _, _, _, zfl⟩ := blk_cells Xf_20.out
      go_wp2_with fail
      clear zE0 zE1 zE2 zEl
      clear zf0 zf1 zf2 zfl
      obtain ⟨w21, hw21⟩ : ∃ W, W = w20.alloc (.cells #[.int .i64 f0, .slice Au nf cu, .int .i64 f2] 28) := ⟨_, rfl⟩
      have hb : Below w20.heap.size w20 w21 := by rw [hw21]; exact below1 _ _
      have hx : Blk w21 w20.heap.size 28 [.int .i64 f0, .slice Au nf cu, .int .i64 f2] := by rw [hw21]; exact heap_alloc_new _ _
      have hsz : w21.heap.size = w20.heap.size + 1 := by rw [hw21]; simp
      rw [← hw21]
      clear hw21
      have S21 := Lib.hid (hb.size)
      have SE21 := Lib.hid hsz
      have B21 := Lib.hid (Below.tr B20.out hb)
      have FE_21 := Lib.hid (FE_20.out.below hb)
      clear FE_20
      have Ff_21 := Lib.hid (own_below Ff_20.out hb)
      clear Ff_20
      have Fu_21 := Lib.hid (own_below Fu_20.out hb)
      clear Fu_20
      have XE_21 := Lib.hid (XE_20.out.below hb)
      clear XE_20
      have Xf_21 := Lib.hid (Xf_20.out.below hb)
      clear Xf_20
      have Xu_21 := Lib.hid hx
      clear hb hx hsz
      refine (drawBothD_any a1 len1 cap1 _ (Lib.hid (h1.out.below B21.out))).mono ?_
      rintro e w22 ⟨xa, xr, ya, yr, AX, AY, cX, cY, xs, ys, rfl, hxl, hyl, hlX, hlY, hb⟩
      have S22 := Lib.hid (hb.size)
      have B22 := Lib.hid (Below.tr B21.out hb)
      have FE_22 := Lib.hid (FE_21.out.below hb)
      clear FE_21
      have Ff_22 := Lib.hid (own_below Ff_21.out hb)
      clear Ff_21
      have Fu_22 := Lib.hid (own_below Fu_21.out hb)
      clear Fu_21
      have XE_22 := Lib.hid (XE_21.out.below hb)
      clear XE_21
      have Xf_22 := Lib.hid (Xf_21.out.below hb)
      clear Xf_21
      have Xu_22 := Lib.hid (Xu_21.out.below hb)
      clear Xu_21
      obtain ⟨nx, hnx⟩ : ∃ n, xs.length = n := ⟨_, rfl⟩
      have XL := Lib.hid hnx
      obtain ⟨ny, hny⟩ : ∃ n, ys.length = n := ⟨_, rfl⟩
      have YL := Lib.hid hny
      rw [hnx] at hxl ⊢
      rw [hny] at hyl ⊢
      clear hnx hny
      have FX_22 := Lib.hid (hlX)
      have FY_22 := Lib.hid (hlY)
      clear hlX hlY hb
      obtain ⟨⟨⟨t0, ts, t2⟩, to⟩, htr⟩ : ∃ x, rBoth xa xs xr ya ys yr = x := ⟨_, rfl⟩
      have htl : ts.length ≤ 64 := rBoth_len htr
      have HTR := Lib.hid htr
      clear htr
      obtain ⟨nt, hnt⟩ : ∃ n, ts.length = n := ⟨_, rfl⟩
      have TL := Lib.hid hnt
      rw [hnt] at htl
      clear hnt
      obtain ⟨zE0, zE1, zE2, _, _, _, zEl⟩ := blk_cells XE_22.out
      obtain ⟨zf0, zf1, zf2, _, _, _, zfl⟩ := blk_cells Xf_22.out
      obtain ⟨zu0, zu1, zu2, _, _, _, zul⟩ := blk_cells Xu_22.out
      go_wp2_with fail
      clear zE0 zE1 zE2 zEl
      clear zf0 zf1 zf2 zfl
      clear zu0 zu1 zu2 zul
      obtain ⟨w23, hw23⟩ : ∃ W, W = w22.alloc (.cells #[.int .i64 xa, .slice AX nx cX, .int .i64 xr] 28) := ⟨_, rfl⟩
      have hb : Below w22.heap.size w22 w23 := by rw [hw23]; exact below1 _ _
      have hx : Blk w23 w22.heap.size 28 [.int .i64 xa, .slice AX nx cX, .int .i64 xr] := by rw [hw23]; exact heap_alloc_new _ _
      have hsz : w23.heap.size = w22.heap.size + 1 := by rw [hw23]; simp
      rw [← hw23]
      clear hw23
      have S23 := Lib.hid (hb.size)
      have SE23 := Lib.hid hsz
      have B23 := Lib.hid (Below.tr B22.out hb)
      have FE_23 := Lib.hid (FE_22.out.below hb)
      clear FE_22
      have Ff_23 := Lib.hid (own_below Ff_22.out hb)
      clear Ff_22
      have Fu_23 := Lib.hid (own_below Fu_22.out hb)
      clear Fu_22
      have FX_23 := Lib.hid (FX_22.out.below hb)
      clear FX_22
      have FY_23 := Lib.hid (FY_22.out.below hb)
      clear FY_22
      have XE_23 := Lib.hid (XE_22.out.below hb)
      clear XE_22
      have Xf_23 := Lib.hid (Xf_22.out.below hb)
      clear Xf_22
      have Xu_23 := Lib.hid (Xu_22.out.below hb)
      clear Xu_22
      have XX_23 := Lib.hid hx
      clear hb hx hsz
      obtain ⟨w24, hw24⟩ : ∃ W, W = w23.alloc (.cells #[.int .i64 ya, .slice AY ny cY, .int .i64 yr] 28) := ⟨_, rfl⟩
      have hb : Below w23.heap.size w23 w24 := by rw [hw24]; exact below1 _ _
      have hx : Blk w24 w23.heap.size 28 [.int .i64 ya, .slice AY ny cY, .int .i64 yr] := by rw [hw24]; exact heap_alloc_new _ _
      have hsz : w24.heap.size = w23.heap.size + 1 := by rw [hw24]; simp
      rw [← hw24]
      clear hw24
      have S24 := Lib.hid (hb.size)
      have SE24 := Lib.hid hsz
      have B24 := Lib.hid (Below.tr B23.out hb)
      have FE_24 := Lib.hid (FE_23.out.below hb)
      clear FE_23
      have Ff_24 := Lib.hid (own_below Ff_23.out hb)
      clear Ff_23
      have Fu_24 := Lib.hid (own_below Fu_23.out hb)
      clear Fu_23
      have FX_24 := Lib.hid (FX_23.out.below hb)
      clear FX_23
      have FY_24 := Lib.hid (FY_23.out.below hb)
      clear FY_23
      have XE_24 := Lib.hid (XE_23.out.below hb)
      clear XE_23
      have Xf_24 := Lib.hid (Xf_23.out.below hb)
      clear Xf_23
      have Xu_24 := Lib.hid (Xu_23.out.below hb)
      clear Xu_23
      have XX_24 := Lib.hid (XX_23.out.below hb)
      clear XX_23
      rw [SE23.out] at hx
      have XY_24 := Lib.hid hx
      clear hb hx hsz
      refine (implBoth_any xa xr ya yr AX AY nx cX ny cY xs ys _ t0 ts t2 to HTR FX_24 XL (by omega) FY_24 YL (by omega)).mono ?_
      rintro e w25 ⟨Ab, cb, rfl, ho, hb⟩
      have S25 := Lib.hid (hb.size)
      have B25 := Lib.hid (Below.tr B24.out hb)
      have FE_25 := Lib.hid (FE_24.out.below hb)
      clear FE_24
      have Ff_25 := Lib.hid (own_below Ff_24.out hb)
      clear Ff_24
      have Fu_25 := Lib.hid (own_below Fu_24.out hb)
      clear Fu_24
      have FX_25 := Lib.hid (FX_24.out.below hb)
      clear FX_24
      have FY_25 := Lib.hid (FY_24.out.below hb)
      clear FY_24
      have XE_25 := Lib.hid (XE_24.out.below hb)
      clear XE_24
      have Xf_25 := Lib.hid (Xf_24.out.below hb)
      clear Xf_24
      have Xu_25 := Lib.hid (Xu_24.out.below hb)
      clear Xu_24
      have XX_25 := Lib.hid (XX_24.out.below hb)
      clear XX_24
      have XY_25 := Lib.hid (XY_24.out.below hb)
      clear XY_24
      rw [TL.out] at ho ⊢
      have Fb_25 := Lib.hid (ho)
      clear ho hb
      obtain ⟨zE0, zE1, zE2, _, _, _, zEl⟩ := blk_cells XE_25.out
      obtain ⟨zf0, zf1, zf2, _, _, _, zfl⟩ := blk_cells Xf_25.out
      obtain ⟨zu0, zu1, zu2, _, _, _, zul⟩ := blk_cells Xu_25.out
      obtain ⟨zX0, zX1, zX2, _, _, _, zXl⟩ := blk_cells XX_25.out
      obtain ⟨zY0, zY1, zY2, _, _, _, zYl⟩ := blk_cells XY_25.out
      go_wp2_with fail
      clear zE0 zE1 zE2 zEl
      clear zf0 zf1 zf2 zfl
      clear zu0 zu1 zu2 zul
      clear zX0 zX1 zX2 zXl
      clear zY0 zY1 zY2 zYl
      obtain ⟨w26, hw26⟩ : ∃ W, W = w25.alloc (.cells #[.int .i64 t0, .slice Ab nt cb, .int .i64 t2] 28) := ⟨_, rfl⟩
      have hb : Below w25.heap.size w25 w26 := by rw [hw26]; exact below1 _ _
      have hx : Blk w26 w25.heap.size 28 [.int .i64 t0, .slice Ab nt cb, .int .i64 t2] := by rw [hw26]; exact heap_alloc_new _ _
      have hsz : w26.heap.size = w25.heap.size + 1 := by rw [hw26]; simp
      rw [← hw26]
      clear hw26
      have S26 := Lib.hid (hb.size)
      have SE26 := Lib.hid hsz
      have B26 := Lib.hid (Below.tr B25.out hb)
      have FE_26 := Lib.hid (FE_25.out.below hb)
      clear FE_25
      have Ff_26 := Lib.hid (own_below Ff_25.out hb)
      clear Ff_25
      have Fu_26 := Lib.hid (own_below Fu_25.out hb)
      clear Fu_25
      have FX_26 := Lib.hid (FX_25.out.below hb)
      clear FX_25
      have FY_26 := Lib.hid (FY_25.out.below hb)
      clear FY_25
      have Fb_26 := Lib.hid (own_below Fb_25.out hb)
      clear Fb_25
      have XE_26 := Lib.hid (XE_25.out.below hb)
      clear XE_25
      have Xf_26 := Lib.hid (Xf_25.out.below hb)
      clear Xf_25
      have Xu_26 := Lib.hid (Xu_25.out.below hb)
      clear Xu_25
      have XX_26 := Lib.hid (XX_25.out.below hb)
      clear XX_25
      have XY_26 := Lib.hid (XY_25.out.below hb)
      clear XY_25
      have Xb_26 := Lib.hid hx
      clear hb hx hsz
      refine (specBoth_any xa xr ya yr AX AY nx cX ny cY xs ys _ t0 ts t2 to HTR FX_26 XL (by omega) FY_26 YL (by omega)).mono ?_
      rintro e w27 ⟨Ac, cc, rfl, ho, hb⟩
      have S27 := Lib.hid (hb.size)
      have B27 := Lib.hid (Below.tr B26.out hb)
      have FE_27 := Lib.hid (FE_26.out.below hb)
      clear FE_26
      have Ff_27 := Lib.hid (own_below Ff_26.out hb)
      clear Ff_26
      have Fu_27 := Lib.hid (own_below Fu_26.out hb)
      clear Fu_26
      have FX_27 := Lib.hid (FX_26.out.below hb)
      clear FX_26
      have FY_27 := Lib.hid (FY_26.out.below hb)
      clear FY_26
      have Fb_27 := Lib.hid (own_below Fb_26.out hb)
      clear Fb_26
      have XE_27 := Lib.hid (XE_26.out.below hb)
      clear XE_26
      have Xf_27 := Lib.hid (Xf_26.out.below hb)
      clear Xf_26
      have Xu_27 := Lib.hid (Xu_26.out.below hb)
      clear Xu_26
      have XX_27 := Lib.hid (XX_26.out.below hb)
      clear XX_26
      have XY_27 := Lib.hid (XY_26.out.below hb)
      clear XY_26
      have Xb_27 := Lib.hid (Xb_26.out.below hb)
      clear Xb_26
      rw [TL.out] at ho ⊢
      have Fc_27 := Lib.hid (ho)
      clear ho hb
      have hq1 : (fo != fo) = false := by simp
      have hq2 : (to != to) = false := by simp
      obtain ⟨zE0, zE1, zE2, _, _, _, zEl⟩ := blk_cells XE_27.out
      obtain ⟨zf0, zf1, zf2, _, _, _, zfl⟩ := blk_cells Xf_27.out
      obtain ⟨zu0, zu1, zu2, _, _, _, zul⟩ := blk_cells Xu_27.out
      obtain ⟨zX0, zX1, zX2, _, _, _, zXl⟩ := blk_cells XX_27.out
      obtain ⟨zY0, zY1, zY2, _, _, _, zYl⟩ := blk_cells XY_27.out
      obtain ⟨zb0, zb1, zb2, _, _, _, zbl⟩ := blk_cells Xb_27.out
      go_wp2_with fail
      clear zE0 zE1 zE2 zEl
      clear zf0 zf1 zf2 zfl
      clear zu0 zu1 zu2 zul
      clear zX0 zX1 zX2 zXl
      clear zY0 zY1 zY2 zYl
      clear zb0 zb1 zb2 zbl
      obtain ⟨w28, hw28⟩ : ∃ W, W = w27.alloc (.cells #[.int .i64 t0, .slice Ac nt cc, .int .i64 t2] 28) := ⟨_, rfl⟩
      have hb : Below w27.heap.size w27 w28 := by rw [hw28]; exact below1 _ _
      have hx : Blk w28 w27.heap.size 28 [.int .i64 t0, .slice Ac nt cc, .int .i64 t2] := by rw [hw28]; exact heap_alloc_new _ _
      have hsz : w28.heap.size = w27.heap.size + 1 := by rw [hw28]; simp
      rw [← hw28]
      clear hw28
      have S28 := Lib.hid (hb.size)
      have SE28 := Lib.hid hsz
      have B28 := Lib.hid (Below.tr B27.out hb)
      have FE_28 := Lib.hid (FE_27.out.below hb)
      clear FE_27
      have Ff_28 := Lib.hid (own_below Ff_27.out hb)
      clear Ff_27
      have Fu_28 := Lib.hid (own_below Fu_27.out hb)
      clear Fu_27
      have FX_28 := Lib.hid (FX_27.out.below hb)
      clear FX_27
      have FY_28 := Lib.hid (FY_27.out.below hb)
      clear FY_27
      have Fb_28 := Lib.hid (own_below Fb_27.out hb)
      clear Fb_27
      have Fc_28 := Lib.hid (own_below Fc_27.out hb)
      clear Fc_27
      have XE_28 := Lib.hid (XE_27.out.below hb)
      clear XE_27
      have Xf_28 := Lib.hid (Xf_27.out.below hb)
      clear Xf_27
      have Xu_28 := Lib.hid (Xu_27.out.below hb)
      clear Xu_27
      have XX_28 := Lib.hid (XX_27.out.below hb)
      clear XX_27
      have XY_28 := Lib.hid (XY_27.out.below hb)
      clear XY_27
      have Xb_28 := Lib.hid (Xb_27.out.below hb)
      clear Xb_27
      have Xc_28 := Lib.hid hx
      clear hb hx hsz
      refine (sameDg_any f0 f2 f0 f2 Af Au nf nf cf cu fs fs _ (Lib.hid (own_nlies FL.out Ff_28.out)) (Lib.hid (own_nlies FL.out Fu_28.out)) FL FL (by omega) (by omega)).mono ?_
      rintro e w29 ⟨rfl, hb⟩
      have S29 := Lib.hid (hb.size)
      have B29 := Lib.hid (Below.tr B28.out hb)
      have FE_29 := Lib.hid (FE_28.out.below hb)
      clear FE_28
      have Ff_29 := Lib.hid (own_below Ff_28.out hb)
      clear Ff_28
      have Fu_29 := Lib.hid (own_below Fu_28.out hb)
      clear Fu_28
      have FX_29 := Lib.hid (FX_28.out.below hb)
      clear FX_28
      have FY_29 := Lib.hid (FY_28.out.below hb)
      clear FY_28
      have Fb_29 := Lib.hid (own_below Fb_28.out hb)
      clear Fb_28
      have Fc_29 := Lib.hid (own_below Fc_28.out hb)
      clear Fc_28
      have XE_29 := Lib.hid (XE_28.out.below hb)
      clear XE_28
      have Xf_29 := Lib.hid (Xf_28.out.below hb)
      clear Xf_28
      have Xu_29 := Lib.hid (Xu_28.out.below hb)
      clear Xu_28
      have XX_29 := Lib.hid (XX_28.out.below hb)
      clear XX_28
      have XY_29 := Lib.hid (XY_28.out.below hb)
      clear XY_28
      have Xb_29 := Lib.hid (Xb_28.out.below hb)
      clear Xb_28
      have Xc_29 := Lib.hid (Xc_28.out.below hb)
      clear Xc_28
      rw [dgEq_same]
      clear hb
      obtain ⟨zE0, zE1, zE2, _, _, _, zEl⟩ := blk_cells XE_29.out
      obtain ⟨zf0, zf1, zf2, _, _, _, zfl⟩ := blk_cells Xf_29.out
      obtain ⟨zu0, zu1, zu2, _, _, _, zul⟩ := blk_cells Xu_29.out
      obtain ⟨zX0, zX1, zX2, _, _, _, zXl⟩ := blk_cells XX_29.out
      obtain ⟨zY0, zY1, zY2, _, _, _, zYl⟩ := blk_cells XY_29.out
      obtain ⟨zb0, zb1, zb2, _, _, _, zbl⟩ := blk_cells Xb_29.out
      obtain ⟨zc0, zc1, zc2, _, _, _, zcl⟩ := blk_cells Xc_29.out
      go_wp2_with fail
      clear zE0 zE1 zE2 zEl
      clear zf0 zf1 zf2 zfl
      clear zu0 zu1 zu2 zul
      clear zX0 zX1 zX2 zXl
      clear zY0 zY1 zY2 zYl
      clear zb0 zb1 zb2 zbl
      clear zc0 zc1 zc2 zcl
      refine (sameDg_any t0 t2 t0 t2 Ab Ac nt nt cb cc ts ts _ (Lib.hid (own_nlies TL.out Fb_29.out)) (Lib.hid (own_nlies TL.out Fc_29.out)) TL TL (by omega) (by omega)).mono ?_
      rintro e w30 ⟨rfl, hb⟩
      have S30 := Lib.hid (hb.size)
      have B30 := Lib.hid (Below.tr B29.out hb)
      have FE_30 := Lib.hid (FE_29.out.below hb)
      clear FE_29
      have Ff_30 := Lib.hid (own_below Ff_29.out hb)
      clear Ff_29
      have Fu_30 := Lib.hid (own_below Fu_29.out hb)
      clear Fu_29
      have FX_30 := Lib.hid (FX_29.out.below hb)
      clear FX_29
      have FY_30 := Lib.hid (FY_29.out.below hb)
      clear FY_29
      have Fb_30 := Lib.hid (own_below Fb_29.out hb)
      clear Fb_29
      have Fc_30 := Lib.hid (own_below Fc_29.out hb)
      clear Fc_29
      have XE_30 := Lib.hid (XE_29.out.below hb)
      clear XE_29
      have Xf_30 := Lib.hid (Xf_29.out.below hb)
      clear Xf_29
      have Xu_30 := Lib.hid (Xu_29.out.below hb)
      clear Xu_29
      have XX_30 := Lib.hid (XX_29.out.below hb)
      clear XX_29
      have XY_30 := Lib.hid (XY_29.out.below hb)
      clear XY_29
      have Xb_30 := Lib.hid (Xb_29.out.below hb)
      clear Xb_29
      have Xc_30 := Lib.hid (Xc_29.out.below hb)
      clear Xc_29
      rw [dgEq_same]
      clear hb
      cases fo
      · go_wp2
        go_ret
        exact ⟨rfl, B30.out⟩
      · obtain ⟨m, q, hfa, hm6, hfv, hqm, hgd, hf0, hfs, hf2⟩ := rFix_yes HFR.out
        subst hfa hfv hf0
        have HFS := Lib.hid hfs
        have HF2 := Lib.hid hf2
        have HNO : Hid (∀ x ∈ fs, x.v ≠ (q : Int) + 1) := Lib.hid (by rw [hfs]; exact fix_no hm6 hqm)
        have HO1 : Hid (rOnes (m : Int) fs f2 (((fixL m q so (ev es fr)).count true : Nat) : Int) true) := Lib.hid (by rw [hfs, hf2]; exact fix_ones hm6)
        have HGF : Hid (rFix (m : Int) es fr ((q : Int) + 1) (!so) = (((m : Int), (dgm m (fixL m q (!so) (ev es fr))).2, ((dgm m (fixL m q (!so) (ev es fr))).1 : Int)), true)) := Lib.hid (rFix_mk hgd hqm)
        have HO2 := Lib.hid (fix_ones (p := q) (ns := es) (r := fr) (so := !so) hm6)
        have HO3 : Hid (rOnes (m : Int) es fr (((tabL m es fr).count true : Nat) : Int) true) := Lib.hid ⟨hgd.symm, by rw [if_pos rfl, Int.toNat_natCast]⟩
        have HTW : (((fixL m q so (ev es fr)).count true : Nat) : Int) + (((fixL m q (!so) (ev es fr)).count true : Nat) : Int) = 2 * (((tabL m es fr).count true : Nat) : Int) := by have := fix_two (ns := es) (r := fr) hm6 hqm; cases so <;> simp <;> omega
        obtain ⟨n1, hn1⟩ : ∃ c : Int, (((fixL m q so (ev es fr)).count true : Nat) : Int) = c := ⟨_, rfl⟩
        obtain ⟨n2, hn2⟩ : ∃ c : Int, (((fixL m q (!so) (ev es fr)).count true : Nat) : Int) = c := ⟨_, rfl⟩
        obtain ⟨n3, hn3⟩ : ∃ c : Int, (((tabL m es fr).count true : Nat) : Int) = c := ⟨_, rfl⟩
        have hb1 : 0 ≤ n1 ∧ n1 ≤ 64 := by rw [← hn1]; have := List.count_le_length (a := true) (l := fixL m q so (ev es fr)); rw [fixL_len] at this; have := pow_le6 hm6; omega
        have hb2 : 0 ≤ n2 ∧ n2 ≤ 64 := by rw [← hn2]; have := List.count_le_length (a := true) (l := fixL m q (!so) (ev es fr)); rw [fixL_len] at this; have := pow_le6 hm6; omega
        have hb3 : 0 ≤ n3 ∧ n3 ≤ 64 := by rw [← hn3]; have := List.count_le_length (a := true) (l := tabL m es fr); rw [tabL_len] at this; have := pow_le6 hm6; omega
        rw [hn1] at HO1 HTW
        rw [hn2] at HO2 HTW
        rw [hn3] at HO3 HTW
        obtain ⟨gs, hgs⟩ : ∃ x, (dgm m (fixL m q (!so) (ev es fr))).2 = x := ⟨_, rfl⟩
        obtain ⟨g2, hg2⟩ : ∃ x : Int, ((dgm m (fixL m q (!so) (ev es fr))).1 : Int) = x := ⟨_, rfl⟩
        rw [hgs, hg2] at HGF HO2
        have hgl : gs.length ≤ 64 := rFix_len HGF.out
        obtain ⟨ng, hng⟩ : ∃ n, gs.length = n := ⟨_, rfl⟩
        have GL := Lib.hid hng
        rw [hng] at hgl
        have hmz : (0 : Int) ≤ m ∧ (m : Int) ≤ 6 := by omega
        have hq6 : q < 6 := by omega
        clear hfs hf2 hn1 hn2 hn3 hgs hg2 hng hgd hq1 hq2
        have hfin : (n1 + n2 == 2 * n3) = true := by simp; omega
        obtain ⟨zE0, zE1, zE2, _, _, _, zEl⟩ := blk_cells XE_30.out
        obtain ⟨zf0, zf1, zf2, _, _, _, zfl⟩ := blk_cells Xf_30.out
        go_wp2_with fail
        clear zE0 zE1 zE2 zEl
        clear zf0 zf1 zf2 zfl
        obtain ⟨zE0, zE1, zE2, _, _, _, zEl⟩ := blk_cells XE_30.out
        obtain ⟨zf0, zf1, zf2, _, _, _, zfl⟩ := blk_cells Xf_30.out
        go_loopw [207] (fun i wr => ∃ j : Nat, j ≤ nf ∧ i = .int .i64 j ∧ Below w30.heap.size w30 wr) (fun i _ => nf - (intOf i).toNat)
        case atStart => exact ⟨0, Nat.zero_le _, rfl, Below.refl _ _⟩
        case round =>
          clear zE0 zE1 zE2 zEl
          clear zf0 zf1 zf2 zfl
          obtain ⟨j, hj, rfl, hb⟩ := hrel
          obtain ⟨w31, hw31⟩ : ∃ x, x = wr := ⟨_, rfl⟩
          subst hw31
          have BL0 := Lib.hid hb
          have S31 := Lib.hid (hb.size)
          have B31 := Lib.hid (Below.tr B30.out hb)
          have FE_31 := Lib.hid (FE_30.out.below hb)
          clear FE_30
          have Ff_31 := Lib.hid (own_below Ff_30.out hb)
          clear Ff_30
          have XE_31 := Lib.hid (XE_30.out.below hb)
          clear XE_30
          have Xf_31 := Lib.hid (Xf_30.out.below hb)
          clear Xf_30
          clear hb
          by_cases hlt : j < nf
          · obtain ⟨x, hx⟩ : ∃ x, fs[j]? = some x := ⟨_, List.getElem?_eq_getElem (by rw [FL.out]; exact hlt)⟩
            obtain ⟨bF, oF, hAF, hbF, e0, e1, e2⟩ := (Lib.hid (own_nlies FL.out Ff_31.out)).out j x hx
            have hne : (x.v == (q : Int) + 1) = false := by have := HNO.out x (List.mem_of_getElem? hx); simp [this]
            subst hAF
            clear hx
            obtain ⟨zE0, zE1, zE2, _, _, _, zEl⟩ := blk_cells XE_31.out
            obtain ⟨zf0, zf1, zf2, _, _, _, zfl⟩ := blk_cells Xf_31.out
            go_wp2
            go_roundw
            case rel => exact ⟨j + 1, by omega, by go_num, Below.tr BL0.out (below1 _ _)⟩
            case measure => simp [intOf]; omega
          · obtain rfl : j = nf := by omega
            obtain ⟨zE0, zE1, zE2, _, _, _, zEl⟩ := blk_cells XE_31.out
            obtain ⟨zf0, zf1, zf2, _, _, _, zfl⟩ := blk_cells Xf_31.out
            go_wp2_with fail
            clear zE0 zE1 zE2 zEl
            clear zf0 zf1 zf2 zfl
            refine (implFix_any m fr ((q : Int) + 1) (!so) AE ne cE es _ m gs g2 true HGF FE_31 EL (by omega)).mono ?_
            rintro e w32 ⟨Ag, cg, rfl, ho, hb⟩
            have S32 := Lib.hid (hb.size)
            have B32 := Lib.hid (Below.tr B31.out hb)
            have FE_32 := Lib.hid (FE_31.out.below hb)
            clear FE_31
            have Ff_32 := Lib.hid (own_below Ff_31.out hb)
            clear Ff_31
            have XE_32 := Lib.hid (XE_31.out.below hb)
            clear XE_31
            have Xf_32 := Lib.hid (Xf_31.out.below hb)
            clear Xf_31
            rw [GL.out] at ho ⊢
            have Fg_32 := Lib.hid (ho)
            clear ho hb
            obtain ⟨zE0, zE1, zE2, _, _, _, zEl⟩ := blk_cells XE_32.out
            obtain ⟨zf0, zf1, zf2, _, _, _, zfl⟩ := blk_cells Xf_32.out
            go_wp2_with fail
            clear zE0 zE1 zE2 zEl
            clear zf0 zf1 zf2 zfl
            obtain ⟨w33, hw33⟩ : ∃ W, W = w32.alloc (.cells #[.int .i64 m, .slice Ag ng cg, .int .i64 g2] 28) := ⟨_, rfl⟩
            have hb : Below w32.heap.size w32 w33 := by rw [hw33]; exact below1 _ _
            have hx : Blk w33 w32.heap.size 28 [.int .i64 m, .slice Ag ng cg, .int .i64 g2] := by rw [hw33]; exact heap_alloc_new _ _
            have hsz : w33.heap.size = w32.heap.size + 1 := by rw [hw33]; simp
            rw [← hw33]
            clear hw33
            have S33 := Lib.hid (hb.size)
            have SE33 := Lib.hid hsz
            have B33 := Lib.hid (Below.tr B32.out hb)
            have FE_33 := Lib.hid (FE_32.out.below hb)
            clear FE_32
            have Ff_33 := Lib.hid (own_below Ff_32.out hb)
            clear Ff_32
            have Fg_33 := Lib.hid (own_below Fg_32.out hb)
            clear Fg_32
            have XE_33 := Lib.hid (XE_32.out.below hb)
            clear XE_32
            have Xf_33 := Lib.hid (Xf_32.out.below hb)
            clear Xf_32
            have Xg_33 := Lib.hid hx
            clear hb hx hsz
            refine (implOnes_any m f2 Af j cf fs _ n1 true HO1 (Lib.hid (own_nlies FL.out Ff_33.out)) FL (by omega)).mono ?_
            rintro e w34 ⟨rfl, hb⟩
            have S34 := Lib.hid (hb.size)
            have B34 := Lib.hid (Below.tr B33.out hb)
            have FE_34 := Lib.hid (FE_33.out.below hb)
            clear FE_33
            have Ff_34 := Lib.hid (own_below Ff_33.out hb)
            clear Ff_33
            have Fg_34 := Lib.hid (own_below Fg_33.out hb)
            clear Fg_33
            have XE_34 := Lib.hid (XE_33.out.below hb)
            clear XE_33
            have Xf_34 := Lib.hid (Xf_33.out.below hb)
            clear Xf_33
            have Xg_34 := Lib.hid (Xg_33.out.below hb)
            clear Xg_33
            clear hb
            obtain ⟨zE0, zE1, zE2, _, _, _, zEl⟩ := blk_cells XE_34.out
            obtain ⟨zf0, zf1, zf2, _, _, _, zfl⟩ := blk_cells Xf_34.out
            obtain ⟨zg0, zg1, zg2, _, _, _, zgl⟩ := blk_cells Xg_34.out
            go_wp2_with fail
            clear zE0 zE1 zE2 zEl
            clear zf0 zf1 zf2 zfl
            clear zg0 zg1 zg2 zgl
            refine (implOnes_any m g2 Ag ng cg gs _ n2 true HO2 (Lib.hid (own_nlies GL.out Fg_34.out)) GL (by omega)).mono ?_
            rintro e w35 ⟨rfl, hb⟩
            have S35 := Lib.hid (hb.size)
            have B35 := Lib.hid (Below.tr B34.out hb)
            have FE_35 := Lib.hid (FE_34.out.below hb)
            clear FE_34
            have Ff_35 := Lib.hid (own_below Ff_34.out hb)
            clear Ff_34
            have Fg_35 := Lib.hid (own_below Fg_34.out hb)
            clear Fg_34
            have XE_35 := Lib.hid (XE_34.out.below hb)
            clear XE_34
            have Xf_35 := Lib.hid (Xf_34.out.below hb)
            clear Xf_34
            have Xg_35 := Lib.hid (Xg_34.out.below hb)
            clear Xg_34
            clear hb
            obtain ⟨zE0, zE1, zE2, _, _, _, zEl⟩ := blk_cells XE_35.out
            obtain ⟨zf0, zf1, zf2, _, _, _, zfl⟩ := blk_cells Xf_35.out
            obtain ⟨zg0, zg1, zg2, _, _, _, zgl⟩ := blk_cells Xg_35.out
            go_wp2_with fail
            clear zE0 zE1 zE2 zEl
            clear zf0 zf1 zf2 zfl
            clear zg0 zg1 zg2 zgl
            refine (implOnes_any m fr AE ne cE es _ n3 true HO3 FE_35 EL (by omega)).mono ?_
            rintro e w36 ⟨rfl, hb⟩
            have S36 := Lib.hid (hb.size)
            have B36 := Lib.hid (Below.tr B35.out hb)
            have FE_36 := Lib.hid (FE_35.out.below hb)
            clear FE_35
            have Ff_36 := Lib.hid (own_below Ff_35.out hb)
            clear Ff_35
            have Fg_36 := Lib.hid (own_below Fg_35.out hb)
            clear Fg_35
            have XE_36 := Lib.hid (XE_35.out.below hb)
            clear XE_35
            have Xf_36 := Lib.hid (Xf_35.out.below hb)
            clear Xf_35
            have Xg_36 := Lib.hid (Xg_35.out.below hb)
            clear Xg_35
            clear hb
            go_wp2
            go_ret
            exact ⟨rfl, B36.out⟩
    · subst hAg
      obtain ⟨zd0, zd1, zd2, _, _, _, zdl⟩ := blk_cells Xd_8.out
      go_wp2_with fail
      clear zd0 zd1 zd2 zdl
      clear hk
      refine (implBy_any p (some ⟨ga, 0, none⟩) k c1 (L.take k) _ p la a2 true HRA (Lib.hid (FL_8.out.take k)) HTK (by omega)).mono ?_
      rintro e w9 ⟨Aa, ca, rfl, ho, hb⟩
      have S9 := Lib.hid (hb.size)
      have B9 := Lib.hid (Below.tr B8.out hb)
      have FL_9 := Lib.hid (FL_8.out.below hb)
      clear FL_8
      have Fd_9 := Lib.hid (own_below Fd_8.out hb)
      clear Fd_8
      have Xd_9 := Lib.hid (Xd_8.out.below hb)
      clear Xd_8
      rw [AL.out] at ho ⊢
      have Fa_9 := Lib.hid (ho)
      clear ho hb
      by_cases hkc : k = c1
      · subst hkc
        have HD0 : Hid ((L.drop k).length = 0) := Lib.hid (by rw [HDR.out]; omega)
        obtain ⟨zd0, zd1, zd2, _, _, _, zdl⟩ := blk_cells Xd_9.out
        go_wp2_with fail
        clear zd0 zd1 zd2 zdl
        obtain ⟨w10, hw10⟩ : ∃ W, W = w9.alloc (.cells #[.int .i64 p, .slice Aa na ca, .int .i64 a2] 28) := ⟨_, rfl⟩
        have hb : Below w9.heap.size w9 w10 := by rw [hw10]; exact below1 _ _
        have hx : Blk w10 w9.heap.size 28 [.int .i64 p, .slice Aa na ca, .int .i64 a2] := by rw [hw10]; exact heap_alloc_new _ _
        have hsz : w10.heap.size = w9.heap.size + 1 := by rw [hw10]; simp
        rw [← hw10]
        clear hw10
        have S10 := Lib.hid (hb.size)
        have SE10 := Lib.hid hsz
        have B10 := Lib.hid (Below.tr B9.out hb)
        have FL_10 := Lib.hid (FL_9.out.below hb)
        clear FL_9
        have Fd_10 := Lib.hid (own_below Fd_9.out hb)
        clear Fd_9
        have Fa_10 := Lib.hid (own_below Fa_9.out hb)
        clear Fa_9
        have Xd_10 := Lib.hid (Xd_9.out.below hb)
        clear Xd_9
        have Xa_10 := Lib.hid hx
        clear hb hx hsz
        refine (implBy_any p (some ⟨ga, 0, none⟩) 0 0 (L.drop k) _ p lb b2 true HRB (Lib.hid (fun i l h => by rw [List.eq_nil_of_length_eq_zero HD0.out] at h; simp at h)) HD0 (by omega)).mono ?_
        rintro e w11 ⟨Ae, ce, rfl, ho, hb⟩
        have S11 := Lib.hid (hb.size)
        have B11 := Lib.hid (Below.tr B10.out hb)
        have FL_11 := Lib.hid (FL_10.out.below hb)
        clear FL_10
        have Fd_11 := Lib.hid (own_below Fd_10.out hb)
        clear Fd_10
        have Fa_11 := Lib.hid (own_below Fa_10.out hb)
        clear Fa_10
        have Xd_11 := Lib.hid (Xd_10.out.below hb)
        clear Xd_10
        have Xa_11 := Lib.hid (Xa_10.out.below hb)
        clear Xa_10
        rw [BL.out] at ho ⊢
        have Fe_11 := Lib.hid (ho)
        clear ho hb
        obtain ⟨zd0, zd1, zd2, _, _, _, zdl⟩ := blk_cells Xd_11.out
        obtain ⟨za0, za1, za2, _, _, _, zal⟩ := blk_cells Xa_11.out
        go_wp2_with fail
        clear zd0 zd1 zd2 zdl
        clear za0 za1 za2 zal
        obtain ⟨w12, hw12⟩ : ∃ W, W = w11.alloc (.cells #[.int .i64 p, .slice Ae nb ce, .int .i64 b2] 28) := ⟨_, rfl⟩
        have hb : Below w11.heap.size w11 w12 := by rw [hw12]; exact below1 _ _
        have hx : Blk w12 w11.heap.size 28 [.int .i64 p, .slice Ae nb ce, .int .i64 b2] := by rw [hw12]; exact heap_alloc_new _ _
        have hsz : w12.heap.size = w11.heap.size + 1 := by rw [hw12]; simp
        rw [← hw12]
        clear hw12
        have S12 := Lib.hid (hb.size)
        have SE12 := Lib.hid hsz
        have B12 := Lib.hid (Below.tr B11.out hb)
        have FL_12 := Lib.hid (FL_11.out.below hb)
        clear FL_11
        have Fd_12 := Lib.hid (own_below Fd_11.out hb)
        clear Fd_11
        have Fa_12 := Lib.hid (own_below Fa_11.out hb)
        clear Fa_11
        have Fe_12 := Lib.hid (own_below Fe_11.out hb)
        clear Fe_11
        have Xd_12 := Lib.hid (Xd_11.out.below hb)
        clear Xd_11
        have Xa_12 := Lib.hid (Xa_11.out.below hb)
        clear Xa_11
        have Xe_12 := Lib.hid hx
        clear hb hx hsz
        refine (implBoth_any p a2 p b2 Aa Ae na ca nb ce la lb _ p ds d2 true HRC (Lib.hid (own_nlies AL.out Fa_12.out)) AL (by omega) (Lib.hid (own_nlies BL.out Fe_12.out)) BL (by omega)).mono ?_
        rintro e w13 ⟨Ah, ch, rfl, ho, hb⟩
        have S13 := Lib.hid (hb.size)
        have B13 := Lib.hid (Below.tr B12.out hb)
        have FL_13 := Lib.hid (FL_12.out.below hb)
        clear FL_12
        have Fd_13 := Lib.hid (own_below Fd_12.out hb)
        clear Fd_12
        have Fa_13 := Lib.hid (own_below Fa_12.out hb)
        clear Fa_12
        have Fe_13 := Lib.hid (own_below Fe_12.out hb)
        clear Fe_12
        have Xd_13 := Lib.hid (Xd_12.out.below hb)
        clear Xd_12
        have Xa_13 := Lib.hid (Xa_12.out.below hb)
        clear Xa_12
        have Xe_13 := Lib.hid (Xe_12.out.below hb)
        clear Xe_12
        rw [DL.out] at ho ⊢
        have Fh_13 := Lib.hid (ho)
        clear ho hb
        obtain ⟨zd0, zd1, zd2, _, _, _, zdl⟩ := blk_cells Xd_13.out
        obtain ⟨za0, za1, za2, _, _, _, zal⟩ := blk_cells Xa_13.out
        obtain ⟨ze0, ze1, ze2, _, _, _, zel⟩ := blk_cells Xe_13.out
        go_wp2_with fail
        clear zd0 zd1 zd2 zdl
        clear za0 za1 za2 zal
        clear ze0 ze1 ze2 zel
        obtain ⟨w14, hw14⟩ : ∃ W, W = w13.alloc (.cells #[.int .i64 p, .slice Ah z ch, .int .i64 d2] 28) := ⟨_, rfl⟩
        have hb : Below w13.heap.size w13 w14 := by rw [hw14]; exact below1 _ _
        have hx : Blk w14 w13.heap.size 28 [.int .i64 p, .slice Ah z ch, .int .i64 d2] := by rw [hw14]; exact heap_alloc_new _ _
        have hsz : w14.heap.size = w13.heap.size + 1 := by rw [hw14]; simp
        rw [← hw14]
        clear hw14
        have S14 := Lib.hid (hb.size)
        have SE14 := Lib.hid hsz
        have B14 := Lib.hid (Below.tr B13.out hb)
        have FL_14 := Lib.hid (FL_13.out.below hb)
        clear FL_13
        have Fd_14 := Lib.hid (own_below Fd_13.out hb)
        clear Fd_13
        have Fa_14 := Lib.hid (own_below Fa_13.out hb)
        clear Fa_13
        have Fe_14 := Lib.hid (own_below Fe_13.out hb)
        clear Fe_13
        have Fh_14 := Lib.hid (own_below Fh_13.out hb)
        clear Fh_13
        have Xd_14 := Lib.hid (Xd_13.out.below hb)
        clear Xd_13
        have Xa_14 := Lib.hid (Xa_13.out.below hb)
        clear Xa_13
        have Xe_14 := Lib.hid (Xe_13.out.below hb)
        clear Xe_13
        have Xh_14 := Lib.hid hx
        clear hb hx hsz
        refine (sameDg_any p d2 p d2 Ah Ad z z ch cd ds ds _ (Lib.hid (own_nlies DL.out Fh_14.out)) (Lib.hid (own_nlies DL.out Fd_14.out)) DL DL (by omega) (by omega)).mono ?_
        rintro e w15 ⟨rfl, hb⟩
        have S15 := Lib.hid (hb.size)
        have B15 := Lib.hid (Below.tr B14.out hb)
        have FL_15 := Lib.hid (FL_14.out.below hb)
        clear FL_14
        have Fd_15 := Lib.hid (own_below Fd_14.out hb)
        clear Fd_14
        have Fa_15 := Lib.hid (own_below Fa_14.out hb)
        clear Fa_14
        have Fe_15 := Lib.hid (own_below Fe_14.out hb)
        clear Fe_14
        have Fh_15 := Lib.hid (own_below Fh_14.out hb)
        clear Fh_14
        have Xd_15 := Lib.hid (Xd_14.out.below hb)
        clear Xd_14
        have Xa_15 := Lib.hid (Xa_14.out.below hb)
        clear Xa_14
        have Xe_15 := Lib.hid (Xe_14.out.below hb)
        clear Xe_14
        have Xh_15 := Lib.hid (Xh_14.out.below hb)
        clear Xh_14
        rw [dgEq_same]
        clear hb
        go_wp2_with fail
        refine (drawFixV_any a1 len1 cap1 _ (Lib.hid (h1.out.below B15.out))).mono ?_
        rintro e w16 ⟨fa, fr, AE, cE, es, fv, so, rfl, hel, hlE, hb⟩
        have S16 := Lib.hid (hb.size)
        have B16 := Lib.hid (Below.tr B15.out hb)
        obtain ⟨ne, hne⟩ : ∃ n, es.length = n := ⟨_, rfl⟩
        have EL := Lib.hid hne
        rw [hne] at hel ⊢
        clear hne
        have FE_16 := Lib.hid (hlE)
        clear hlE hb
        obtain ⟨⟨⟨f0, fs, f2⟩, fo⟩, hfr⟩ : ∃ x, rFix fa es fr fv so = x := ⟨_, rfl⟩
        have hfl : fs.length ≤ 64 := rFix_len hfr
        have HFR := Lib.hid hfr
        clear hfr
        obtain ⟨nf, hnf⟩ : ∃ n, fs.length = n := ⟨_, rfl⟩
        have FL := Lib.hid hnf
        rw [hnf] at hfl
        clear hnf
        go_wp2_with fail
        obtain ⟨w17, hw17⟩ : ∃ W, W = w16.alloc (.cells #[.int .i64 fa, .slice AE ne cE, .int .i64 fr] 28) := ⟨_, rfl⟩
        have hb : Below w16.heap.size w16 w17 := by rw [hw17]; exact below1 _ _
        have hx : Blk w17 w16.heap.size 28 [.int .i64 fa, .slice AE ne cE, .int .i64 fr] := by rw [hw17]; exact heap_alloc_new _ _
        have hsz : w17.heap.size = w16.heap.size + 1 := by rw [hw17]; simp
        rw [← hw17]
        clear hw17
        have S17 := Lib.hid (hb.size)
        have SE17 := Lib.hid hsz
        have B17 := Lib.hid (Below.tr B16.out hb)
        have FE_17 := Lib.hid (FE_16.out.below hb)
        clear FE_16
        have XE_17 := Lib.hid hx
        clear hb hx hsz
        refine (implFix_any fa fr fv so AE ne cE es _ f0 fs f2 fo HFR FE_17 EL (by omega)).mono ?_
        rintro e w18 ⟨Af, cf, rfl, ho, hb⟩
        have S18 := Lib.hid (hb.size)
        have B18 := Lib.hid (Below.tr B17.out hb)
        have FE_18 := Lib.hid (FE_17.out.below hb)
        clear FE_17
        have XE_18 := Lib.hid (XE_17.out.below hb)
        clear XE_17
        rw [FL.out] at ho ⊢
        have Ff_18 := Lib.hid (ho)
        clear ho hb
        obtain ⟨zE0, zE1, zE2, _, _, _, zEl⟩ := blk_cells XE_18.out
        go_wp2_with fail
        clear zE0 zE1 zE2 zEl
        obtain ⟨w19, hw19⟩ : ∃ W, W = w18.alloc (.cells #[.int .i64 f0, .slice Af nf cf, .int .i64 f2] 28) := ⟨_, rfl⟩
        have hb : Below w18.heap.size w18 w19 := by rw [hw19]; exact below1 _ _
        have hx : Blk w19 w18.heap.size 28 [.int .i64 f0, .slice Af nf cf, .int .i64 f2] := by rw [hw19]; exact heap_alloc_new _ _
        have hsz : w19.heap.size = w18.heap.size + 1 := by rw [hw19]; simp
        rw [← hw19]
        clear hw19
        have S19 := Lib.hid (hb.size)
        have SE19 := Lib.hid hsz
        have B19 := Lib.hid (Below.tr B18.out hb)
        have FE_19 := Lib.hid (FE_18.out.below hb)
        clear FE_18
        have Ff_19 := Lib.hid (own_below Ff_18.out hb)
        clear Ff_18
        have XE_19 := Lib.hid (XE_18.out.below hb)
        clear XE_18
        have Xf_19 := Lib.hid hx
        clear hb hx hsz
        refine (specFix_any fa fr fv so AE ne cE es _ f0 fs f2 fo HFR FE_19 EL (by omega)).mono ?_
        rintro e w20 ⟨Au, cu, rfl, ho, hb⟩
        have S20 := Lib.hid (hb.size)
        have B20 := Lib.hid (Below.tr B19.out hb)
        have FE_20 := Lib.hid (FE_19.out.below hb)
        clear FE_19
        have Ff_20 := Lib.hid (own_below Ff_19.out hb)
        clear Ff_19
        have XE_20 := Lib.hid (XE_19.out.below hb)
        clear XE_19
        have Xf_20 := Lib.hid (Xf_19.out.below hb)
        clear Xf_19
        rw [FL.out] at ho ⊢
        have Fu_20 := Lib.hid (ho)
        clear ho hb
        obtain ⟨zE0, zE1, zE2, _, _, _, zEl⟩ := blk_cells XE_20.out
        obtain ⟨zf0, zf1, zf2, _, _, _, zfl⟩ := blk_cells Xf_20.out
        go_wp2_with fail
        clear zE0 zE1 zE2 zEl
        clear zf0 zf1 zf2 zfl
        obtain ⟨w21, hw21⟩ : ∃ W, W = w20.alloc (.cells #[.int .i64 f0, .slice Au nf cu, .int .i64 f2] 28) := ⟨_, rfl⟩
        have hb : Below w20.heap.size w20 w21 := by rw [hw21]; exact below1 _ _
        have hx : Blk w21 w20.heap.size 28 [.int .i64 f0, .slice Au nf cu, .int .i64 f2] := by rw [hw21]; exact heap_alloc_new _ _
        have hsz : w21.heap.size = w20.heap.size + 1 := by rw [hw21]; simp
        rw [← hw21]
        clear hw21
        have S21 := Lib.hid (hb.size)
        have SE21 := Lib.hid hsz
        have B21 := Lib.hid (Below.tr B20.out hb)
        have FE_21 := Lib.hid (FE_20.out.below hb)
        clear FE_20
        have Ff_21 := Lib.hid (own_below Ff_20.out hb)
        clear Ff_20
        have Fu_21 := Lib.hid (own_below Fu_20.out hb)
        clear Fu_20
        have XE_21 := Lib.hid (XE_20.out.below hb)
        clear XE_20
        have Xf_21 := Lib.hid (Xf_20.out.below hb)
        clear Xf_20
        have Xu_21 := Lib.hid hx
        clear hb hx hsz
        refine (drawBothD_any a1 len1 cap1 _ (Lib.hid (h1.out.below B21.out))).mono ?_
        rintro e w22 ⟨xa, xr, ya, yr, AX, AY, cX, cY, xs, ys, rfl, hxl, hyl, hlX, hlY, hb⟩
        have S22 := Lib.hid (hb.size)
        have B22 := Lib.hid (Below.tr B21.out hb)
        have FE_22 := Lib.hid (FE_21.out.below hb)
        clear FE_21
        have Ff_22 := Lib.hid (own_below Ff_21.out hb)
        clear Ff_21
        have Fu_22 := Lib.hid (own_below Fu_21.out hb)
        clear Fu_21
        have XE_22 := Lib.hid (XE_21.out.below hb)
        clear XE_21
        have Xf_22 := Lib.hid (Xf_21.out.below hb)
        clear Xf_21
        have Xu_22 := Lib.hid (Xu_21.out.below hb)
        clear Xu_21
        obtain ⟨nx, hnx⟩ : ∃ n, xs.length = n := ⟨_, rfl⟩
        have XL := Lib.hid hnx
        obtain ⟨ny, hny⟩ : ∃ n, ys.length = n := ⟨_, rfl⟩
        have YL := Lib.hid hny
        rw [hnx] at hxl ⊢
        rw [hny] at hyl ⊢
        clear hnx hny
        have FX_22 := Lib.hid (hlX)
        have FY_22 := Lib.hid (hlY)
        clear hlX hlY hb
        obtain ⟨⟨⟨t0, ts, t2⟩, to⟩, htr⟩ : ∃ x, rBoth xa xs xr ya ys yr = x := ⟨_, rfl⟩
        have htl : ts.length ≤ 64 := rBoth_len htr
        have HTR := Lib.hid htr
        clear htr
        obtain ⟨nt, hnt⟩ : ∃ n, ts.length = n := ⟨_, rfl⟩
        have TL := Lib.hid hnt
        rw [hnt] at htl
        clear hnt
        obtain ⟨zE0, zE1, zE2, _, _, _, zEl⟩ := blk_cells XE_22.out
        obtain ⟨zf0, zf1, zf2, _, _, _, zfl⟩ := blk_cells Xf_22.out
        obtain ⟨zu0, zu1, zu2, _, _, _, zul⟩ := blk_cells Xu_22.out
        go_wp2_with fail
        clear zE0 zE1 zE2 zEl
        clear zf0 zf1 zf2 zfl
        clear zu0 zu1 zu2 zul
        obtain ⟨w23, hw23⟩ : ∃ W, W = w22.alloc (.cells #[.int .i64 xa, .slice AX nx cX, .int .i64 xr] 28) := ⟨_, rfl⟩
        have hb : Below w22.heap.size w22 w23 := by rw [hw23]; exact below1 _ _
        have hx : Blk w23 w22.heap.size 28 [.int .i64 xa, .slice AX nx cX, .int .i64 xr] := by rw [hw23]; exact heap_alloc_new _ _
        have hsz : w23.heap.size = w22.heap.size + 1 := by rw [hw23]; simp
        rw [← hw23]
        clear hw23
        have S23 := Lib.hid (hb.size)
        have SE23 := Lib.hid hsz
        have B23 := Lib.hid (Below.tr B22.out hb)
        have FE_23 := Lib.hid (FE_22.out.below hb)
        clear FE_22
        have Ff_23 := Lib.hid (own_below Ff_22.out hb)
        clear Ff_22
        have Fu_23 := Lib.hid (own_below Fu_22.out hb)
        clear Fu_22
        have FX_23 := Lib.hid (FX_22.out.below hb)
        clear FX_22
        have FY_23 := Lib.hid (FY_22.out.below hb)
        clear FY_22
        have XE_23 := Lib.hid (XE_22.out.below hb)
        clear XE_22
        have Xf_23 := Lib.hid (Xf_22.out.below hb)
        clear Xf_22
        have Xu_23 := Lib.hid (Xu_22.out.below hb)
        clear Xu_22
        have XX_23 := Lib.hid hx
        clear hb hx hsz
        obtain ⟨w24, hw24⟩ : ∃ W, W = w23.alloc (.cells #[.int .i64 ya, .slice AY ny cY, .int .i64 yr] 28) := ⟨_, rfl⟩
        have hb : Below w23.heap.size w23 w24 := by rw [hw24]; exact below1 _ _
        have hx : Blk w24 w23.heap.size 28 [.int .i64 ya, .slice AY ny cY, .int .i64 yr] := by rw [hw24]; exact heap_alloc_new _ _
        have hsz : w24.heap.size = w23.heap.size + 1 := by rw [hw24]; simp
        rw [← hw24]
        clear hw24
        have S24 := Lib.hid (hb.size)
        have SE24 := Lib.hid hsz
        have B24 := Lib.hid (Below.tr B23.out hb)
        have FE_24 := Lib.hid (FE_23.out.below hb)
        clear FE_23
        have Ff_24 := Lib.hid (own_below Ff_23.out hb)
        clear Ff_23
        have Fu_24 := Lib.hid (own_below Fu_23.out hb)
        clear Fu_23
        have FX_24 := Lib.hid (FX_23.out.below hb)
        clear FX_23
        have FY_24 := Lib.hid (FY_23.out.below hb)
        clear FY_23
        have XE_24 := Lib.hid (XE_23.out.below hb)
        clear XE_23
        have Xf_24 := Lib.hid (Xf_23.out.below hb)
        clear Xf_23
        have Xu_24 := Lib.hid (Xu_23.out.below hb)
        clear Xu_23
        have XX_24 := Lib.hid (XX_23.out.below hb)
        clear XX_23
        rw [SE23.out] at hx
        have XY_24 := Lib.hid hx
        clear hb hx hsz
        refine (implBoth_any xa xr ya yr AX AY nx cX ny cY xs ys _ t0 ts t2 to HTR FX_24 XL (by omega) FY_24 YL (by omega)).mono ?_
        rintro e w25 ⟨Ab, cb, rfl, ho, hb⟩
        have S25 := Lib.hid (hb.size)
        have B25 := Lib.hid (Below.tr B24.out hb)
        have FE_25 := Lib.hid (FE_24.out.below hb)
        clear FE_24
        have Ff_25 := Lib.hid (own_below Ff_24.out hb)
        clear Ff_24
        have Fu_25 := Lib.hid (own_below Fu_24.out hb)
        clear Fu_24
        have FX_25 := Lib.hid (FX_24.out.below hb)
        clear FX_24
        have FY_25 := Lib.hid (FY_24.out.below hb)
        clear FY_24
        have XE_25 := Lib.hid (XE_24.out.below hb)
        clear XE_24
        have Xf_25 := Lib.hid (Xf_24.out.below hb)
        clear Xf_24
        have Xu_25 := Lib.hid (Xu_24.out.below hb)
        clear Xu_24
        have XX_25 := Lib.hid (XX_24.out.below hb)
        clear XX_24
        have XY_25 := Lib.hid (XY_24.out.below hb)
        clear XY_24
        rw [TL.out] at ho ⊢
        have Fb_25 := Lib.hid (ho)
        clear ho hb
        obtain ⟨zE0, zE1, zE2, _, _, _, zEl⟩ := blk_cells XE_25.out
        obtain ⟨zf0, zf1, zf2, _, _, _, zfl⟩ := blk_cells Xf_25.out
        obtain ⟨zu0, zu1, zu2, _, _, _, zul⟩ := blk_cells Xu_25.out
        obtain ⟨zX0, zX1, zX2, _, _, _, zXl⟩ := blk_cells XX_25.out
        obtain ⟨zY0, zY1, zY2, _, _, _, zYl⟩ := blk_cells XY_25.out
        go_wp2_with fail
        clear zE0 zE1 zE2 zEl
        clear zf0 zf1 zf2 zfl
        clear zu0 zu1 zu2 zul
        clear zX0 zX1 zX2 zXl
        clear zY0 zY1 zY2 zYl
        obtain ⟨w26, hw26⟩ : ∃ W, W = w25.alloc (.cells #[.int .i64 t0, .slice Ab nt cb, .int .i64 t2] 28) := ⟨_, rfl⟩
        have hb : Below w25.heap.size w25 w26 := by rw [hw26]; exact below1 _ _
        have hx : Blk w26 w25.heap.size 28 [.int .i64 t0, .slice Ab nt cb, .int .i64 t2] := by rw [hw26]; exact heap_alloc_new _ _
        have hsz : w26.heap.size = w25.heap.size + 1 := by rw [hw26]; simp
        rw [← hw26]
        clear hw26
        have S26 := Lib.hid (hb.size)
        have SE26 := Lib.hid hsz
        have B26 := Lib.hid (Below.tr B25.out hb)
        have FE_26 := Lib.hid (FE_25.out.below hb)
        clear FE_25
        have Ff_26 := Lib.hid (own_below Ff_25.out hb)
        clear Ff_25
        have Fu_26 := Lib.hid (own_below Fu_25.out hb)
        clear Fu_25
        have FX_26 := Lib.hid (FX_25.out.below hb)
        clear FX_25
        have FY_26 := Lib.hid (FY_25.out.below hb)
        clear FY_25
        have Fb_26 := Lib.hid (own_below Fb_25.out hb)
        clear Fb_25
        have XE_26 := Lib.hid (XE_25.out.below hb)
        clear XE_25
        have Xf_26 := Lib.hid (Xf_25.out.below hb)
        clear Xf_25
        have Xu_26 := Lib.hid (Xu_25.out.below hb)
        clear Xu_25
        have XX_26 := Lib.hid (XX_25.out.below hb)
        clear XX_25
        have XY_26 := Lib.hid (XY_25.out.below hb)
        clear XY_25
        have Xb_26 := Lib.hid hx
        clear hb hx hsz
        refine (specBoth_any xa xr ya yr AX AY nx cX ny cY xs ys _ t0 ts t2 to HTR FX_26 XL (by omega) FY_26 YL (by omega)).mono ?_
        rintro e w27 ⟨Ac, cc, rfl, ho, hb⟩
        have S27 := Lib.hid (hb.size)
        have B27 := Lib.hid (Below.tr B26.out hb)
        have FE_27 := Lib.hid (FE_26.out.below hb)
        clear FE_26
        have Ff_27 := Lib.hid (own_below Ff_26.out hb)
        clear Ff_26
        have Fu_27 := Lib.hid (own_below Fu_26.out hb)
        clear Fu_26
        have FX_27 := Lib.hid (FX_26.out.below hb)
        clear FX_26
        have FY_27 := Lib.hid (FY_26.out.below hb)
        clear FY_26
        have Fb_27 := Lib.hid (own_below Fb_26.out hb)
        clear Fb_26
        have XE_27 := Lib.hid (XE_26.out.below hb)
        clear XE_26
        have Xf_27 := Lib.hid (Xf_26.out.below hb)
        clear Xf_26
        have Xu_27 := Lib.hid (Xu_26.out.below hb)
        clear Xu_26
        have XX_27 := Lib.hid (XX_26.out.below hb)
        clear XX_26
        have XY_27 := Lib.hid (XY_26.out.below hb)
        clear XY_26
        have Xb_27 := Lib.hid (Xb_26.out.below hb)
        clear Xb_26
        rw [TL.out] at ho ⊢
        have Fc_27 := Lib.hid (ho)
        clear ho hb
        have hq1 : (fo != fo) = false := by simp
        have hq2 : (to != to) = false := by simp
        obtain ⟨zE0, zE1, zE2, _, _, _, zEl⟩ := blk_cells XE_27.out
        obtain ⟨zf0, zf1, zf2, _, _, _, zfl⟩ := blk_cells Xf_27.out
        obtain ⟨zu0, zu1, zu2, _, _, _, zul⟩ := blk_cells Xu_27.out
        obtain ⟨zX0, zX1, zX2, _, _, _, zXl⟩ := blk_cells XX_27.out
        obtain ⟨zY0, zY1, zY2, _, _, _, zYl⟩ := blk_cells XY_27.out
        obtain ⟨zb0, zb1, zb2, _, _, _, zbl⟩ := blk_cells Xb_27.out
        go_wp2_with fail
        clear zE0 zE1 zE2 zEl
        clear zf0 zf1 zf2 zfl
        clear zu0 zu1 zu2 zul
        clear zX0 zX1 zX2 zXl
        clear zY0 zY1 zY2 zYl
        clear zb0 zb1 zb2 zbl
        obtain ⟨w28, hw28⟩ : ∃ W, W = w27.alloc (.cells #[.int .i64 t0, .slice Ac nt cc, .int .i64 t2] 28) := ⟨_, rfl⟩
        have hb : Below w27.heap.size w27 w28 := by rw [hw28]; exact below1 _ _
        have hx : Blk w28 w27.heap.size 28 [.int .i64 t0, .slice Ac nt cc, .int .i64 t2] := by rw [hw28]; exact heap_alloc_new _ _
        have hsz : w28.heap.size = w27.heap.size + 1 := by rw [hw28]; simp
        rw [← hw28]
        clear hw28
        have S28 := Lib.hid (hb.size)
        have SE28 := Lib.hid hsz
        have B28 := Lib.hid (Below.tr B27.out hb)
        have FE_28 := Lib.hid (FE_27.out.below hb)
        clear FE_27
        have Ff_28 := Lib.hid (own_below Ff_27.out hb)
        clear Ff_27
        have Fu_28 := Lib.hid (own_below Fu_27.out hb)
        clear Fu_27
        have FX_28 := Lib.hid (FX_27.out.below hb)
        clear FX_27
        have FY_28 := Lib.hid (FY_27.out.below hb)
        clear FY_27
        have Fb_28 := Lib.hid (own_below Fb_27.out hb)
        clear Fb_27
        have Fc_28 := Lib.hid (own_below Fc_27.out hb)
        clear Fc_27
        have XE_28 := Lib.hid (XE_27.out.below hb)
        clear XE_27
        have Xf_28 := Lib.hid (Xf_27.out.below hb)
        clear Xf_27
        have Xu_28 := Lib.hid (Xu_27.out.below hb)
        clear Xu_27
        have XX_28 := Lib.hid (XX_27.out.below hb)
        clear XX_27
        have XY_28 := Lib.hid (XY_27.out.below hb)
        clear XY_27
        have Xb_28 := Lib.hid (Xb_27.out.below hb)
        clear Xb_27
        have Xc_28 := Lib.hid hx
        clear hb hx hsz
        refine (sameDg_any f0 f2 f0 f2 Af Au nf nf cf cu fs fs _ (Lib.hid (own_nlies FL.out Ff_28.out)) (Lib.hid (own_nlies FL.out Fu_28.out)) FL FL (by omega) (by omega)).mono ?_
        rintro e w29 ⟨rfl, hb⟩
        have S29 := Lib.hid (hb.size)
        have B29 := Lib.hid (Below.tr B28.out hb)
        have FE_29 := Lib.hid (FE_28.out.below hb)
        clear FE_28
        have Ff_29 := Lib.hid (own_below Ff_28.out hb)
        clear Ff_28
        have Fu_29 := Lib.hid (own_below Fu_28.out hb)
        clear Fu_28
        have FX_29 := Lib.hid (FX_28.out.below hb)
        clear FX_28
        have FY_29 := Lib.hid (FY_28.out.below hb)
        clear FY_28
        have Fb_29 := Lib.hid (own_below Fb_28.out hb)
        clear Fb_28
        have Fc_29 := Lib.hid (own_below Fc_28.out hb)
        clear Fc_28
        have XE_29 := Lib.hid (XE_28.out.below hb)
        clear XE_28
        have Xf_29 := Lib.hid (Xf_28.out.below hb)
        clear Xf_28
        have Xu_29 := Lib.hid (Xu_28.out.below hb)
        clear Xu_28
        have XX_29 := Lib.hid (XX_28.out.below hb)
        clear XX_28
        have XY_29 := Lib.hid (XY_28.out.below hb)
        clear XY_28
        have Xb_29 := Lib.hid (Xb_28.out.below hb)
        clear Xb_28
        have Xc_29 := Lib.hid (Xc_28.out.below hb)
        clear Xc_28
        rw [dgEq_same]
        clear hb
        obtain ⟨zE0, zE1, zE2, _, _, _, zEl⟩ := blk_cells XE_29.out
        obtain ⟨zf0, zf1, zf2, _, _, _, zfl⟩ := blk_cells Xf_29.out
        obtain ⟨zu0, zu1, zu2, _, _, _, zul⟩ := blk_cells Xu_29.out
        obtain ⟨zX0, zX1, zX2, _, _, _, zXl⟩ := blk_cells XX_29.out
        obtain ⟨zY0, zY1, zY2, _, _, _, zYl⟩ := blk_cells XY_29.out
        obtain ⟨zb0, zb1, zb2, _, _, _, zbl⟩ := blk_cells Xb_29.out
        obtain ⟨zc0, zc1, zc2, _, _, _, zcl⟩ := blk_cells Xc_29.out
        go_wp2_with fail
        clear zE0 zE1 zE2 zEl
        clear zf0 zf1 zf2 zfl
        clear zu0 zu1 zu2 zul
        clear zX0 zX1 zX2 zXl
        clear zY0 zY1 zY2 zYl
        clear zb0 zb1 zb2 zbl
        clear zc0 zc1 zc2 zcl
        refine (sameDg_any t0 t2 t0 t2 Ab Ac nt nt cb cc ts ts _ (Lib.hid (own_nlies TL.out Fb_29.out)) (Lib.hid (own_nlies TL.out Fc_29.out)) TL TL (by omega) (by omega)).mono ?_
        rintro e w30 ⟨rfl, hb⟩
        have S30 := Lib.hid (hb.size)
        have B30 := Lib.hid (Below.tr B29.out hb)
        have FE_30 := Lib.hid (FE_29.out.below hb)
        clear FE_29
        have Ff_30 := Lib.hid (own_below Ff_29.out hb)
        clear Ff_29
        have Fu_30 := Lib.hid (own_below Fu_29.out hb)
        clear Fu_29
        have FX_30 := Lib.hid (FX_29.out.below hb)
        clear FX_29
        have FY_30 := Lib.hid (FY_29.out.below hb)
        clear FY_29
        have Fb_30 := Lib.hid (own_below Fb_29.out hb)
        clear Fb_29
        have Fc_30 := Lib.hid (own_below Fc_29.out hb)
        clear Fc_29
        have XE_30 := Lib.hid (XE_29.out.below hb)
        clear XE_29
        have Xf_30 := Lib.hid (Xf_29.out.below hb)
        clear Xf_29
        have Xu_30 := Lib.hid (Xu_29.out.below hb)
        clear Xu_29
        have XX_30 := Lib.hid (XX_29.out.below hb)
        clear XX_29
        have XY_30 := Lib.hid (XY_29.out.below hb)
        clear XY_29
        have Xb_30 := Lib.hid (Xb_29.out.below hb)
        clear Xb_29
        have Xc_30 := Lib.hid (Xc_29.out.below hb)
        clear Xc_29
        rw [dgEq_same]
        clear hb
        cases fo
        · go_wp2
          go_ret
          exact ⟨rfl, B30.out⟩
        · obtain ⟨m, q, hfa, hm6, hfv, hqm, hgd, hf0, hfs, hf2⟩ := rFix_yes HFR.out
          subst hfa hfv hf0
          have HFS := Lib.hid hfs
          have HF2 := Lib.hid hf2
          have HNO : Hid (∀ x ∈ fs, x.v ≠ (q : Int) + 1) := Lib.hid (by rw [hfs]; exact fix_no hm6 hqm)
          have HO1 : Hid (rOnes (m : Int) fs f2 (((fixL m q so (ev es fr)).count true : Nat) : Int) true) := Lib.hid (by rw [hfs, hf2]; exact fix_ones hm6)
          have HGF : Hid (rFix (m : Int) es fr ((q : Int) + 1) (!so) = (((m : Int), (dgm m (fixL m q (!so) (ev es fr))).2, ((dgm m (fixL m q (!so) (ev es fr))).1 : Int)), true)) := Lib.hid (rFix_mk hgd hqm)
          have HO2 := Lib.hid (fix_ones (p := q) (ns := es) (r := fr) (so := !so) hm6)
          have HO3 : Hid (rOnes (m : Int) es fr (((tabL m es fr).count true : Nat) : Int) true) := Lib.hid ⟨hgd.symm, by rw [if_pos rfl, Int.toNat_natCast]⟩
          have HTW : (((fixL m q so (ev es fr)).count true : Nat) : Int) + (((fixL m q (!so) (ev es fr)).count true : Nat) : Int) = 2 * (((tabL m es fr).count true : Nat) : Int) := by have := fix_two (ns := es) (r := fr) hm6 hqm; cases so <;> simp <;> omega
          obtain ⟨n1, hn1⟩ : ∃ c : Int, (((fixL m q so (ev es fr)).count true : Nat) : Int) = c := ⟨_, rfl⟩
          obtain ⟨n2, hn2⟩ : ∃ c : Int, (((fixL m q (!so) (ev es fr)).count true : Nat) : Int) = c := ⟨_, rfl⟩
          obtain ⟨n3, hn3⟩ : ∃ c : Int, (((tabL m es fr).count true : Nat) : Int) = c := ⟨_, rfl⟩
          have hb1 : 0 ≤ n1 ∧ n1 ≤ 64 := by rw [← hn1]; have := List.count_le_length (a := true) (l := fixL m q so (ev es fr)); rw [fixL_len] at this; have := pow_le6 hm6; omega
          have hb2 : 0 ≤ n2 ∧ n2 ≤ 64 := by rw [← hn2]; have := List.count_le_length (a := true) (l := fixL m q (!so) (ev es fr)); rw [fixL_len] at this; have := pow_le6 hm6; omega
          have hb3 : 0 ≤ n3 ∧ n3 ≤ 64 := by rw [← hn3]; have := List.count_le_length (a := true) (l := tabL m es fr); rw [tabL_len] at this; have := pow_le6 hm6; omega
          rw [hn1] at HO1 HTW
          rw [hn2] at HO2 HTW
          rw [hn3] at HO3 HTW
          obtain ⟨gs, hgs⟩ : ∃ x, (dgm m (fixL m q (!so) (ev es fr))).2 = x := ⟨_, rfl⟩
          obtain ⟨g2, hg2⟩ : ∃ x : Int, ((dgm m (fixL m q (!so) (ev es fr))).1 : Int) = x := ⟨_, rfl⟩
          rw [hgs, hg2] at HGF HO2
          have hgl : gs.length ≤ 64 := rFix_len HGF.out
          obtain ⟨ng, hng⟩ : ∃ n, gs.length = n := ⟨_, rfl⟩
          have GL := Lib.hid hng
          rw [hng] at hgl
          have hmz : (0 : Int) ≤ m ∧ (m : Int) ≤ 6 := by omega
          have hq6 : q < 6 := by omega
          clear hfs hf2 hn1 hn2 hn3 hgs hg2 hng hgd hq1 hq2
          have hfin : (n1 + n2 == 2 * n3) = true := by simp; omega
          obtain ⟨zE0, zE1, zE2, _, _, _, zEl⟩ := blk_cells XE_30.out
          obtain ⟨zf0, zf1, zf2, _, _, _, zfl⟩ := blk_cells Xf_30.out
          go_wp2_with fail
          clear zE0 zE1 zE2 zEl
          clear zf0 zf1 zf2 zfl
          obtain ⟨zE0, zE1, zE2, _, _, _, zEl⟩ := blk_cells XE_30.out
          obtain ⟨zf0, zf1, zf2, _, _, _, zfl⟩ := blk_cells Xf_30.out
          go_loopw [207] (fun i wr => ∃ j : Nat, j ≤ nf ∧ i = .int .i64 j ∧ Below w30.heap.size w30 wr) (fun i _ => nf - (intOf i).toNat)
          case atStart => exact ⟨0, Nat.zero_le _, rfl, Below.refl _ _⟩
          case round =>
            clear zE0 zE1 zE2 zEl
            clear zf0 zf1 zf2 zfl
            obtain ⟨j, hj, rfl, hb⟩ := hrel
            obtain ⟨w31, hw31⟩ : ∃ x, x = wr := ⟨_, rfl⟩
            subst hw31
            have BL0 := Lib.hid hb
            have S31 := Lib.hid (hb.size)
            have B31 := Lib.hid (Below.tr B30.out hb)
            have FE_31 := Lib.hid (FE_30.out.below hb)
            clear FE_30
            have Ff_31 := Lib.hid (own_below Ff_30.out hb)
            clear Ff_30
            have XE_31 := Lib.hid (XE_30.out.below hb)
            clear XE_30
            have Xf_31 := Lib.hid (Xf_30.out.below hb)
            clear Xf_30
            clear hb
            by_cases hlt : j < nf
            · obtain ⟨x, hx⟩ : ∃ x, fs[j]? = some x := ⟨_, List.getElem?_eq_getElem (by rw [FL.out]; exact hlt)⟩
              obtain ⟨bF, oF, hAF, hbF, e0, e1, e2⟩ := (Lib.hid (own_nlies FL.out Ff_31.out)).out j x hx
              have hne : (x.v == (q : Int) + 1) = false := by have := HNO.out x (List.mem_of_getElem? hx); simp [this]
              subst hAF
              clear hx
              obtain ⟨zE0, zE1, zE2, _, _, _, zEl⟩ := blk_cells XE_31.out
              obtain ⟨zf0, zf1, zf2, _, _, _, zfl⟩ := blk_cells Xf_31.out
              go_wp2
              go_roundw
              case rel => exact ⟨j + 1, by omega, by go_num, Below.tr BL0.out (below1 _ _)⟩
              case measure => simp [intOf]; omega
            · obtain rfl : j = nf := by omega
              obtain ⟨zE0, zE1, zE2, _, _, _, zEl⟩ := blk_cells XE_31.out
              obtain ⟨zf0, zf1, zf2, _, _, _, zfl⟩ := blk_cells Xf_31.out
              go_wp2_with fail
              clear zE0 zE1 zE2 zEl
              clear zf0 zf1 zf2 zfl
              refine (implFix_any m fr ((q : Int) + 1) (!so) AE ne cE es _ m gs g2 true HGF FE_31 EL (by omega)).mono ?_
              rintro e w32 ⟨Ag, cg, rfl, ho, hb⟩
              have S32 := Lib.hid (hb.size)
              have B32 := Lib.hid (Below.tr B31.out hb)
              have FE_32 := Lib.hid (FE_31.out.below hb)
              clear FE_31
              have Ff_32 := Lib.hid (own_below Ff_31.out hb)
              clear Ff_31
              have XE_32 := Lib.hid (XE_31.out.below hb)
              clear XE_31
              have Xf_32 := Lib.hid (Xf_31.out.below hb)
              clear Xf_31
              rw [GL.out] at ho ⊢
              have Fg_32 := Lib.hid (ho)
              clear ho hb
              obtain ⟨zE0, zE1, zE2, _, _, _, zEl⟩ := blk_cells XE_32.out
              obtain ⟨zf0, zf1, zf2, _, _, _, zfl⟩ := blk_cells Xf_32.out
              go_wp2_with fail
              clear zE0 zE1 zE2 zEl
              clear zf0 zf1 zf2 zfl
              obtain ⟨w33, hw33⟩ : ∃ W, W = w32.alloc (.cells #[.int .i64 m, .slice Ag ng cg, .int .i64 g2] 28) := ⟨_, rfl⟩
              have hb : Below w32.heap.size w32 w33 := by rw [hw33]; exact below1 _ _
              have hx : Blk w33 w32.heap.size 28 [.int .i64 m, .slice Ag ng cg, .int .i64 g2] := by rw [hw33]; exact heap_alloc_new _ _
              have hsz : w33.heap.size = w32.heap.size + 1 := by rw [hw33]; simp
              rw [← hw33]
              clear hw33
              have S33 := Lib.hid (hb.size)
              have SE33 := Lib.hid hsz
              have B33 := Lib.hid (Below.tr B32.out hb)
              have FE_33 := Lib.hid (FE_32.out.below hb)
              clear FE_32
              have Ff_33 := Lib.hid (own_below Ff_32.out hb)
              clear Ff_32
              have Fg_33 := Lib.hid (own_below Fg_32.out hb)
              clear Fg_32
              have XE_33 := Lib.hid (XE_32.out.below hb)
              clear XE_32
              have Xf_33 := Lib.hid (Xf_32.out.below hb)
              clear Xf_32
              have Xg_33 := Lib.hid hx
              clear hb hx hsz
              refine (implOnes_any m f2 Af j cf fs _ n1 true HO1 (Lib.hid (own_nlies FL.out Ff_33.out)) FL (by omega)).mono ?_
              rintro e w34 ⟨rfl, hb⟩
              have S34 := Lib.hid (hb.size)
              have B34 := Lib.hid (Below.tr B33.out hb)
              have FE_34 := Lib.hid (FE_33.out.below hb)
              clear FE_33
              have Ff_34 := Lib.hid (own_below Ff_33.out hb)
              clear Ff_33
              have Fg_34 := Lib.hid (own_below Fg_33.out hb)
              clear Fg_33
              have XE_34 := Lib.hid (XE_33.out.below hb)
              clear XE_33
              have Xf_34 := Lib.hid (Xf_33.out.below hb)
              clear Xf_33
              have Xg_34 := Lib.hid (Xg_33.out.below hb)
              clear Xg_33
              clear hb
              obtain ⟨zE0, zE1, zE2, _, _, _, zEl⟩ := blk_cells XE_34.out
              obtain ⟨zf0, zf1, zf2, _, _, _, zfl⟩ := blk_cells Xf_34.out
              obtain ⟨zg0, zg1, zg2, _, _, _, zgl⟩ := blk_cells Xg_34.out
              go_wp2_with fail
              clear zE0 zE1 zE2 zEl
              clear zf0 zf1 zf2 zfl
              clear zg0 zg1 zg2 zgl
              refine (implOnes_any m g2 Ag ng cg gs _ n2 true HO2 (Lib.hid (own_nlies GL.out Fg_34.out)) GL (by omega)).mono ?_
              rintro e w35 ⟨rfl, hb⟩
              have S35 := Lib.hid (hb.size)
              have B35 := Lib.hid (Below.tr B34.out hb)
              have FE_35 := Lib.hid (FE_34.out.below hb)
              clear FE_34
              have Ff_35 := Lib.hid (own_below Ff_34.out hb)
              clear Ff_34
              have Fg_35 := Lib.hid (own_below Fg_34.out hb)
              clear Fg_34
              have XE_35 := Lib.hid (XE_34.out.below hb)
              clear XE_34
              have Xf_35 := Lib.hid (Xf_34.out.below hb)
              clear Xf_34
              have Xg_35 := Lib.hid (Xg_34.out.below hb)
              clear Xg_34
              clear hb
              obtain ⟨zE0, zE1, zE2, _, _, _, zEl⟩ := blk_cells XE_35.out
              obtain ⟨zf0, zf1, zf2, _, _, _, zfl⟩ := blk_cells Xf_35.out
              obtain ⟨zg0, zg1, zg2, _, _, _, zgl⟩ := blk_cells Xg_35.out
              go_wp2_with fail
              clear zE0 zE1 zE2 zEl
              clear zf0 zf1 zf2 zfl
              clear zg0 zg1 zg2 zgl
              refine (implOnes_any m fr AE ne cE es _ n3 true HO3 FE_35 EL (by omega)).mono ?_
              rintro e w36 ⟨rfl, hb⟩
              have S36 := Lib.hid (hb.size)
              have B36 := Lib.hid (Below.tr B35.out hb)
              have FE_36 := Lib.hid (FE_35.out.below hb)
              clear FE_35
              have Ff_36 := Lib.hid (own_below Ff_35.out hb)
              clear Ff_35
              have Fg_36 := Lib.hid (own_below Fg_35.out hb)
              clear Fg_35
              have XE_36 := Lib.hid (XE_35.out.below hb)
              clear XE_35
              have Xf_36 := Lib.hid (Xf_35.out.below hb)
              clear Xf_35
              have Xg_36 := Lib.hid (Xg_35.out.below hb)
              clear Xg_35
              clear hb
              go_wp2
              go_ret
              exact ⟨rfl, B36.out⟩
      · have hkc2 : k < c1 := by omega
        obtain ⟨zd0, zd1, zd2, _, _, _, zdl⟩ := blk_cells Xd_9.out
        go_wp2_with fail
        clear zd0 zd1 zd2 zdl
        obtain ⟨w10, hw10⟩ : ∃ W, W = w9.alloc (.cells #[.int .i64 p, .slice Aa na ca, .int .i64 a2] 28) := ⟨_, rfl⟩
        have hb : Below w9.heap.size w9 w10 := by rw [hw10]; exact below1 _ _
        have hx : Blk w10 w9.heap.size 28 [.int .i64 p, .slice Aa na ca, .int .i64 a2] := by rw [hw10]; exact heap_alloc_new _ _
        have hsz : w10.heap.size = w9.heap.size + 1 := by rw [hw10]; simp
        rw [← hw10]
        clear hw10
        have S10 := Lib.hid (hb.size)
        have SE10 := Lib.hid hsz
        have B10 := Lib.hid (Below.tr B9.out hb)
        have FL_10 := Lib.hid (FL_9.out.below hb)
        clear FL_9
        have Fd_10 := Lib.hid (own_below Fd_9.out hb)
        clear Fd_9
        have Fa_10 := Lib.hid (own_below Fa_9.out hb)
        clear Fa_9
        have Xd_10 := Lib.hid (Xd_9.out.below hb)
        clear Xd_9
        have Xa_10 := Lib.hid hx
        clear hb hx hsz
        refine (implBy_any p (some ⟨ga, k, none⟩) (n - k) (c1 - k) (L.drop k) _ p lb b2 true HRB (Lib.hid (FL_10.out.drop k)) HDR (by omega)).mono ?_
        rintro e w11 ⟨Ae, ce, rfl, ho, hb⟩
        have S11 := Lib.hid (hb.size)
        have B11 := Lib.hid (Below.tr B10.out hb)
        have FL_11 := Lib.hid (FL_10.out.below hb)
        clear FL_10
        have Fd_11 := Lib.hid (own_below Fd_10.out hb)
        clear Fd_10
        have Fa_11 := Lib.hid (own_below Fa_10.out hb)
        clear Fa_10
        have Xd_11 := Lib.hid (Xd_10.out.below hb)
        clear Xd_10
        have Xa_11 := Lib.hid (Xa_10.out.below hb)
        clear Xa_10
        rw [BL.out] at ho ⊢
        have Fe_11 := Lib.hid (ho)
        clear ho hb
        obtain ⟨zd0, zd1, zd2, _, _, _, zdl⟩ := blk_cells Xd_11.out
        obtain ⟨za0, za1, za2, _, _, _, zal⟩ := blk_cells Xa_11.out
        go_wp2_with fail
        clear zd0 zd1 zd2 zdl
        clear za0 za1 za2 zal
        obtain ⟨w12, hw12⟩ : ∃ W, W = w11.alloc (.cells #[.int .i64 p, .slice Ae nb ce, .int .i64 b2] 28) := ⟨_, rfl⟩
        have hb : Below w11.heap.size w11 w12 := by rw [hw12]; exact below1 _ _
        have hx : Blk w12 w11.heap.size 28 [.int .i64 p, .slice Ae nb ce, .int .i64 b2] := by rw [hw12]; exact heap_alloc_new _ _
        have hsz : w12.heap.size = w11.heap.size + 1 := by rw [hw12]; simp
        rw [← hw12]
        clear hw12
        have S12 := Lib.hid (hb.size)
        have SE12 := Lib.hid hsz
        have B12 := Lib.hid (Below.tr B11.out hb)
        have FL_12 := Lib.hid (FL_11.out.below hb)
        clear FL_11
        have Fd_12 := Lib.hid (own_below Fd_11.out hb)
        clear Fd_11
        have Fa_12 := Lib.hid (own_below Fa_11.out hb)
        clear Fa_11
        have Fe_12 := Lib.hid (own_below Fe_11.out hb)
        clear Fe_11
        have Xd_12 := Lib.hid (Xd_11.out.below hb)
        clear Xd_11
        have Xa_12 := Lib.hid (Xa_11.out.below hb)
        clear Xa_11
        have Xe_12 := Lib.hid hx
        clear hb hx hsz
        refine (implBoth_any p a2 p b2 Aa Ae na ca nb ce la lb _ p ds d2 true HRC (Lib.hid (own_nlies AL.out Fa_12.out)) AL (by omega) (Lib.hid (own_nlies BL.out Fe_12.out)) BL (by omega)).mono ?_
        rintro e w13 ⟨Ah, ch, rfl, ho, hb⟩
        have S13 := Lib.hid (hb.size)
        have B13 := Lib.hid (Below.tr B12.out hb)
        have FL_13 := Lib.hid (FL_12.out.below hb)
        clear FL_12
        have Fd_13 := Lib.hid (own_below Fd_12.out hb)
        clear Fd_12
        have Fa_13 := Lib.hid (own_below Fa_12.out hb)
        clear Fa_12
        have Fe_13 := Lib.hid (own_below Fe_12.out hb)
        clear Fe_12
        have Xd_13 := Lib.hid (Xd_12.out.below hb)
        clear Xd_12
        have Xa_13 := Lib.hid (Xa_12.out.below hb)
        clear Xa_12
        have Xe_13 := Lib.hid (Xe_12.out.below hb)
        clear Xe_12
        rw [DL.out] at ho ⊢
        have Fh_13 := Lib.hid (ho)
        clear ho hb
        obtain ⟨zd0, zd1, zd2, _, _, _, zdl⟩ := blk_cells Xd_13.out
        obtain ⟨za0, za1, za2, _, _, _, zal⟩ := blk_cells Xa_13.out
        obtain ⟨ze0, ze1, ze2, _, _, _, zel⟩ := blk_cells Xe_13.out
        go_wp2_with fail
        clear zd0 zd1 zd2 zdl
        clear za0 za1 za2 zal
        clear ze0 ze1 ze2 zel
        obtain ⟨w14, hw14⟩ : ∃ W, W = w13.alloc (.cells #[.int .i64 p, .slice Ah z ch, .int .i64 d2] 28) := ⟨_, rfl⟩
        have hb : Below w13.heap.size w13 w14 := by rw [hw14]; exact below1 _ _
        have hx : Blk w14 w13.heap.size 28 [.int .i64 p, .slice Ah z ch, .int .i64 d2] := by rw [hw14]; exact heap_alloc_new _ _
        have hsz : w14.heap.size = w13.heap.size + 1 := by rw [hw14]; simp
        rw [← hw14]
        clear hw14
        have S14 := Lib.hid (hb.size)
        have SE14 := Lib.hid hsz
        have B14 := Lib.hid (Below.tr B13.out hb)
        have FL_14 := Lib.hid (FL_13.out.below hb)
        clear FL_13
        have Fd_14 := Lib.hid (own_below Fd_13.out hb)
        clear Fd_13
        have Fa_14 := Lib.hid (own_below Fa_13.out hb)
        clear Fa_13
        have Fe_14 := Lib.hid (own_below Fe_13.out hb)
        clear Fe_13
        have Fh_14 := Lib.hid (own_below Fh_13.out hb)
        clear Fh_13
        have Xd_14 := Lib.hid (Xd_13.out.below hb)
        clear Xd_13
        have Xa_14 := Lib.hid (Xa_13.out.below hb)
        clear Xa_13
        have Xe_14 := Lib.hid (Xe_13.out.below hb)
        clear Xe_13
        have Xh_14 := Lib.hid hx
        clear hb hx hsz
        refine (sameDg_any p d2 p d2 Ah Ad z z ch cd ds ds _ (Lib.hid (own_nlies DL.out Fh_14.out)) (Lib.hid (own_nlies DL.out Fd_14.out)) DL DL (by omega) (by omega)).mono ?_
        rintro e w15 ⟨rfl, hb⟩
        have S15 := Lib.hid (hb.size)
        have B15 := Lib.hid (Below.tr B14.out hb)
        have FL_15 := Lib.hid (FL_14.out.below hb)
        clear FL_14
        have Fd_15 := Lib.hid (own_below Fd_14.out hb)
        clear Fd_14
        have Fa_15 := Lib.hid (own_below Fa_14.out hb)
        clear Fa_14
        have Fe_15 := Lib.hid (own_below Fe_14.out hb)
        clear Fe_14
        have Fh_15 := Lib.hid (own_below Fh_14.out hb)
        clear Fh_14
        have Xd_15 := Lib.hid (Xd_14.out.below hb)
        clear Xd_14
        have Xa_15 := Lib.hid (Xa_14.out.below hb)
        clear Xa_14
        have Xe_15 := Lib.hid (Xe_14.out.below hb)
        clear Xe_14
        have Xh_15 := Lib.hid (Xh_14.out.below hb)
        clear Xh_14
        rw [dgEq_same]
        clear hb
        go_wp2_with fail
        refine (drawFixV_any a1 len1 cap1 _ (Lib.hid (h1.out.below B15.out))).mono ?_
        rintro e w16 ⟨fa, fr, AE, cE, es, fv, so, rfl, hel, hlE, hb⟩
        have S16 := Lib.hid (hb.size)
        have B16 := Lib.hid (Below.tr B15.out hb)
        obtain ⟨ne, hne⟩ : ∃ n, es.length = n := ⟨_, rfl⟩
        have EL := Lib.hid hne
        rw [hne] at hel ⊢
        clear hne
        have FE_16 := Lib.hid (hlE)
        clear hlE hb
        obtain ⟨⟨⟨f0, fs, f2⟩, fo⟩, hfr⟩ : ∃ x, rFix fa es fr fv so = x := ⟨_, rfl⟩
        have hfl : fs.length ≤ 64 := rFix_len hfr
        have HFR := Lib.hid hfr
        clear hfr
        obtain ⟨nf, hnf⟩ : ∃ n, fs.length = n := ⟨_, rfl⟩
        have FL := Lib.hid hnf
        rw [hnf] at hfl
        clear hnf
        go_wp2_with fail
        obtain ⟨w17, hw17⟩ : ∃ W, W = w16.alloc (.cells #[.int .i64 fa, .slice AE ne cE, .int .i64 fr] 28) := ⟨_, rfl⟩
        have hb : Below w16.heap.size w16 w17 := by rw [hw17]; exact below1 _ _
        have hx : Blk w17 w16.heap.size 28 [.int .i64 fa, .slice AE ne cE, .int .i64 fr] := by rw [hw17]; exact heap_alloc_new _ _
        have hsz : w17.heap.size = w16.heap.size + 1 := by rw [hw17]; simp
        rw [← hw17]
        clear hw17
        have S17 := Lib.hid (hb.size)
        have SE17 := Lib.hid hsz
        have B17 := Lib.hid (Below.tr B16.out hb)
        have FE_17 := Lib.hid (FE_16.out.below hb)
        clear FE_16
        have XE_17 := Lib.hid hx
        clear hb hx hsz
        refine (implFix_any fa fr fv so AE ne cE es _ f0 fs f2 fo HFR FE_17 EL (by omega)).mono ?_
        rintro e w18 ⟨Af, cf, rfl, ho, hb⟩
        have S18 := Lib.hid (hb.size)
        have B18 := Lib.hid (Below.tr B17.out hb)
        have FE_18 := Lib.hid (FE_17.out.below hb)
        clear FE_17
        have XE_18 := Lib.hid (XE_17.out.below hb)
        clear XE_17
        rw [FL.out] at ho ⊢
        have Ff_18 := Lib.hid (ho)
        clear ho hb
        obtain ⟨zE0, zE1, zE2, _, _, _, zEl⟩ := blk_cells XE_18.out
        go_wp2_with fail
        clear zE0 zE1 zE2 zEl
        obtain ⟨w19, hw19⟩ : ∃ W, W = w18.alloc (.cells #[.int .i64 f0, .slice Af nf cf, .int .i64 f2] 28) := ⟨_, rfl⟩
        have hb : Below w18.heap.size w18 w19 := by rw [hw19]; exact below1 _ _
        have hx : Blk w19 w18.heap.size 28 [.int .i64 f0, .slice Af nf cf, .int .i64 f2] := by rw [hw19]; exact heap_alloc_new _ _
        have hsz : w19.heap.size = w18.heap.size + 1 := by rw [hw19]; simp
        rw [← hw19]
        clear hw19
        have S19 := Lib.hid (hb.size)
        have SE19 := Lib.hid hsz
        have B19 := Lib.hid (Below.tr B18.out hb)
        have FE_19 := Lib.hid (FE_18.out.below hb)
        clear FE_18
        have Ff_19 := Lib.hid (own_below Ff_18.out hb)
        clear Ff_18
        have XE_19 := Lib.hid (XE_18.out.below hb)
        clear XE_18
        have Xf_19 := Lib.hid hx
        clear hb hx hsz
        refine (specFix_any fa fr fv so AE ne cE es _ f0 fs f2 fo HFR FE_19 EL (by omega)).mono ?_
        rintro e w20 ⟨Au, cu, rfl, ho, hb⟩
        have S20 := Lib.hid (hb.size)
        have B20 := Lib.hid (Below.tr B19.out hb)
        have FE_20 := Lib.hid (FE_19.out.below hb)
        clear FE_19
        have Ff_20 := Lib.hid (own_below Ff_19.out hb)
        clear Ff_19
        have XE_20 := Lib.hid (XE_19.out.below hb)
        clear XE_19
        have Xf_20 := Lib.hid (Xf_19.out.below hb)
        clear Xf_19
        rw [FL.out] at ho ⊢
        have Fu_20 := Lib.hid (ho)
        clear ho hb
        obtain ⟨zE0, zE1, zE2, _, _, _, zEl⟩ := blk_cells XE_20.out
        obtain ⟨zf0, zf1, zf2, _, _, _, zfl⟩ := blk_cells Xf_20.out
        go_wp2_with fail
        clear zE0 zE1 zE2 zEl
        clear zf0 zf1 zf2 zfl
        obtain ⟨w21, hw21⟩ : ∃ W, W = w20.alloc (.cells #[.int .i64 f0, .slice Au nf cu, .int .i64 f2] 28) := ⟨_, rfl⟩
        have hb : Below w20.heap.size w20 w21 := by rw [hw21]; exact below1 _ _
        have hx : Blk w21 w20.heap.size 28 [.int .i64 f0, .slice Au nf cu, .int .i64 f2] := by rw [hw21]; exact heap_alloc_new _ _
        have hsz : w21.heap.size = w20.heap.size + 1 := by rw [hw21]; simp
        rw [← hw21]
        clear hw21
        have S21 := Lib.hid (hb.size)
        have SE21 := Lib.hid hsz
        have B21 := Lib.hid (Below.tr B20.out hb)
        have FE_21 := Lib.hid (FE_20.out.below hb)
        clear FE_20
        have Ff_21 := Lib.hid (own_below Ff_20.out hb)
        clear Ff_20
        have Fu_21 := Lib.hid (own_below Fu_20.out hb)
        clear Fu_20
        have XE_21 := Lib.hid (XE_20.out.below hb)
        clear XE_20
        have Xf_21 := Lib.hid (Xf_20.out.below hb)
        clear Xf_20
        have Xu_21 := Lib.hid hx
        clear hb hx hsz
        refine (drawBothD_any a1 len1 cap1 _ (Lib.hid (h1.out.below B21.out))).mono ?_
        rintro e w22 ⟨xa, xr, ya, yr, AX, AY, cX, cY, xs, ys, rfl, hxl, hyl, hlX, hlY, hb⟩
        have S22 := Lib.hid (hb.size)
        have B22 := Lib.hid (Below.tr B21.out hb)
        have FE_22 := Lib.hid (FE_21.out.below hb)
        clear FE_21
        have Ff_22 := Lib.hid (own_below Ff_21.out hb)
        clear Ff_21
        have Fu_22 := Lib.hid (own_below Fu_21.out hb)
        clear Fu_21
        have XE_22 := Lib.hid (XE_21.out.below hb)
        clear XE_21
        have Xf_22 := Lib.hid (Xf_21.out.below hb)
        clear Xf_21
        have Xu_22 := Lib.hid (Xu_21.out.below hb)
        clear Xu_21
        obtain ⟨nx, hnx⟩ : ∃ n, xs.length = n := ⟨_, rfl⟩
        have XL := Lib.hid hnx
        obtain ⟨ny, hny⟩ : ∃ n, ys.length = n := ⟨_, rfl⟩
        have YL := Lib.hid hny
        rw [hnx] at hxl ⊢
        rw [hny] at hyl ⊢
        clear hnx hny
        have FX_22 := Lib.hid (hlX)
        have FY_22 := Lib.hid (hlY)
        clear hlX hlY hb
        obtain ⟨⟨⟨t0, ts, t2⟩, to⟩, htr⟩ : ∃ x, rBoth xa xs xr ya ys yr = x := ⟨_, rfl⟩
        have htl : ts.length ≤ 64 := rBoth_len htr
        have HTR := Lib.hid htr
        clear htr
        obtain ⟨nt, hnt⟩ : ∃ n, ts.length = n := ⟨_, rfl⟩
        have TL := Lib.hid hnt
        rw [hnt] at htl
        clear hnt
        obtain ⟨zE0, zE1, zE2, _, _, _, zEl⟩ := blk_cells XE_22.out
        obtain ⟨zf0, zf1, zf2, _, _, _, zfl⟩ := blk_cells Xf_22.out
        obtain ⟨zu0, zu1, zu2, _, _, _, zul⟩ := blk_cells Xu_22.out
        go_wp2_with fail
        clear zE0 zE1 zE2 zEl
        clear zf0 zf1 zf2 zfl
        clear zu0 zu1 zu2 zul
        obtain ⟨w23, hw23⟩ : ∃ W, W = w22.alloc (.cells #[.int .i64 xa, .slice AX nx cX, .int .i64 xr] 28) := ⟨_, rfl⟩
        have hb : Below w22.heap.size w22 w23 := by rw [hw23]; exact below1 _ _
        have hx : Blk w23 w22.heap.size 28 [.int .i64 xa, .slice AX nx cX, .int .i64 xr] := by rw [hw23]; exact heap_alloc_new _ _
        have hsz : w23.heap.size = w22.heap.size + 1 := by rw [hw23]; simp
        rw [← hw23]
        clear hw23
        have S23 := Lib.hid (hb.size)
        have SE23 := Lib.hid hsz
        have B23 := Lib.hid (Below.tr B22.out hb)
        have FE_23 := Lib.hid (FE_22.out.below hb)
        clear FE_22
        have Ff_23 := Lib.hid (own_below Ff_22.out hb)
        clear Ff_22
        have Fu_23 := Lib.hid (own_below Fu_22.out hb)
        clear Fu_22
        have FX_23 := Lib.hid (FX_22.out.below hb)
        clear FX_22
        have FY_23 := Lib.hid (FY_22.out.below hb)
        clear FY_22
        have XE_23 := Lib.hid (XE_22.out.below hb)
        clear XE_22
        have Xf_23 := Lib.hid (Xf_22.out.below hb)
        clear Xf_22
        have Xu_23 := Lib.hid (Xu_22.out.below hb)
        clear Xu_22
        have XX_23 := Lib.hid hx
        clear hb hx hsz
        obtain ⟨w24, hw24⟩ : ∃ W, W = w23.alloc (.cells #[.int .i64 ya, .slice AY ny cY, .int .i64 yr] 28) := ⟨_, rfl⟩
        have hb : Below w23.heap.size w23 w24 := by rw [hw24]; exact below1 _ _
        have hx : Blk w24 w23.heap.size 28 [.int .i64 ya, .slice AY ny cY, .int .i64 yr] := by rw [hw24]; exact heap_alloc_new _ _
        have hsz : w24.heap.size = w23.heap.size + 1 := by rw [hw24]; simp
        rw [← hw24]
        clear hw24
        have S24 := Lib.hid (hb.size)
        have SE24 := Lib.hid hsz
        have B24 := Lib.hid (Below.tr B23.out hb)
        have FE_24 := Lib.hid (FE_23.out.below hb)
        clear FE_23
        have Ff_24 := Lib.hid (own_below Ff_23.out hb)
        clear Ff_23
        have Fu_24 := Lib.hid (own_below Fu_23.out hb)
        clear Fu_23
        have FX_24 := Lib.hid (FX_23.out.below hb)
        clear FX_23
        have FY_24 := Lib.hid (FY_23.out.below hb)
        clear FY_23
        have XE_24 := Lib.hid (XE_23.out.below hb)
        clear XE_23
        have Xf_24 := Lib.hid (Xf_23.out.below hb)
        clear Xf_23
        have Xu_24 := Lib.hid (Xu_23.out.below hb)
        clear Xu_23
        have XX_24 := Lib.hid (XX_23.out.below hb)
        clear XX_23
        rw [SE23.out] at hx
        have XY_24 := Lib.hid hx
        clear hb hx hsz
        refine (implBoth_any xa xr ya yr AX AY nx cX ny cY xs ys _ t0 ts t2 to HTR FX_24 XL (by omega) FY_24 YL (by omega)).mono ?_
        rintro e w25 ⟨Ab, cb, rfl, ho, hb⟩
        have S25 := Lib.hid (hb.size)
        have B25 := Lib.hid (Below.tr B24.out hb)
        have FE_25 := Lib.hid (FE_24.out.below hb)
        clear FE_24
        have Ff_25 := Lib.hid (own_below Ff_24.out hb)
        clear Ff_24
        have Fu_25 := Lib.hid (own_below Fu_24.out hb)
        clear Fu_24
        have FX_25 := Lib.hid (FX_24.out.below hb)
        clear FX_24
        have FY_25 := Lib.hid (FY_24.out.below hb)
        clear FY_24
        have XE_25 := Lib.hid (XE_24.out.below hb)
        clear XE_24
        have Xf_25 := Lib.hid (Xf_24.out.below hb)
        clear Xf_24
        have Xu_25 := Lib.hid (Xu_24.out.below hb)
        clear Xu_24
        have XX_25 := Lib.hid (XX_24.out.below hb)
        clear XX_24
        have XY_25 := Lib.hid (XY_24.out.below hb)
        clear XY_24
        rw [TL.out] at ho ⊢
        have Fb_25 := Lib.hid (ho)
        clear ho hb
        obtain ⟨zE0, zE1, zE2, _, _, _, zEl⟩ := blk_cells XE_25.out
        obtain ⟨zf0, zf1, zf2, _, _, _, zfl⟩ := blk_cells Xf_25.out
        obtain ⟨zu0, zu1, zu2, _, _, _, zul⟩ := blk_cells Xu_25.out
        obtain ⟨zX0, zX1, zX2, _, _, _, zXl⟩ := blk_cells XX_25.out
        obtain ⟨zY0, zY1, zY2, _, _, _, zYl⟩ := blk_cells XY_25.out
        go_wp2_with fail
        clear zE0 zE1 zE2 zEl
        clear zf0 zf1 zf2 zfl
        clear zu0 zu1 zu2 zul
        clear zX0 zX1 zX2 zXl
        clear zY0 zY1 zY2 zYl
        obtain ⟨w26, hw26⟩ : ∃ W, W = w25.alloc (.cells #[.int .i64 t0, .slice Ab nt cb, .int .i64 t2] 28) := ⟨_, rfl⟩
        have hb : Below w25.heap.size w25 w26 := by rw [hw26]; exact below1 _ _
        have hx : Blk w26 w25.heap.size 28 [.int .i64 t0, .slice Ab nt cb, .int .i64 t2] := by rw [hw26]; exact heap_alloc_new _ _
        have hsz : w26.heap.size = w25.heap.size + 1 := by rw [hw26]; simp
        rw [← hw26]
        clear hw26
        have S26 := Lib.hid (hb.size)
        have SE26 := Lib.hid hsz
        have B26 := Lib.hid (Below.tr B25.out hb)
        have FE_26 := Lib.hid (FE_25.out.below hb)
        clear FE_25
        have Ff_26 := Lib.hid (own_below Ff_25.out hb)
        clear Ff_25
        have Fu_26 := Lib.hid (own_below Fu_25.out hb)
        clear Fu_25
        have FX_26 := Lib.hid (FX_25.out.below hb)
        clear FX_25
        have FY_26 := Lib.hid (FY_25.out.below hb)
        clear FY_25
        have Fb_26 := Lib.hid (own_below Fb_25.out hb)
        clear Fb_25
        have XE_26 := Lib.hid (XE_25.out.below hb)
        clear XE_25
        have Xf_26 := Lib.hid (Xf_25.out.below hb)
        clear Xf_25
        have Xu_26 := Lib.hid (Xu_25.out.below hb)
        clear Xu_25
        have XX_26 := Lib.hid (XX_25.out.below hb)
        clear XX_25
        have XY_26 := Lib.hid (XY_25.out.below hb)
        clear XY_25
        have Xb_26 := Lib.hid hx
        clear hb hx hsz
        refine (specBoth_any xa xr ya yr AX AY nx cX ny cY xs ys _ t0 ts t2 to HTR FX_26 XL (by omega) FY_26 YL (by omega)).mono ?_
        rintro e w27 ⟨Ac, cc, rfl, ho, hb⟩
        have S27 := Lib.hid (hb.size)
        have B27 := Lib.hid (Below.tr B26.out hb)
        have FE_27 := Lib.hid (FE_26.out.below hb)
        clear FE_26
        have Ff_27 := Lib.hid (own_below Ff_26.out hb)
        clear Ff_26
        have Fu_27 := Lib.hid (own_below Fu_26.out hb)
        clear Fu_26
        have FX_27 := Lib.hid (FX_26.out.below hb)
        clear FX_26
        have FY_27 := Lib.hid (FY_26.out.below hb)
        clear FY_26
        have Fb_27 := Lib.hid (own_below Fb_26.out hb)
        clear Fb_26
        have XE_27 := Lib.hid (XE_26.out.below hb)
        clear XE_26
        have Xf_27 := Lib.hid (Xf_26.out.below hb)
        clear Xf_26
        have Xu_27 := Lib.hid (Xu_26.out.below hb)
        clear Xu_26
        have XX_27 := Lib.hid (XX_26.out.below hb)
        clear XX_26
        have XY_27 := Lib.hid (XY_26.out.below hb)
        clear XY_26
        have Xb_27 := Lib.hid (Xb_26.out.below hb)
        clear Xb_26
        rw [TL.out] at ho ⊢
        have Fc_27 := Lib.hid (ho)
        clear ho hb
        have hq1 : (fo != fo) = false := by simp
        have hq2 : (to != to) = false := by simp
        obtain ⟨zE0, zE1, zE2, _, _, _, zEl⟩ := blk_cells XE_27.out
        obtain ⟨zf0, zf1, zf2, _, _, _, zfl⟩ := blk_cells Xf_27.out
        obtain ⟨zu0, zu1, zu2, _, _, _, zul⟩ := blk_cells Xu_27.out
        obtain ⟨zX0, zX1, zX2, _, _, _, zXl⟩ := blk_cells XX_27.out
        obtain ⟨zY0, zY1, zY2, _, _, _, zYl⟩ := blk_cells XY_27.out
        obtain ⟨zb0, zb1, zb2, _, _, _, zbl⟩ := blk_cells Xb_27.out
        go_wp2_with fail
        clear zE0 zE1 zE2 zEl
        clear zf0 zf1 zf2 zfl
        clear zu0 zu1 zu2 zul
        clear zX0 zX1 zX2 zXl
        clear zY0 zY1 zY2 zYl
        clear zb0 zb1 zb2 zbl
        obtain ⟨w28, hw28⟩ : ∃ W, W = w27.alloc (.cells #[.int .i64 t0, .slice Ac nt cc, .int .i64 t2] 28) := ⟨_, rfl⟩
        have hb : Below w27.heap.size w27 w28 := by rw [hw28]; exact below1 _ _
        have hx : Blk w28 w27.heap.size 28 [.int .i64 t0, .slice Ac nt cc, .int .i64 t2] := by rw [hw28]; exact heap_alloc_new _ _
        have hsz : w28.heap.size = w27.heap.size + 1 := by rw [hw28]; simp
        rw [← hw28]
        clear hw28
        have S28 := Lib.hid (hb.size)
        have SE28 := Lib.hid hsz
        have B28 := Lib.hid (Below.tr B27.out hb)
        have FE_28 := Lib.hid (FE_27.out.below hb)
        clear FE_27
        have Ff_28 := Lib.hid (own_below Ff_27.out hb)
        clear Ff_27
        have Fu_28 := Lib.hid (own_below Fu_27.out hb)
        clear Fu_27
        have FX_28 := Lib.hid (FX_27.out.below hb)
        clear FX_27
        have FY_28 := Lib.hid (FY_27.out.below hb)
        clear FY_27
        have Fb_28 := Lib.hid (own_below Fb_27.out hb)
        clear Fb_27
        have Fc_28 := Lib.hid (own_below Fc_27.out hb)
        clear Fc_27
        have XE_28 := Lib.hid (XE_27.out.below hb)
        clear XE_27
        have Xf_28 := Lib.hid (Xf_27.out.below hb)
        clear Xf_27
        have Xu_28 := Lib.hid (Xu_27.out.below hb)
        clear Xu_27
        have XX_28 := Lib.hid (XX_27.out.below hb)
        clear XX_27
        have XY_28 := Lib.hid (XY_27.out.below hb)
        clear XY_27
        have Xb_28 := Lib.hid (Xb_27.out.below hb)
        clear Xb_27
        have Xc_28 := Lib.hid hx
        clear hb hx hsz
        refine (sameDg_any f0 f2 f0 f2 Af Au nf nf cf cu fs fs _ (Lib.hid (own_nlies FL.out Ff_28.out)) (Lib.hid (own_nlies FL.out Fu_28.out)) FL FL (by omega) (by omega)).mono ?_
        rintro e w29 ⟨rfl, hb⟩
        have S29 := Lib.hid (hb.size)
        have B29 := Lib.hid (Below.tr B28.out hb)
        have FE_29 := Lib.hid (FE_28.out.below hb)
        clear FE_28
        have Ff_29 := Lib.hid (own_below Ff_28.out hb)
        clear Ff_28
        have Fu_29 := Lib.hid (own_below Fu_28.out hb)
        clear Fu_28
        have FX_29 := Lib.hid (FX_28.out.below hb)
        clear FX_28
        have FY_29 := Lib.hid (FY_28.out.below hb)
        clear FY_28
        have Fb_29 := Lib.hid (own_below Fb_28.out hb)
        clear Fb_28
        have Fc_29 := Lib.hid (own_below Fc_28.out hb)
        clear Fc_28
        have XE_29 := Lib.hid (XE_28.out.below hb)
        clear XE_28
        have Xf_29 := Lib.hid (Xf_28.out.below hb)
        clear Xf_28
        have Xu_29 := Lib.hid (Xu_28.out.below hb)
        clear Xu_28
        have XX_29 := Lib.hid (XX_28.out.below hb)
        clear XX_28
        have XY_29 := Lib.hid (XY_28.out.below hb)
        clear XY_28
        have Xb_29 := Lib.hid (Xb_28.out.below hb)
        clear Xb_28
        have Xc_29 := Lib.hid (Xc_28.out.below hb)
        clear Xc_28
        rw [dgEq_same]
        clear hb
        obtain ⟨zE0, zE1, zE2, _, _, _, zEl⟩ := blk_cells XE_29.out
        obtain ⟨zf0, zf1, zf2, _, _, _, zfl⟩ := blk_cells Xf_29.out
        obtain ⟨zu0, zu1, zu2, _, _, _, zul⟩ := blk_cells Xu_29.out
        obtain ⟨zX0, zX1, zX2, _, _, _, zXl⟩ := blk_cells XX_29.out
        obtain ⟨zY0, zY1, zY2, _, _, _, zYl⟩ := blk_cells XY_29.out
        obtain ⟨zb0, zb1, zb2, _, _, _, zbl⟩ := blk_cells Xb_29.out
        obtain ⟨zc0, zc1, zc2, _, _, _, zcl⟩ := blk_cells Xc_29.out
        go_wp2_with fail
        clear zE0 zE1 zE2 zEl
        clear zf0 zf1 zf2 zfl
        clear zu0 zu1 zu2 zul
        clear zX0 zX1 zX2 zXl
        clear zY0 zY1 zY2 zYl
        clear zb0 zb1 zb2 zbl
        clear zc0 zc1 zc2 zcl
        refine (sameDg_any t0 t2 t0 t2 Ab Ac nt nt cb cc ts ts _ (Lib.hid (own_nlies TL.out Fb_29.out)) (Lib.hid (own_nlies TL.out Fc_29.out)) TL TL (by omega) (by omega)).mono ?_
        rintro e w30 ⟨rfl, hb⟩
        have S30 := Lib.hid (hb.size)
        have B30 := Lib.hid (Below.tr B29.out hb)
        have FE_30 := Lib.hid (FE_29.out.below hb)
        clear FE_29
        have Ff_30 := Lib.hid (own_below Ff_29.out hb)
        clear Ff_29
        have Fu_30 := Lib.hid (own_below Fu_29.out hb)
        clear Fu_29
        have FX_30 := Lib.hid (FX_29.out.below hb)
        clear FX_29
        have FY_30 := Lib.hid (FY_29.out.below hb)
        clear FY_29
        have Fb_30 := Lib.hid (own_below Fb_29.out hb)
        clear Fb_29
        have Fc_30 := Lib.hid (own_below Fc_29.out hb)
        clear Fc_29
        have XE_30 := Lib.hid (XE_29.out.below hb)
        clear XE_29
        have Xf_30 := Lib.hid (Xf_29.out.below hb)
        clear Xf_29
        have Xu_30 := Lib.hid (Xu_29.out.below hb)
        clear Xu_29
        have XX_30 := Lib.hid (XX_29.out.below hb)
        clear XX_29
        have XY_30 := Lib.hid (XY_29.out.below hb)
        clear XY_29
        have Xb_30 := Lib.hid (Xb_29.out.below hb)
        clear Xb_29
        have Xc_30 := Lib.hid (Xc_29.out.below hb)
        clear Xc_29
        rw [dgEq_same]
        clear hb
        cases fo
        · go_wp2
          go_ret
          exact ⟨rfl, B30.out⟩
        · obtain ⟨m, q, hfa, hm6, hfv, hqm, hgd, hf0, hfs, hf2⟩ := rFix_yes HFR.out
          subst hfa hfv hf0
          have HFS := Lib.hid hfs
          have HF2 := Lib.hid hf2
          have HNO : Hid (∀ x ∈ fs, x.v ≠ (q : Int) + 1) := Lib.hid (by rw [hfs]; exact fix_no hm6 hqm)
          have HO1 : Hid (rOnes (m : Int) fs f2 (((fixL m q so (ev es fr)).count true : Nat) : Int) true) := Lib.hid (by rw [hfs, hf2]; exact fix_ones hm6)
          have HGF : Hid (rFix (m : Int) es fr ((q : Int) + 1) (!so) = (((m : Int), (dgm m (fixL m q (!so) (ev es fr))).2, ((dgm m (fixL m q (!so) (ev es fr))).1 : Int)), true)) := Lib.hid (rFix_mk hgd hqm)
          have HO2 := Lib.hid (fix_ones (p := q) (ns := es) (r := fr) (so := !so) hm6)
          have HO3 : Hid (rOnes (m : Int) es fr (((tabL m es fr).count true : Nat) : Int) true) := Lib.hid ⟨hgd.symm, by rw [if_pos rfl, Int.toNat_natCast]⟩
          have HTW : (((fixL m q so (ev es fr)).count true : Nat) : Int) + (((fixL m q (!so) (ev es fr)).count true : Nat) : Int) = 2 * (((tabL m es fr).count true : Nat) : Int) := by have := fix_two (ns := es) (r := fr) hm6 hqm; cases so <;> simp <;> omega
          obtain ⟨n1, hn1⟩ : ∃ c : Int, (((fixL m q so (ev es fr)).count true : Nat) : Int) = c := ⟨_, rfl⟩
          obtain ⟨n2, hn2⟩ : ∃ c : Int, (((fixL m q (!so) (ev es fr)).count true : Nat) : Int) = c := ⟨_, rfl⟩
          obtain ⟨n3, hn3⟩ : ∃ c : Int, (((tabL m es fr).count true : Nat) : Int) = c := ⟨_, rfl⟩
          have hb1 : 0 ≤ n1 ∧ n1 ≤ 64 := by rw [← hn1]; have := List.count_le_length (a := true) (l := fixL m q so (ev es fr)); rw [fixL_len] at this; have := pow_le6 hm6; omega
          have hb2 : 0 ≤ n2 ∧ n2 ≤ 64 := by rw [← hn2]; have := List.count_le_length (a := true) (l := fixL m q (!so) (ev es fr)); rw [fixL_len] at this; have := pow_le6 hm6; omega
          have hb3 : 0 ≤ n3 ∧ n3 ≤ 64 := by rw [← hn3]; have := List.count_le_length (a := true) (l := tabL m es fr); rw [tabL_len] at this; have := pow_le6 hm6; omega
          rw [hn1] at HO1 HTW
          rw [hn2] at HO2 HTW
          rw [hn3] at HO3 HTW
          obtain ⟨gs, hgs⟩ : ∃ x, (dgm m (fixL m q (!so) (ev es fr))).2 = x := ⟨_, rfl⟩
          obtain ⟨g2, hg2⟩ : ∃ x : Int, ((dgm m (fixL m q (!so) (ev es fr))).1 : Int) = x := ⟨_, rfl⟩
          rw [hgs, hg2] at HGF HO2
          have hgl : gs.length ≤ 64 := rFix_len HGF.out
          obtain ⟨ng, hng⟩ : ∃ n, gs.length = n := ⟨_, rfl⟩
          have GL := Lib.hid hng
          rw [hng] at hgl
          have hmz : (0 : Int) ≤ m ∧ (m : Int) ≤ 6 := by omega
          have hq6 : q < 6 := by omega
          clear hfs hf2 hn1 hn2 hn3 hgs hg2 hng hgd hq1 hq2
          have hfin : (n1 + n2 == 2 * n3) = true := by simp; omega
          obtain ⟨zE0, zE1, zE2, _, _, _, zEl⟩ := blk_cells XE_30.out
          obtain ⟨zf0, zf1, zf2, _, _, _, zfl⟩ := blk_cells Xf_30.out
          go_wp2_with fail
          clear zE0 zE1 zE2 zEl
          clear zf0 zf1 zf2 zfl
          obtain ⟨zE0, zE1, zE2, _, _, _, zEl⟩ := blk_cells XE_30.out
          obtain ⟨zf0, zf1, zf2, _, _, _, zfl⟩ := blk_cells Xf_30.out
          go_loopw [207] (fun i wr => ∃ j : Nat, j ≤ nf ∧ i = .int .i64 j ∧ Below w30.heap.size w30 wr) (fun i _ => nf - (intOf i).toNat)
          case atStart => exact ⟨0, Nat.zero_le _, rfl, Below.refl _ _⟩
          case round =>
            clear zE0 zE1 zE2 zEl
            clear zf0 zf1 zf2 zfl
            obtain ⟨j, hj, rfl, hb⟩ := hrel
            obtain ⟨w31, hw31⟩ : ∃ x, x = wr := ⟨_, rfl⟩
            subst hw31
            have BL0 := Lib.hid hb
            have S31 := Lib.hid (hb.size)
            have B31 := Lib.hid (Below.tr B30.out hb)
            have FE_31 := Lib.hid (FE_30.out.below hb)
            clear FE_30
            have Ff_31 := Lib.hid (own_below Ff_30.out hb)
            clear Ff_30
            have XE_31 := Lib.hid (XE_30.out.below hb)
            clear XE_30
            have Xf_31 := Lib.hid (Xf_30.out.below hb)
            clear Xf_30
            clear hb
            by_cases hlt : j < nf
            · obtain ⟨x, hx⟩ : ∃ x, fs[j]? = some x := ⟨_, List.getElem?_eq_getElem (by rw [FL.out]; exact hlt)⟩
              obtain ⟨bF, oF, hAF, hbF, e0, e1, e2⟩ := (Lib.hid (own_nlies FL.out Ff_31.out)).out j x hx
              have hne : (x.v == (q : Int) + 1) = false := by have := HNO.out x (List.mem_of_getElem? hx); simp [this]
              subst hAF
              clear hx
              obtain ⟨zE0, zE1, zE2, _, _, _, zEl⟩ := blk_cells XE_31.out
              obtain ⟨zf0, zf1, zf2, _, _, _, zfl⟩ := blk_cells Xf_31.out
              go_wp2
              go_roundw
              case rel => exact ⟨j + 1, by omega, by go_num, Below.tr BL0.out (below1 _ _)⟩
              case measure => simp [intOf]; omega
            · obtain rfl : j = nf := by omega
              obtain ⟨zE0, zE1, zE2, _, _, _, zEl⟩ := blk_cells XE_31.out
              obtain ⟨zf0, zf1, zf2, _, _, _, zfl⟩ := blk_cells Xf_31.out
              go_wp2_with fail
              clear zE0 zE1 zE2 zEl
              clear zf0 zf1 zf2 zfl
              refine (implFix_any m fr ((q : Int) + 1) (!so) AE ne cE es _ m gs g2 true HGF FE_31 EL (by omega)).mono ?_
              rintro e w32 ⟨Ag, cg, rfl, ho, hb⟩
              have S32 := Lib.hid (hb.size)
              have B32 := Lib.hid (Below.tr B31.out hb)
              have FE_32 := Lib.hid (FE_31.out.below hb)
              clear FE_31
              have Ff_32 := Lib.hid (own_below Ff_31.out hb)
              clear Ff_31
              have XE_32 := Lib.hid (XE_31.out.below hb)
              clear XE_31
              have Xf_32 := Lib.hid (Xf_31.out.below hb)
              clear Xf_31
              rw [GL.out] at ho ⊢
              have Fg_32 := Lib.hid (ho)
              clear ho hb
              obtain ⟨zE0, zE1, zE2, _, _, _, zEl⟩ := blk_cells XE_32.out
              obtain ⟨zf0, zf1, zf2, _, _, _, zfl⟩ := blk_cells Xf_32.out
              go_wp2_with fail
              clear zE0 zE1 zE2 zEl
              clear zf0 zf1 zf2 zfl
              obtain ⟨w33, hw33⟩ : ∃ W, W = w32.alloc (.cells #[.int .i64 m, .slice Ag ng cg, .int .i64 g2] 28) := ⟨_, rfl⟩
              have hb : Below w32.heap.size w32 w33 := by rw [hw33]; exact below1 _ _
              have hx : Blk w33 w32.heap.size 28 [.int .i64 m, .slice Ag ng cg, .int .i64 g2] := by rw [hw33]; exact heap_alloc_new _ _
              have hsz : w33.heap.size = w32.heap.size + 1 := by rw [hw33]; simp
              rw [← hw33]
              clear hw33
              have S33 := Lib.hid (hb.size)
              have SE33 := Lib.hid hsz
              have B33 := Lib.hid (Below.tr B32.out hb)
              have FE_33 := Lib.hid (FE_32.out.below hb)
              clear FE_32
              have Ff_33 := Lib.hid (own_below Ff_32.out hb)
              clear Ff_32
              have Fg_33 := Lib.hid (own_below Fg_32.out hb)
              clear Fg_32
              have XE_33 := Lib.hid (XE_32.out.below hb)
              clear XE_32
              have Xf_33 := Lib.hid (Xf_32.out.below hb)
              clear Xf_32
              have Xg_33 := Lib.hid hx
              clear hb hx hsz
              refine (implOnes_any m f2 Af j cf fs _ n1 true HO1 (Lib.hid (own_nlies FL.out Ff_33.out)) FL (by omega)).mono ?_
              rintro e w34 ⟨rfl, hb⟩
              have S34 := Lib.hid (hb.size)
              have B34 := Lib.hid (Below.tr B33.out hb)
              have FE_34 := Lib.hid (FE_33.out.below hb)
              clear FE_33
              have Ff_34 := Lib.hid (own_below Ff_33.out hb)
              clear Ff_33
              have Fg_34 := Lib.hid (own_below Fg_33.out hb)
              clear Fg_33
              have XE_34 := Lib.hid (XE_33.out.below hb)
              clear XE_33
              have Xf_34 := Lib.hid (Xf_33.out.below hb)
              clear Xf_33
              have Xg_34 := Lib.hid (Xg_33.out.below hb)
              clear Xg_33
              clear hb
              obtain ⟨zE0, zE1, zE2, _, _, _, zEl⟩ := blk_cells XE_34.out
              obtain ⟨zf0, zf1, zf2, _, _, _, zfl⟩ := blk_cells Xf_34.out
              obtain ⟨zg0, zg1, zg2, _, _, _, zgl⟩ := blk_cells Xg_34.out
              go_wp2_with fail
              clear zE0 zE1 zE2 zEl
              clear zf0 zf1 zf2 zfl
              clear zg0 zg1 zg2 zgl
              refine (implOnes_any m g2 Ag ng cg gs _ n2 true HO2 (Lib.hid (own_nlies GL.out Fg_34.out)) GL (by omega)).mono ?_
              rintro e w35 ⟨rfl, hb⟩
              have S35 := Lib.hid (hb.size)
              have B35 := Lib.hid (Below.tr B34.out hb)
              have FE_35 := Lib.hid (FE_34.out.below hb)
              clear FE_34
              have Ff_35 := Lib.hid (own_below Ff_34.out hb)
              clear Ff_34
              have Fg_35 := Lib.hid (own_below Fg_34.out hb)
              clear Fg_34
              have XE_35 := Lib.hid (XE_34.out.below hb)
              clear XE_34
              have Xf_35 := Lib.hid (Xf_34.out.below hb)
              clear Xf_34
              have Xg_35 := Lib.hid (Xg_34.out.below hb)
              clear Xg_34
              clear hb
              obtain ⟨zE0, zE1, zE2, _, _, _, zEl⟩ := blk_cells XE_35.out
              obtain ⟨zf0, zf1, zf2, _, _, _, zfl⟩ := blk_cells Xf_35.out
              obtain ⟨zg0, zg1, zg2, _, _, _, zgl⟩ := blk_cells Xg_35.out
              go_wp2_with fail
              clear zE0 zE1 zE2 zEl
              clear zf0 zf1 zf2 zfl
              clear zg0 zg1 zg2 zgl
              refine (implOnes_any m fr AE ne cE es _ n3 true HO3 FE_35 EL (by omega)).mono ?_
              rintro e w36 ⟨rfl, hb⟩
              have S36 := Lib.hid (hb.size)
              have B36 := Lib.hid (Below.tr B35.out hb)
              have FE_36 := Lib.hid (FE_35.out.below hb)
              clear FE_35
              have Ff_36 := Lib.hid (own_below Ff_35.out hb)
              clear Ff_35
              have Fg_36 := Lib.hid (own_below Fg_35.out hb)
              clear Fg_35
              have XE_36 := Lib.hid (XE_35.out.below hb)
              clear XE_35
              have Xf_36 := Lib.hid (Xf_35.out.below hb)
              clear Xf_35
              have Xg_36 := Lib.hid (Xg_35.out.below hb)
              clear Xg_35
              clear hb
              go_wp2
              go_ret
              exact ⟨rfl, B36.out⟩
end Go.Proofs.Ytklcfbjaodildaa
