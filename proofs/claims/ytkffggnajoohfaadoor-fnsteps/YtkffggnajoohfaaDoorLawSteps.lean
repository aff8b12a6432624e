/-
  The walk of the law FnSteps.
-/
import Derived.Test.YtkffggnajoohfaaDoorStFx
import Derived.Test.YtkffggnajoohfaaDoorRunB
import Derived.Deep.DeepCutAuto
namespace Go.Proofs.YtkffggnajoohfaaDoor
open Go.ChangeShapes Go.WideShapes Go.ChangeAt Go.RowKit

theorem stepD_lensS (g : Bool) (xs : List Stp) (ctx : List Int) (m : Mch) : (stepD g xs ctx m).1.r.length ≤ 16 ∧ (stepD g xs ctx m).1.c.length ≤ 16 ∧ (stepD g xs ctx m).1.s.length ≤ 16 := by
  unfold stepD
  split
  · rename_i h
    simp only [Bool.and_eq_true, decide_eq_true_eq] at h
    have GM := (goodM_iff m).1 h.1.2
    split
    · simp [zeroM]
    · split
      · have := doM_lens GM.r GM.c GM.s (by assumption) ctx
        simp only
        omega
      · simp [zeroM]
  · simp [zeroM]
set_option maxRecDepth 100000 in
set_option maxHeartbeats 64000000 in
theorem lawSteps (a0 : Option Addr) (len0 cap0 : Nat) (a1 : Option Addr) (len1 cap1 : Nat) (w : World) (h0 : Hid (Bytes w a0 len0)) (h1 : Hid (Bytes w a1 len1)) (ht : Op.PowTab w) :
    Calls Tryd.prog 3 #[.slice a0 len0 cap0, .slice a1 len1 cap1] w fun e w' => e = .returned (.bool true) ∧ Below w.heap.size w w' := by
  have HT := Lib.hid ht
  clear ht
  by_cases hbig : (1048576 : Int) < wrap64 ((len0 : Int) + (len1 : Int))
  · go_enter Tryd.func3, Tryd.ntmps3
    go_wp2
    go_ret
    exact ⟨rfl, Below.refl _ _⟩
  have hdec : decide ((1048576 : Int) < wrap64 ((len0 : Int) + (len1 : Int))) = false := decide_eq_false hbig
  clear hbig
  go_enter Tryd.func3, Tryd.ntmps3
  go_wp2_with fail
  refine (drawDo_any a0 len0 cap0 _ h0).mono ?_
  rintro e v1 ⟨xs, ctx, m, A, B, c1, c2, g1, g2, g3, rfl, hx, hl, hlen, hlx, hlc, hlm, hb⟩
  have LX := Lib.hid hlx
  have LC := Lib.hid hlc
  have LM := Lib.hid hlm
  have D1 := Lib.hid hb
  have HCX := Lib.hid hl
  have LE := Lib.hid hlen
  clear hlx hlc hlm hb hl hlen h0
  obtain ⟨g, hg⟩ := good_bool xs
  have HG := Lib.hid hg
  clear hg
  obtain ⟨n, hn⟩ : ∃ n, xs.length = n := ⟨_, rfl⟩
  rw [hn] at hx ⊢
  have HX := Lib.hid hn
  clear hn
  obtain ⟨a, ha⟩ : ∃ q, m.a = q := ⟨_, rfl⟩
  rw [ha]
  have MA := Lib.hid ha
  clear ha
  obtain ⟨Q, hQ⟩ : ∃ q, stepD g xs ctx m = q := ⟨_, rfl⟩
  have HML : Hid (Q.1.r.length ≤ 16 ∧ Q.1.c.length ≤ 16 ∧ Q.1.s.length ≤ 16) := Lib.hid (by rw [← hQ]; exact stepD_lensS g xs ctx m)
  obtain ⟨M, f, en, ok⟩ := Q
  have HQ := Lib.hid hQ
  have SF := Lib.hid (fun h1 h2 => step_facts HG.out HQ.out h1 h2)
  clear hQ
  obtain ⟨gm, hgm⟩ : ∃ q, goodMB m = q := ⟨_, rfl⟩
  have GMB := Lib.hid hgm
  clear hgm
  obtain ⟨da, hda⟩ : ∃ q, M.a = q := ⟨_, rfl⟩
  obtain ⟨m1, hm1⟩ : ∃ q, M.r.length = q := ⟨_, rfl⟩
  obtain ⟨m2, hm2⟩ : ∃ q, M.c.length = q := ⟨_, rfl⟩
  obtain ⟨m3, hm3⟩ : ∃ q, M.s.length = q := ⟨_, rfl⟩
  have NL : Hid (Lens M m1 m2 m3) := Lib.hid ⟨hm1, hm2, hm3⟩
  have hms : m1 ≤ 16 ∧ m2 ≤ 16 ∧ m3 ≤ 16 := by have h := HML.out; simp only at h; rw [hm1, hm2, hm3] at h; exact h
  have NA := Lib.hid hda
  have GDX : Hid (∀ (w : World) e w', GaveD w (M, f, en, ok) e w' → ∃ V1 V2 V3 j1 j2 j3, e = .returned (.tuple #[.agg #[.int .i64 da, .slice V1 m1 j1, .slice V2 m2 j2, .slice V3 m3 j3], .int .i64 f, .bool en, .bool ok]) ∧ MLies w' V1 V2 V3 M ∧ Below w.heap.size w w') := Lib.hid (by
    rintro w e w' ⟨V1, V2, V3, j1, j2, j3, rfl, hr, hb⟩
    simp only [hda, hm1, hm2, hm3] at hr ⊢
    exact ⟨V1, V2, V3, j1, j2, j3, rfl, hr.lies, hb⟩)
  clear hda hm1 hm2 hm3 HML
  have e1 : (ok != ok) = false := by simp
  have e2 : (f != f) = false := by simp
  have e3 : (en != en) = false := by simp
  have e4 : (gm != gm) = false := by simp
  go_wp2_with fail
  have hbx := below1 v1 (.cells #[.int .i64 a, .slice (some ⟨g1, 0, none⟩) 6 6, .slice (some ⟨g2, 0, none⟩) 16 16, .slice (some ⟨g3, 0, none⟩) 16 16] 27)
  have LX := Lib.hid (LX.out.below hbx)
  have LC := Lib.hid (LC.out.below hbx)
  have LM := Lib.hid (LM.out.below hbx)
  have D1 := Lib.hid (Below.tr D1.out hbx)
  have Km := Lib.hid (MBx.new v1 (.int .i64 a) (.slice (some ⟨g1, 0, none⟩) 6 6) (.slice (some ⟨g2, 0, none⟩) 16 16) (.slice (some ⟨g3, 0, none⟩) 16 16))
  clear hbx
  generalize v1.alloc (.cells #[.int .i64 a, .slice (some ⟨g1, 0, none⟩) 6 6, .slice (some ⟨g2, 0, none⟩) 16 16, .slice (some ⟨g3, 0, none⟩) 16 16] 27) = v1u at LX LC LM Km D1 ⊢
  refine (implD_any _ _ _ xs _ _ _ ctx a _ _ _ 6 16 16 _ _ _ m g _ HG LX HX (by omega) LC HCX (by omega) MA LM LE (by omega) (by omega) (by omega) (Lib.hid (powTab_below HT.out D1.out))).mono ?_
  rw [HQ.out]
  intro e v2 hgd
  obtain ⟨V1, V2, V3, j1, j2, j3, rfl, hv, hb⟩ := GDX.out _ _ _ hgd
  have LX := Lib.hid (LX.out.below hb)
  have LC := Lib.hid (LC.out.below hb)
  have LM := Lib.hid (LM.out.below hb)
  have Km := Lib.hid (MBx.below Km.out hb)
  have LV := Lib.hid hv
  have D2 := Lib.hid (Below.tr D1.out hb)
  clear hb hgd hv
  have qm0 := Km.out.c0
  have qm1 := Km.out.c1
  have qm2 := Km.out.c2
  have qm3 := Km.out.c3
  have qml := Km.out.lt
  go_wp2_with fail
  have hbx := below1 v2 (.cells #[.int .i64 da, .slice V1 m1 j1, .slice V2 m2 j2, .slice V3 m3 j3] 27)
  have LX := Lib.hid (LX.out.below hbx)
  have LC := Lib.hid (LC.out.below hbx)
  have LM := Lib.hid (LM.out.below hbx)
  have LV := Lib.hid (LV.out.below hbx)
  have Km := Lib.hid (MBx.below Km.out hbx)
  have D2 := Lib.hid (Below.tr D2.out hbx)
  have Kx := Lib.hid (MBx.new v2 (.int .i64 da) (.slice V1 m1 j1) (.slice V2 m2 j2) (.slice V3 m3 j3))
  clear hbx
  generalize v2.alloc (.cells #[.int .i64 da, .slice V1 m1 j1, .slice V2 m2 j2, .slice V3 m3 j3] 27) = v2u at LX LC LM LV Km Kx D2 ⊢
  refine (specD_any _ _ _ xs _ _ _ ctx a _ _ _ 6 16 16 _ _ _ m g _ HG LX HX (by omega) LC HCX (by omega) MA LM LE (by omega) (by omega) (by omega)).mono ?_
  rw [HQ.out]
  intro e v3 hgd
  obtain ⟨U1, U2, U3, k1, k2, k3, rfl, hu, hb⟩ := GDX.out _ _ _ hgd
  have LX := Lib.hid (LX.out.below hb)
  have LC := Lib.hid (LC.out.below hb)
  have LM := Lib.hid (LM.out.below hb)
  have LV := Lib.hid (LV.out.below hb)
  have Km := Lib.hid (MBx.below Km.out hb)
  have Kx := Lib.hid (MBx.below Kx.out hb)
  have LU := Lib.hid hu
  have D3 := Lib.hid (Below.tr D2.out hb)
  clear hb hgd hu
  have qm0 := Km.out.c0
  have qm1 := Km.out.c1
  have qm2 := Km.out.c2
  have qm3 := Km.out.c3
  have qml := Km.out.lt
  have qx0 := Kx.out.c0
  have qx1 := Kx.out.c1
  have qx2 := Kx.out.c2
  have qx3 := Kx.out.c3
  have qxl := Kx.out.lt
  go_upto_region 6 with fail
  have hbx := below1 v3 (.cells #[.int .i64 da, .slice U1 m1 k1, .slice U2 m2 k2, .slice U3 m3 k3] 27)
  have LX := Lib.hid (LX.out.below hbx)
  have LC := Lib.hid (LC.out.below hbx)
  have LM := Lib.hid (LM.out.below hbx)
  have LV := Lib.hid (LV.out.below hbx)
  have LU := Lib.hid (LU.out.below hbx)
  have Km := Lib.hid (MBx.below Km.out hbx)
  have Kx := Lib.hid (MBx.below Kx.out hbx)
  have D3 := Lib.hid (Below.tr D3.out hbx)
  have Ky := Lib.hid (MBx.new v3 (.int .i64 da) (.slice U1 m1 k1) (.slice U2 m2 k2) (.slice U3 m3 k3))
  clear hbx
  generalize v3.alloc (.cells #[.int .i64 da, .slice U1 m1 k1, .slice U2 m2 k2, .slice U3 m3 k3] 27) = v3u at LX LC LM LV LU Km Kx Ky D3 ⊢
  have Q0 := Lib.hid (Below.refl v3u.heap.size v3u)
  refine wp_region_held_drew (S := fun W => W.cell? ⟨v1.heap.size, 0, none⟩ = some (.int .i64 a) ∧ W.cell? ⟨v1.heap.size, 1, none⟩ = some (.slice (some ⟨g1, 0, none⟩) 6 6) ∧ W.cell? ⟨v1.heap.size, 2, none⟩ = some (.slice (some ⟨g2, 0, none⟩) 16 16) ∧ W.cell? ⟨v1.heap.size, 3, none⟩ = some (.slice (some ⟨g3, 0, none⟩) 16 16) ∧ W.cell? ⟨v2.heap.size, 0, none⟩ = some (.int .i64 da) ∧ W.cell? ⟨v2.heap.size, 1, none⟩ = some (.slice V1 m1 j1) ∧ W.cell? ⟨v2.heap.size, 2, none⟩ = some (.slice V2 m2 j2) ∧ W.cell? ⟨v2.heap.size, 3, none⟩ = some (.slice V3 m3 j3) ∧ W.cell? ⟨v3.heap.size, 0, none⟩ = some (.int .i64 da) ∧ W.cell? ⟨v3.heap.size, 1, none⟩ = some (.slice U1 m1 k1) ∧ W.cell? ⟨v3.heap.size, 2, none⟩ = some (.slice U2 m2 k2) ∧ W.cell? ⟨v3.heap.size, 3, none⟩ = some (.slice U3 m3 k3)) (by kernel_rfl) ?_ (fun hHeld => ?_)
  · exact ⟨(MBx.below Km.out Q0.out).c0, (MBx.below Km.out Q0.out).c1, (MBx.below Km.out Q0.out).c2, (MBx.below Km.out Q0.out).c3, (MBx.below Kx.out Q0.out).c0, (MBx.below Kx.out Q0.out).c1, (MBx.below Kx.out Q0.out).c2, (MBx.below Kx.out Q0.out).c3, (MBx.below Ky.out Q0.out).c0, (MBx.below Ky.out Q0.out).c1, (MBx.below Ky.out Q0.out).c2, (MBx.below Ky.out Q0.out).c3⟩
  refine wpAnyH_take (i := 0) (v := ?_) rfl (by kernel_rfl) (by kernel_rfl) (by kernel_rfl) (fun _ _ _ h => h) (Or.inl ⟨by rfl, ?_⟩) (by assumption) ?_
  rotate_left
  · intro W hSw
    try dsimp only at hSw
    go_simp
    try with_reducible rfl
  refine wpAnyH_take (i := 1) (v := ?_) rfl (by kernel_rfl) (by kernel_rfl) (by kernel_rfl) (fun _ _ _ h => h) (Or.inl ⟨by rfl, ?_⟩) (by assumption) ?_
  rotate_left
  · intro W hSw
    try dsimp only at hSw
    go_simp
    try with_reducible rfl
  refine wpAnyH_take (i := 2) (v := ?_) rfl (by kernel_rfl) (by kernel_rfl) (by kernel_rfl) (fun _ _ _ h => h) (Or.inl ⟨by rfl, ?_⟩) (by assumption) ?_
  rotate_left
  · intro W hSw
    try dsimp only at hSw
    go_simp
    try with_reducible rfl
  refine wpAnyH_take (i := 3) (v := ?_) rfl (by kernel_rfl) (by kernel_rfl) (by kernel_rfl) (fun _ _ _ h => h) (Or.inl ⟨by rfl, ?_⟩) (by assumption) ?_
  rotate_left
  · intro W hSw
    try dsimp only at hSw
    go_simp
    try with_reducible rfl
  refine wpAnyH_take (i := 4) (v := ?_) rfl (by kernel_rfl) (by kernel_rfl) (by kernel_rfl) (fun _ _ _ h => h) (Or.inl ⟨by kernel_rfl, ?_⟩) (by assumption) ?_
  rotate_left
  · intro W hSw
    try dsimp only at hSw
    go_simp
    try with_reducible rfl
  refine wpAnyH_take (i := 5) (v := ?_) rfl (by kernel_rfl) (by kernel_rfl) (by kernel_rfl) (fun _ _ _ h => h) (Or.inl ⟨by kernel_rfl, ?_⟩) (by assumption) ?_
  rotate_left
  · intro W hSw
    try dsimp only at hSw
    go_simp
    try with_reducible rfl
  refine wpAnyH_take (i := 6) (v := ?_) rfl (by kernel_rfl) (by kernel_rfl) (by kernel_rfl) (fun _ _ _ h => h) (Or.inl ⟨by kernel_rfl, ?_⟩) (by assumption) ?_
  rotate_left
  · intro W hSw
    try dsimp only at hSw
    go_simp
    try with_reducible rfl
  refine wpAnyH_take (i := 7) (v := ?_) rfl (by kernel_rfl) (by kernel_rfl) (by kernel_rfl) (fun _ _ _ h => h) (Or.inl ⟨by rfl, ?_⟩) (by assumption) ?_
  rotate_left
  · intro W hSw
    try dsimp only at hSw
    go_simp
    try with_reducible rfl
  refine wpAnyH_take (i := 8) (v := ?_) rfl (by kernel_rfl) (by kernel_rfl) (by kernel_rfl) (fun _ _ _ h => h) (Or.inl ⟨by rfl, ?_⟩) (by assumption) ?_
  rotate_left
  · intro W hSw
    try dsimp only at hSw
    go_simp
    try with_reducible rfl
  refine wpAnyH_take (i := 9) (v := ?_) rfl (by kernel_rfl) (by kernel_rfl) (by kernel_rfl) (fun _ _ _ h => h) (Or.inl ⟨by kernel_rfl, ?_⟩) (by assumption) ?_
  rotate_left
  · intro W hSw
    try dsimp only at hSw
    go_simp
    try with_reducible rfl
  refine wpAnyH_take (i := 10) (v := ?_) rfl (by kernel_rfl) (by kernel_rfl) (by kernel_rfl) (fun _ _ _ h => h) (Or.inl ⟨by kernel_rfl, ?_⟩) (by assumption) ?_
  rotate_left
  · intro W hSw
    try dsimp only at hSw
    go_simp
    try with_reducible rfl
  refine wpAnyH_take (i := 11) (v := ?_) rfl (by kernel_rfl) (by kernel_rfl) (by kernel_rfl) (fun _ _ _ h => h) (Or.inl ⟨by kernel_rfl, ?_⟩) (by assumption) ?_
  rotate_left
  · intro W hSw
    try dsimp only at hSw
    go_simp
    try with_reducible rfl
  refine wpAnyH_take (i := 12) (v := ?_) rfl (by kernel_rfl) (by kernel_rfl) (by kernel_rfl) (fun _ _ _ h => h) (Or.inl ⟨by rfl, ?_⟩) (by assumption) ?_
  rotate_left
  · intro W hSw
    try dsimp only at hSw
    go_simp
    try with_reducible rfl
  refine wpAnyH_take (i := 13) (v := ?_) rfl (by kernel_rfl) (by kernel_rfl) (by kernel_rfl) (fun _ _ _ h => h) (Or.inl ⟨by rfl, ?_⟩) (by assumption) ?_
  rotate_left
  · intro W hSw
    try dsimp only at hSw
    go_simp
    try with_reducible rfl
  refine wpAnyH_take (i := 14) (v := ?_) rfl (by kernel_rfl) (by kernel_rfl) (by kernel_rfl) (fun _ _ _ h => h) (Or.inl ⟨by kernel_rfl, ?_⟩) (by assumption) ?_
  rotate_left
  · intro W hSw
    try dsimp only at hSw
    go_simp
    try with_reducible rfl
  refine wpAnyH_take (i := 15) (v := ?_) rfl (by kernel_rfl) (by kernel_rfl) (by kernel_rfl) (fun _ _ _ h => h) (Or.inl ⟨by kernel_rfl, ?_⟩) (by assumption) ?_
  rotate_left
  · intro W hSw
    try dsimp only at hSw
    go_simp
    try with_reducible rfl
  refine wpAnyH_ready (rs := [16]) (by kernel_rfl) (by simp) ?_
  refine AllReadyH.cons rfl (fun K hK => ?_) AllReadyH.nil
  rw [if_pos (by kernel_rfl)]
  go_simp
  refine (sameMach_same da _ _ _ _ _ _ m1 m2 m3 _ _ _ _ _ _ M _ (Lib.hid (LV.out.below (Below.drew Q0.out))) (Lib.hid (LU.out.below (Below.drew Q0.out))) NL (by omega) (by omega) (by omega)).mono ?_
  rintro e y1 ⟨rfl, hb⟩
  have Y1 := Lib.hid (Below.tr (Below.drew Q0.out) hb)
  have Y1z := Y1.out.size
  clear hb
  refine hK.out _ _ ⟨(MBx.below Km.out Y1.out).c0, (MBx.below Km.out Y1.out).c1, (MBx.below Km.out Y1.out).c2, (MBx.below Km.out Y1.out).c3, (MBx.below Kx.out Y1.out).c0, (MBx.below Kx.out Y1.out).c1, (MBx.below Kx.out Y1.out).c2, (MBx.below Kx.out Y1.out).c3, (MBx.below Ky.out Y1.out).c0, (MBx.below Ky.out Y1.out).c1, (MBx.below Ky.out Y1.out).c2, (MBx.below Ky.out Y1.out).c3⟩ (fun hHeld2 => ?_)
  clear hK K
  refine wpAnyH_take (i := 17) (v := ?_) rfl (by kernel_rfl) (by kernel_rfl) (by kernel_rfl) (fun _ _ _ h => h) (Or.inl ⟨by kernel_rfl, ?_⟩) (by assumption) ?_
  rotate_left
  · intro W hSw
    try dsimp only at hSw
    go_simp
    try with_reducible rfl
  refine wpAnyH_take (i := 18) (v := ?_) rfl (by kernel_rfl) (by kernel_rfl) (by kernel_rfl) (fun _ _ _ h => h) (Or.inl ⟨by rfl, ?_⟩) (by assumption) ?_
  rotate_left
  · intro W hSw
    try dsimp only at hSw
    go_simp
    try with_reducible rfl
  refine wpAnyH_take (i := 19) (v := ?_) rfl (by kernel_rfl) (by kernel_rfl) (by kernel_rfl) (fun _ _ _ h => h) (Or.inl ⟨by rfl, ?_⟩) (by assumption) ?_
  rotate_left
  · intro W hSw
    try dsimp only at hSw
    go_simp
    try with_reducible rfl
  refine wpAnyH_take (i := 20) (v := ?_) rfl (by kernel_rfl) (by kernel_rfl) (by kernel_rfl) (fun _ _ _ h => h) (Or.inl ⟨by kernel_rfl, ?_⟩) (by assumption) ?_
  rotate_left
  · intro W hSw
    try dsimp only at hSw
    go_simp
    try with_reducible rfl
  refine wpAnyH_take (i := 22) (v := ?_) rfl (by kernel_rfl) (by kernel_rfl) (by kernel_rfl) (fun _ _ _ h => h) (Or.inl ⟨by kernel_rfl, ?_⟩) (by assumption) ?_
  rotate_left
  · intro W hSw
    try dsimp only at hSw
    go_simp
    try with_reducible rfl
  refine wpAnyH_ready (rs := [21]) (by kernel_rfl) (by simp) ?_
  refine AllReadyH.cons rfl (fun K hK => ?_) AllReadyH.nil
  rw [if_pos (by kernel_rfl)]
  go_simp
  refine (implGoodM_any a _ _ _ 6 16 16 _ _ _ m _ MA.out (Lib.hid (LM.out.below Y1.out)) LE (by omega) (by omega) (by omega)).mono ?_
  rw [GMB.out]
  rintro e y2 ⟨rfl, hb⟩
  have Y2 := Lib.hid (Below.tr Y1.out hb)
  have Y2z := Y2.out.size
  clear hb
  refine hK.out _ _ ⟨(MBx.below Km.out Y2.out).c0, (MBx.below Km.out Y2.out).c1, (MBx.below Km.out Y2.out).c2, (MBx.below Km.out Y2.out).c3, (MBx.below Kx.out Y2.out).c0, (MBx.below Kx.out Y2.out).c1, (MBx.below Kx.out Y2.out).c2, (MBx.below Kx.out Y2.out).c3, (MBx.below Ky.out Y2.out).c0, (MBx.below Ky.out Y2.out).c1, (MBx.below Ky.out Y2.out).c2, (MBx.below Ky.out Y2.out).c3⟩ (fun hHeld2 => ?_)
  clear hK K
  refine wpAnyH_ready (rs := [23]) (by kernel_rfl) (by simp) ?_
  refine AllReadyH.cons rfl (fun K hK => ?_) AllReadyH.nil
  rw [if_pos (by kernel_rfl)]
  go_simp
  refine (specGoodM_any a _ _ _ 6 16 16 _ _ _ m _ MA.out (Lib.hid (LM.out.below Y2.out)) LE (by omega) (by omega) (by omega)).mono ?_
  rw [GMB.out]
  rintro e y3 ⟨rfl, hb⟩
  have Y3 := Lib.hid (Below.tr Y2.out hb)
  have Y3z := Y3.out.size
  clear hb
  refine hK.out _ _ ⟨(MBx.below Km.out Y3.out).c0, (MBx.below Km.out Y3.out).c1, (MBx.below Km.out Y3.out).c2, (MBx.below Km.out Y3.out).c3, (MBx.below Kx.out Y3.out).c0, (MBx.below Kx.out Y3.out).c1, (MBx.below Kx.out Y3.out).c2, (MBx.below Kx.out Y3.out).c3, (MBx.below Ky.out Y3.out).c0, (MBx.below Ky.out Y3.out).c1, (MBx.below Ky.out Y3.out).c2, (MBx.below Ky.out Y3.out).c3⟩ (fun hHeld2 => ?_)
  clear hK K
  refine wpAnyH_take (i := 24) (v := ?_) rfl (by kernel_rfl) (by kernel_rfl) (by kernel_rfl) (fun _ _ _ h => h) (Or.inl ⟨by kernel_rfl, ?_⟩) (by assumption) ?_
  rotate_left
  · intro W hSw
    try dsimp only at hSw
    go_simp
    try with_reducible rfl
  refine wpAnyH_take (i := 25) (v := ?_) rfl (by kernel_rfl) (by kernel_rfl) (by kernel_rfl) (fun _ _ _ h => h) (Or.inl ⟨by rfl, ?_⟩) (by assumption) ?_
  rotate_left
  · intro W hSw
    try dsimp only at hSw
    go_simp
    try with_reducible rfl
  refine wpAnyH_done (by kernel_rfl) ?_ _
  have LX := Lib.hid (LX.out.below Y3.out)
  have LC := Lib.hid (LC.out.below Y3.out)
  have LM := Lib.hid (LM.out.below Y3.out)
  have LV := Lib.hid (LV.out.below Y3.out)
  have LU := Lib.hid (LU.out.below Y3.out)
  have Km := Lib.hid (MBx.below Km.out Y3.out)
  have Kx := Lib.hid (MBx.below Kx.out Y3.out)
  have Ky := Lib.hid (MBx.below Ky.out Y3.out)
  have D4 := Lib.hid (Below.tr D3.out Y3.out)
  have qm0 := Km.out.c0
  have qm1 := Km.out.c1
  have qm2 := Km.out.c2
  have qm3 := Km.out.c3
  have qml := Km.out.lt
  have qx0 := Kx.out.c0
  have qx1 := Kx.out.c1
  have qx2 := Kx.out.c2
  have qx3 := Kx.out.c3
  have qxl := Kx.out.lt
  cases ok
  · go_wp2_with fail
    refine (drawFree_any a1 len1 cap1 _ (Lib.hid (h1.out.below D4.out))).mono ?_
    rintro e t1 ⟨ys, cy, Ay, By, d1, d2, rfl, hxy, hly, hlyx, hlyc, hb⟩
    have LY := Lib.hid hlyx
    have CY := Lib.hid hlyc
    have E1 := Lib.hid (Below.tr D4.out hb)
    have HCY := Lib.hid hly
    clear hlyx hlyc hb hly
    obtain ⟨gy, hgy⟩ := good_bool ys
    have HGY := Lib.hid hgy
    clear hgy
    obtain ⟨ny, hny⟩ : ∃ n, ys.length = n := ⟨_, rfl⟩
    rw [hny] at hxy ⊢
    have HXY := Lib.hid hny
    clear hny
    obtain ⟨z1, hz1⟩ : ∃ q, ((runR gy ys cy 100).2 && (runR gy ys cy 100).1.2.1 == 0) = q := ⟨_, rfl⟩
    obtain ⟨z2, hz2⟩ : ∃ q, (runR gy ys cy 100).2 = q := ⟨_, rfl⟩
    have HZ1 := Lib.hid hz1
    have HZ2 := Lib.hid hz2
    clear hz1 hz2
    have ez1 : (z1 == z1) = true := by simp
    have ez2 : (z2 == z2) = true := by simp
    go_wp2_with fail
    refine (implFree_any _ _ _ ys _ _ _ cy gy _ HGY LY HXY (by omega) CY HCY (by omega) (Lib.hid (powTab_below HT.out E1.out))).mono ?_
    rw [HZ1.out, HZ2.out]
    rintro e t2 ⟨rfl, hb⟩
    have LY2 := Lib.hid (LY.out.below hb)
    have CY2 := Lib.hid (CY.out.below hb)
    have E2 := Lib.hid (Below.tr E1.out hb)
    clear hb
    go_wp2_with fail
    refine (specFree_any _ _ _ ys _ _ _ cy gy _ HGY LY2 HXY (by omega) CY2 HCY (by omega)).mono ?_
    rw [HZ1.out, HZ2.out]
    rintro e t3 ⟨rfl, hb⟩
    have E3 := Lib.hid (Below.tr E2.out hb)
    clear hb
    go_wp2_with fail
    refine (implNewM_any _).mono ?_
    rintro e t4 ⟨n1, n2, n3, rfl, hm, -, hb⟩
    have N4 := Lib.hid hm.lies
    have E4 := Lib.hid (Below.tr E3.out hb)
    clear hm hb
    go_upto_region 29 with fail
    have hbx := below1 t4 (.cells #[.int .i64 0, .slice (some ⟨n1, 0, none⟩) 6 6, .slice (some ⟨n2, 0, none⟩) 16 16, .slice (some ⟨n3, 0, none⟩) 16 16] 27)
    have N5 := Lib.hid (N4.out.below hbx)
    have E5 := Lib.hid (Below.tr E4.out hbx)
    have KN := Lib.hid (MBx.new t4 (.int .i64 0) (.slice (some ⟨n1, 0, none⟩) 6 6) (.slice (some ⟨n2, 0, none⟩) 16 16) (.slice (some ⟨n3, 0, none⟩) 16 16))
    clear hbx
    generalize t4.alloc (.cells #[.int .i64 0, .slice (some ⟨n1, 0, none⟩) 6 6, .slice (some ⟨n2, 0, none⟩) 16 16, .slice (some ⟨n3, 0, none⟩) 16 16] 27) = t5 at N5 E5 KN ⊢
    have P0 := Lib.hid (Below.refl t5.heap.size t5)
    have gn : goodMB newM = true := (goodM_iff newM).2 newM_good
    have HGN := Lib.hid gn
    clear gn
    refine wp_region_held_drew (S := fun W => W.cell? ⟨t4.heap.size, 0, none⟩ = some (.int .i64 0) ∧ W.cell? ⟨t4.heap.size, 1, none⟩ = some (.slice (some ⟨n1, 0, none⟩) 6 6) ∧ W.cell? ⟨t4.heap.size, 2, none⟩ = some (.slice (some ⟨n2, 0, none⟩) 16 16) ∧ W.cell? ⟨t4.heap.size, 3, none⟩ = some (.slice (some ⟨n3, 0, none⟩) 16 16)) (by kernel_rfl) ?_ (fun hHeld => ?_)
    · exact ⟨(MBx.below KN.out P0.out).c0, (MBx.below KN.out P0.out).c1, (MBx.below KN.out P0.out).c2, (MBx.below KN.out P0.out).c3⟩
    refine wpAnyH_take (i := 0) (v := ?_) rfl (by kernel_rfl) (by kernel_rfl) (by kernel_rfl) (fun _ _ _ h => h) (Or.inl ⟨by rfl, ?_⟩) (by assumption) ?_
    rotate_left
    · intro W hSw
      try dsimp only at hSw
      go_simp
      try with_reducible rfl
    refine wpAnyH_take (i := 1) (v := ?_) rfl (by kernel_rfl) (by kernel_rfl) (by kernel_rfl) (fun _ _ _ h => h) (Or.inl ⟨by rfl, ?_⟩) (by assumption) ?_
    rotate_left
    · intro W hSw
      try dsimp only at hSw
      go_simp
      try with_reducible rfl
    refine wpAnyH_take (i := 2) (v := ?_) rfl (by kernel_rfl) (by kernel_rfl) (by kernel_rfl) (fun _ _ _ h => h) (Or.inl ⟨by rfl, ?_⟩) (by assumption) ?_
    rotate_left
    · intro W hSw
      try dsimp only at hSw
      go_simp
      try with_reducible rfl
    refine wpAnyH_take (i := 3) (v := ?_) rfl (by kernel_rfl) (by kernel_rfl) (by kernel_rfl) (fun _ _ _ h => h) (Or.inl ⟨by rfl, ?_⟩) (by assumption) ?_
    rotate_left
    · intro W hSw
      try dsimp only at hSw
      go_simp
      try with_reducible rfl
    refine wpAnyH_take (i := 4) (v := ?_) rfl (by kernel_rfl) (by kernel_rfl) (by kernel_rfl) (fun _ _ _ h => h) (Or.inl ⟨by kernel_rfl, ?_⟩) (by assumption) ?_
    rotate_left
    · intro W hSw
      try dsimp only at hSw
      go_simp
      try with_reducible rfl
    refine wpAnyH_take (i := 5) (v := ?_) rfl (by kernel_rfl) (by kernel_rfl) (by kernel_rfl) (fun _ _ _ h => h) (Or.inl ⟨by kernel_rfl, ?_⟩) (by assumption) ?_
    rotate_left
    · intro W hSw
      try dsimp only at hSw
      go_simp
      try with_reducible rfl
    refine wpAnyH_take (i := 6) (v := ?_) rfl (by kernel_rfl) (by kernel_rfl) (by kernel_rfl) (fun _ _ _ h => h) (Or.inl ⟨by kernel_rfl, ?_⟩) (by assumption) ?_
    rotate_left
    · intro W hSw
      try dsimp only at hSw
      go_simp
      try with_reducible rfl
    refine wpAnyH_take (i := 7) (v := ?_) rfl (by kernel_rfl) (by kernel_rfl) (by kernel_rfl) (fun _ _ _ h => h) (Or.inl ⟨by rfl, ?_⟩) (by assumption) ?_
    rotate_left
    · intro W hSw
      try dsimp only at hSw
      go_simp
      try with_reducible rfl
    refine wpAnyH_take (i := 8) (v := ?_) rfl (by kernel_rfl) (by kernel_rfl) (by kernel_rfl) (fun _ _ _ h => h) (Or.inl ⟨by rfl, ?_⟩) (by assumption) ?_
    rotate_left
    · intro W hSw
      try dsimp only at hSw
      go_simp
      try with_reducible rfl
    refine wpAnyH_take (i := 9) (v := ?_) rfl (by kernel_rfl) (by kernel_rfl) (by kernel_rfl) (fun _ _ _ h => h) (Or.inl ⟨by kernel_rfl, ?_⟩) (by assumption) ?_
    rotate_left
    · intro W hSw
      try dsimp only at hSw
      go_simp
      try with_reducible rfl
    refine wpAnyH_ready (rs := [10]) (by kernel_rfl) (by simp) ?_
    refine AllReadyH.cons rfl (fun K hK => ?_) AllReadyH.nil
    rw [if_pos (by kernel_rfl)]
    go_simp
    refine (implGoodM_any 0 _ _ _ 6 16 16 _ _ _ newM _ rfl (Lib.hid (N5.out.below (Below.drew P0.out))) (Lib.hid ⟨rfl, rfl, rfl⟩) (by omega) (by omega) (by omega)).mono ?_
    rw [HGN.out]
    rintro e r1 ⟨rfl, hb⟩
    have R1 := Lib.hid (Below.tr (Below.drew P0.out) hb)
    have R1z := R1.out.size
    clear hb
    refine hK.out _ _ ⟨(MBx.below KN.out R1.out).c0, (MBx.below KN.out R1.out).c1, (MBx.below KN.out R1.out).c2, (MBx.below KN.out R1.out).c3⟩ (fun hHeld2 => ?_)
    clear hK K
    refine wpAnyH_take (i := 11) (v := ?_) rfl (by kernel_rfl) (by kernel_rfl) (by kernel_rfl) (fun _ _ _ h => h) (Or.inl ⟨by rfl, ?_⟩) (by assumption) ?_
    rotate_left
    · intro W hSw
      try dsimp only at hSw
      go_simp
      try with_reducible rfl
    refine wpAnyH_take (i := 12) (v := ?_) rfl (by kernel_rfl) (by kernel_rfl) (by kernel_rfl) (fun _ _ _ h => h) (Or.inl ⟨by rfl, ?_⟩) (by assumption) ?_
    rotate_left
    · intro W hSw
      try dsimp only at hSw
      go_simp
      try with_reducible rfl
    refine wpAnyH_take (i := 13) (v := ?_) rfl (by kernel_rfl) (by kernel_rfl) (by kernel_rfl) (fun _ _ _ h => h) (Or.inl ⟨by kernel_rfl, ?_⟩) (by assumption) ?_
    rotate_left
    · intro W hSw
      try dsimp only at hSw
      go_simp
      try with_reducible rfl
    refine wpAnyH_ready (rs := [14]) (by kernel_rfl) (by simp) ?_
    refine AllReadyH.cons rfl (fun K hK => ?_) AllReadyH.nil
    rw [if_pos (by kernel_rfl)]
    go_simp
    refine (specNewM_any _).mono ?_
    rintro e r2 ⟨q1, q2, q3, rfl, hnm, -, hb⟩
    have R2 := Lib.hid (Below.tr R1.out hb)
    have R2z := R2.out.size
    have NW := Lib.hid hnm.lies
    clear hnm
    clear hb
    refine hK.out _ _ ⟨(MBx.below KN.out R2.out).c0, (MBx.below KN.out R2.out).c1, (MBx.below KN.out R2.out).c2, (MBx.below KN.out R2.out).c3⟩ (fun hHeld2 => ?_)
    clear hK K
    refine wpAnyH_ready (rs := [15]) (by kernel_rfl) (by simp) ?_
    refine AllReadyH.cons rfl (fun K hK => ?_) AllReadyH.nil
    rw [if_pos (by kernel_rfl)]
    go_simp
    refine (sameMach_same 0 _ _ _ _ _ _ 6 16 16 _ _ _ _ _ _ newM _ (Lib.hid (N5.out.below R2.out)) NW (Lib.hid ⟨rfl, rfl, rfl⟩) (by omega) (by omega) (by omega)).mono ?_
    rintro e r3 ⟨rfl, hb⟩
    have R3 := Lib.hid (Below.tr R2.out hb)
    have R3z := R3.out.size
    clear hb
    refine hK.out _ _ ⟨(MBx.below KN.out R3.out).c0, (MBx.below KN.out R3.out).c1, (MBx.below KN.out R3.out).c2, (MBx.below KN.out R3.out).c3⟩ (fun hHeld2 => ?_)
    clear hK K
    refine wpAnyH_take (i := 16) (v := ?_) rfl (by kernel_rfl) (by kernel_rfl) (by kernel_rfl) (fun _ _ _ h => h) (Or.inl ⟨by rfl, ?_⟩) (by assumption) ?_
    rotate_left
    · intro W hSw
      try dsimp only at hSw
      go_simp
      try with_reducible rfl
    refine wpAnyH_ready (rs := [17]) (by kernel_rfl) (by simp) ?_
    refine AllReadyH.cons rfl (fun K hK => ?_) AllReadyH.nil
    go_simp
    refine hK.out _ _ ⟨(MBx.below KN.out R3.out).c0, (MBx.below KN.out R3.out).c1, (MBx.below KN.out R3.out).c2, (MBx.below KN.out R3.out).c3⟩ (fun hHeld2 => ?_)
    clear hK K
    refine wpAnyH_done (by kernel_rfl) ?_ _
    go_wp2
    go_ret
    exact ⟨rfl, Below.tr E5.out R3.out⟩
  · by_cases hf : f = 0
    · subst hf
      obtain ⟨x, at_, hma, hlt, hxx, GX, hgm, hgM, hen, hnext, r1, r2, r3, s1, s2, s3, hd0, hi0, hregs, hcells⟩ := SF.out (by first | rfl | trivial) (by first | rfl | trivial)
      obtain rfl : a = at_ := by rw [← MA.out, hma]
      obtain rfl : m1 = 6 := by rw [← NL.out.1]; exact r1
      obtain rfl : m2 = 16 := by rw [← NL.out.2.1]; exact r2
      obtain rfl : m3 = 16 := by rw [← NL.out.2.2]; exact r3
      have hat : at_ < n := by have := HX.out; omega
      obtain ⟨b5, off5, hA5, hbl5, ha5⟩ := LX.out at_ x hxx
      subst hA5
      obtain ⟨p0, p1, p2, p3, p4, p5⟩ := ha5
      have GXX := Lib.hid GX
      have HXX := Lib.hid hxx
      have HGM2 := Lib.hid hgM
      have HEN := Lib.hid hen
      have HNX := Lib.hid hnext
      have HRG := Lib.hid hregs
      have HCL := Lib.hid hcells
      have LR : Hid (M.r.length = 6 ∧ M.c.length = 16 ∧ M.s.length = 16 ∧ m.r.length = 6 ∧ m.c.length = 16 ∧ m.s.length = 16) := Lib.hid ⟨r1, r2, r3, s1, s2, s3⟩
      clear hma GX hxx hgm hgM hen hnext hregs hcells r1 r2 r3 s1 s2 s3 SF GDX
      go_wp2_with fail
      have hbx := below1 y3 (.cells #[.int .i64 x.k, .int .i64 x.o, .int .i64 x.d, .int .i64 x.s, .int .i64 x.i, .int .i64 x.t] 35)
      have LX := Lib.hid (LX.out.below hbx)
      have LC := Lib.hid (LC.out.below hbx)
      have LM := Lib.hid (LM.out.below hbx)
      have LV := Lib.hid (LV.out.below hbx)
      have LU := Lib.hid (LU.out.below hbx)
      have Km := Lib.hid (MBx.below Km.out hbx)
      have Kx := Lib.hid (MBx.below Kx.out hbx)
      have Ky := Lib.hid (MBx.below Ky.out hbx)
      have D4 := Lib.hid (Below.tr D4.out hbx)
      have KS : Hid (Blk (y3.alloc (.cells #[.int .i64 x.k, .int .i64 x.o, .int .i64 x.d, .int .i64 x.s, .int .i64 x.i, .int .i64 x.t] 35)) y3.heap.size 35 [.int .i64 x.k, .int .i64 x.o, .int .i64 x.d, .int .i64 x.s, .int .i64 x.i, .int .i64 x.t]) := Lib.hid (heap_alloc_new y3 _)
      clear hbx p0 p1 p2 p3 p4 p5
      generalize y3.alloc (.cells #[.int .i64 x.k, .int .i64 x.o, .int .i64 x.d, .int .i64 x.s, .int .i64 x.i, .int .i64 x.t] 35) = y3u at LX LC LM LV LU KS Km Kx Ky D4 ⊢
      obtain ⟨b, l, hr⟩ := nexts_res xs n HX.out at_
      obtain rfl : b = true := hr.1.2 ⟨GXX.out, by omega, by omega⟩
      have hll : l = nextsI x.k x.t at_ := hr.2.2 rfl x (by rw [Int.toNat_natCast]; exact HXX.out)
      have HLL := Lib.hid hll
      have HR := Lib.hid hr
      clear hll hr
      refine (implNexts_any _ n _ xs at_ _ true l HR LX HX (by omega)).mono ?_
      rintro e v5 ⟨An, cn, rfl, hown, hb⟩
      have LX := Lib.hid (LX.out.below hb)
      have LC := Lib.hid (LC.out.below hb)
      have LM := Lib.hid (LM.out.below hb)
      have LV := Lib.hid (LV.out.below hb)
      have LU := Lib.hid (LU.out.below hb)
      have KS := Lib.hid (KS.out.below hb)
      have Km := Lib.hid (MBx.below Km.out hb)
      have Kx := Lib.hid (MBx.below Kx.out hb)
      have Ky := Lib.hid (MBx.below Ky.out hb)
      have LN := Lib.hid (own_ilies hown)
      have D5 := Lib.hid (Below.tr D4.out hb)
      clear hb hown
      obtain ⟨ln, hln⟩ : ∃ q, l.length = q := ⟨_, rfl⟩
      have HLN := Lib.hid hln
      have hl2 : ln ≤ 2 := by rw [← hln, HLL.out]; exact nexts_len _ _ _
      rw [hln]
      clear hln
      have qm0 := Km.out.c0
      have qm1 := Km.out.c1
      have qm2 := Km.out.c2
      have qm3 := Km.out.c3
      have qml := Km.out.lt
      have qx0 := Kx.out.c0
      have qx1 := Kx.out.c1
      have qx2 := Kx.out.c2
      have qx3 := Kx.out.c3
      have qxl := Kx.out.lt
      have ks0 := KS.out.cell 0
      have ks2 := KS.out.cell 2
      have ks4 := KS.out.cell 4
      simp only [List.getElem?_cons_zero, List.getElem?_cons_succ] at ks0 ks2 ks4
      go_wp2_with fail
      refine (implGoodM_any da _ _ _ 6 16 16 _ _ _ M _ NA.out LV NL (by omega) (by omega) (by omega)).mono ?_
      rw [HGM2.out]
      rintro e v6 ⟨rfl, hb⟩
      have LX := Lib.hid (LX.out.below hb)
      have LC := Lib.hid (LC.out.below hb)
      have LM := Lib.hid (LM.out.below hb)
      have LV := Lib.hid (LV.out.below hb)
      have LU := Lib.hid (LU.out.below hb)
      have KS := Lib.hid (KS.out.below hb)
      have LN := Lib.hid (LN.out.below hb)
      have Km := Lib.hid (MBx.below Km.out hb)
      have Kx := Lib.hid (MBx.below Kx.out hb)
      have Ky := Lib.hid (MBx.below Ky.out hb)
      have D6 := Lib.hid (Below.tr D5.out hb)
      clear hb
      have qm0 := Km.out.c0
      have qm1 := Km.out.c1
      have qm2 := Km.out.c2
      have qm3 := Km.out.c3
      have qml := Km.out.lt
      have qx0 := Kx.out.c0
      have qx1 := Kx.out.c1
      have qx2 := Kx.out.c2
      have qx3 := Kx.out.c3
      have qxl := Kx.out.lt
      have ks0 := KS.out.cell 0
      have ks2 := KS.out.cell 2
      have ks4 := KS.out.cell 4
      simp only [List.getElem?_cons_zero, List.getElem?_cons_succ] at ks0 ks2 ks4
      by_cases hk : x.k = 11
      · obtain rfl : en = true := by rw [HEN.out]; simp [hk]
        have ek : (x.k == 11) = true := by simp [hk]
        clear hk
        go_wp2_with fail
        go_loopw [129] (fun i wr => ∃ k : Nat, k ≤ 6 ∧ i = .int .i64 k ∧ MBx wr (v1.heap.size) (.int .i64 (at_ : Int)) (.slice (some ⟨g1, 0, none⟩) 6 6) (.slice (some ⟨g2, 0, none⟩) 16 16) (.slice (some ⟨g3, 0, none⟩) 16 16) ∧ MBx wr (v2.heap.size) (.int .i64 da) (.slice V1 6 j1) (.slice V2 16 j2) (.slice V3 16 j3) ∧ Blk wr (y3.heap.size) 35 [.int .i64 x.k, .int .i64 x.o, .int .i64 x.d, .int .i64 x.s, .int .i64 x.i, .int .i64 x.t] ∧ MLies wr (some ⟨g1, 0, none⟩) (some ⟨g2, 0, none⟩) (some ⟨g3, 0, none⟩) m ∧ MLies wr V1 V2 V3 M ∧ Below w.heap.size w wr) (fun i _ => 6 - (intOf i).toNat)
        case atStart => exact ⟨0, by omega, rfl, Km.out, Kx.out, KS.out, LM.out, LV.out, D6.out⟩
        case round =>
          obtain ⟨k, hk, rfl, hm_, hx_, hs_, hlm_, hlv_, hd_⟩ := hrel
          have Lm := Lib.hid hm_
          have Lx := Lib.hid hx_
          have Ls := Lib.hid hs_
          have LLm := Lib.hid hlm_
          have LLv := Lib.hid hlv_
          have LD := Lib.hid hd_
          clear hm_ hx_ hs_ hlm_ hlv_ hd_
          have qm0 := Lm.out.c0
          have qx0 := Lx.out.c0
          have qm1 := Lm.out.c1
          have qx1 := Lx.out.c1
          have qm2 := Lm.out.c2
          have qx2 := Lx.out.c2
          have qm3 := Lm.out.c3
          have qx3 := Lx.out.c3
          have ks0 := Ls.out.cell 0
          have ks2 := Ls.out.cell 2
          have ks4 := Ls.out.cell 4
          simp only [List.getElem?_cons_zero, List.getElem?_cons_succ] at ks0 ks2 ks4
          by_cases hlt2 : k < 6
          · skip
            by_cases hkd : (k : Int) = x.d
            · have ekd : ((k : Int) != x.d) = false := by simp [hkd]
              clear hkd
              go_wp2_with fail
              go_quiet (fail)
              go_wp2
              go_roundw
              case rel => exact ⟨k + 1, by omega, by go_num, Lm.out, Lx.out, Ls.out, LLm.out, LLv.out, bdrewN LD.out _⟩
              case measure => simp [intOf]; omega
            · have ekd : ((k : Int) != x.d) = true := by simp [hkd]
              obtain ⟨ya, hya⟩ : ∃ y, M.r[k]? = some y := ⟨_, List.getElem?_eq_getElem (by have := LR.out; omega)⟩
              obtain ⟨za, hza⟩ : ∃ z, m.r[k]? = some z := ⟨_, List.getElem?_eq_getElem (by have := LR.out; omega)⟩
              obtain rfl : ya = za := by have h := HRG.out k hkd; rw [hya, hza] at h; exact Option.some.inj h
              obtain ⟨bba, ofa, rfl, hbba, hca⟩ := LLv.out.1 k _ hya
              obtain ⟨bca, oga, hAa, hbca, hda⟩ := LLm.out.1 k _ hza
              simp only [Option.some.injEq, Addr.mk.injEq, and_true] at hAa
              obtain ⟨rfl, rfl⟩ := hAa
              rw [Nat.zero_add] at hda
              have eya : (ya != ya) = false := by simp
              clear hya hza
              clear hkd
              go_wp2_with fail
              go_quiet (fail)
              go_wp2
              go_roundw
              case rel => exact ⟨k + 1, by omega, by go_num, Lm.out, Lx.out, Ls.out, LLm.out, LLv.out, bdrewN LD.out _⟩
              case measure => simp [intOf]; omega
          · obtain rfl : k = 6 := by omega
            obtain ⟨wo, hwo⟩ : ∃ x, x = wr := ⟨_, rfl⟩
            subst hwo
            go_wp2_with fail
            go_loopw [153] (fun i wr => ∃ k : Nat, k ≤ 16 ∧ i = .int .i64 k ∧ MBx wr (v1.heap.size) (.int .i64 (at_ : Int)) (.slice (some ⟨g1, 0, none⟩) 6 6) (.slice (some ⟨g2, 0, none⟩) 16 16) (.slice (some ⟨g3, 0, none⟩) 16 16) ∧ MBx wr (v2.heap.size) (.int .i64 da) (.slice V1 6 j1) (.slice V2 16 j2) (.slice V3 16 j3) ∧ Blk wr (y3.heap.size) 35 [.int .i64 x.k, .int .i64 x.o, .int .i64 x.d, .int .i64 x.s, .int .i64 x.i, .int .i64 x.t] ∧ MLies wr (some ⟨g1, 0, none⟩) (some ⟨g2, 0, none⟩) (some ⟨g3, 0, none⟩) m ∧ MLies wr V1 V2 V3 M ∧ Below w.heap.size w wr) (fun i _ => 16 - (intOf i).toNat)
            case atStart => exact ⟨0, by omega, rfl, Lm.out, Lx.out, Ls.out, LLm.out, LLv.out, LD.out⟩
            case round =>
              obtain ⟨k, hk, rfl, hm_, hx_, hs_, hlm_, hlv_, hd_⟩ := hrel
              have Lm := Lib.hid hm_
              have Lx := Lib.hid hx_
              have Ls := Lib.hid hs_
              have LLm := Lib.hid hlm_
              have LLv := Lib.hid hlv_
              have LD := Lib.hid hd_
              clear hm_ hx_ hs_ hlm_ hlv_ hd_
              have qm0 := Lm.out.c0
              have qx0 := Lx.out.c0
              have qm1 := Lm.out.c1
              have qx1 := Lx.out.c1
              have qm2 := Lm.out.c2
              have qx2 := Lx.out.c2
              have qm3 := Lm.out.c3
              have qx3 := Lx.out.c3
              have ks0 := Ls.out.cell 0
              have ks2 := Ls.out.cell 2
              have ks4 := Ls.out.cell 4
              simp only [List.getElem?_cons_zero, List.getElem?_cons_succ] at ks0 ks2 ks4
              by_cases hlt2 : k < 16
              · skip
                by_cases h7 : x.k = 7
                · have e7 : (x.k != 7) = false := by simp [h7]
                  by_cases hki : (k : Int) = x.i
                  · have eki : ((k : Int) != x.i) = false := by simp [hki]
                    clear hki h7
                    go_wp2_with fail
                    go_quiet (fail)
                    go_wp2
                    go_roundw
                    case rel => exact ⟨k + 1, by omega, by go_num, Lm.out, Lx.out, Ls.out, LLm.out, LLv.out, bdrewN LD.out _⟩
                    case measure => simp [intOf]; omega
                  · have eki : ((k : Int) != x.i) = true := by simp [hki]
                    obtain ⟨ya, hya⟩ : ∃ y, M.c[k]? = some y := ⟨_, List.getElem?_eq_getElem (by have := LR.out; omega)⟩
                    obtain ⟨za, hza⟩ : ∃ z, m.c[k]? = some z := ⟨_, List.getElem?_eq_getElem (by have := LR.out; omega)⟩
                    obtain rfl : ya = za := by have h := (HCL.out k (Or.inr hki)).1; rw [hya, hza] at h; exact Option.some.inj h
                    obtain ⟨bba, ofa, rfl, hbba, hca⟩ := LLv.out.2.1 k _ hya
                    obtain ⟨bca, oga, hAa, hbca, hda⟩ := LLm.out.2.1 k _ hza
                    simp only [Option.some.injEq, Addr.mk.injEq, and_true] at hAa
                    obtain ⟨rfl, rfl⟩ := hAa
                    rw [Nat.zero_add] at hda
                    have eya : (ya != ya) = false := by simp
                    clear hya hza
                    obtain ⟨yb, hyb⟩ : ∃ y, M.s[k]? = some y := ⟨_, List.getElem?_eq_getElem (by have := LR.out; omega)⟩
                    obtain ⟨zb, hzb⟩ : ∃ z, m.s[k]? = some z := ⟨_, List.getElem?_eq_getElem (by have := LR.out; omega)⟩
                    obtain rfl : yb = zb := by have h := (HCL.out k (Or.inr hki)).2; rw [hyb, hzb] at h; exact Option.some.inj h
                    obtain ⟨bbb, ofb, rfl, hbbb, hcb⟩ := LLv.out.2.2 k _ hyb
                    obtain ⟨bcb, ogb, hAb, hbcb, hdb⟩ := LLm.out.2.2 k _ hzb
                    simp only [Option.some.injEq, Addr.mk.injEq, and_true] at hAb
                    obtain ⟨rfl, rfl⟩ := hAb
                    rw [Nat.zero_add] at hdb
                    have eyb : (yb != yb) = false := by simp
                    clear hyb hzb
                    clear hki h7
                    go_wp2_with fail
                    go_quiet (fail)
                    go_wp2
                    go_roundw
                    case rel => exact ⟨k + 1, by omega, by go_num, Lm.out, Lx.out, Ls.out, LLm.out, LLv.out, bdrewN LD.out _⟩
                    case measure => simp [intOf]; omega
                · have e7 : (x.k != 7) = true := by simp [h7]
                  obtain ⟨ya, hya⟩ : ∃ y, M.c[k]? = some y := ⟨_, List.getElem?_eq_getElem (by have := LR.out; omega)⟩
                  obtain ⟨za, hza⟩ : ∃ z, m.c[k]? = some z := ⟨_, List.getElem?_eq_getElem (by have := LR.out; omega)⟩
                  obtain rfl : ya = za := by have h := (HCL.out k (Or.inl h7)).1; rw [hya, hza] at h; exact Option.some.inj h
                  obtain ⟨bba, ofa, rfl, hbba, hca⟩ := LLv.out.2.1 k _ hya
                  obtain ⟨bca, oga, hAa, hbca, hda⟩ := LLm.out.2.1 k _ hza
                  simp only [Option.some.injEq, Addr.mk.injEq, and_true] at hAa
                  obtain ⟨rfl, rfl⟩ := hAa
                  rw [Nat.zero_add] at hda
                  have eya : (ya != ya) = false := by simp
                  clear hya hza
                  obtain ⟨yb, hyb⟩ : ∃ y, M.s[k]? = some y := ⟨_, List.getElem?_eq_getElem (by have := LR.out; omega)⟩
                  obtain ⟨zb, hzb⟩ : ∃ z, m.s[k]? = some z := ⟨_, List.getElem?_eq_getElem (by have := LR.out; omega)⟩
                  obtain rfl : yb = zb := by have h := (HCL.out k (Or.inl h7)).2; rw [hyb, hzb] at h; exact Option.some.inj h
                  obtain ⟨bbb, ofb, rfl, hbbb, hcb⟩ := LLv.out.2.2 k _ hyb
                  obtain ⟨bcb, ogb, hAb, hbcb, hdb⟩ := LLm.out.2.2 k _ hzb
                  simp only [Option.some.injEq, Addr.mk.injEq, and_true] at hAb
                  obtain ⟨rfl, rfl⟩ := hAb
                  rw [Nat.zero_add] at hdb
                  have eyb : (yb != yb) = false := by simp
                  clear hyb hzb
                  clear h7
                  go_wp2_with fail
                  go_quiet (fail)
                  go_wp2
                  go_roundw
                  case rel => exact ⟨k + 1, by omega, by go_num, Lm.out, Lx.out, Ls.out, LLm.out, LLv.out, bdrewN LD.out _⟩
                  case measure => simp [intOf]; omega
              · obtain rfl : k = 16 := by omega
                go_wp2_with fail
                refine (drawFree_any a1 len1 cap1 _ (Lib.hid (h1.out.below LD.out))).mono ?_
                rintro e t1 ⟨ys, cy, Ay, By, d1, d2, rfl, hxy, hly, hlyx, hlyc, hb⟩
                have LY := Lib.hid hlyx
                have CY := Lib.hid hlyc
                have E1 := Lib.hid (Below.tr LD.out hb)
                have HCY := Lib.hid hly
                clear hlyx hlyc hb hly
                obtain ⟨gy, hgy⟩ := good_bool ys
                have HGY := Lib.hid hgy
                clear hgy
                obtain ⟨ny, hny⟩ : ∃ n, ys.length = n := ⟨_, rfl⟩
                rw [hny] at hxy ⊢
                have HXY := Lib.hid hny
                clear hny
                obtain ⟨z1, hz1⟩ : ∃ q, ((runR gy ys cy 100).2 && (runR gy ys cy 100).1.2.1 == 0) = q := ⟨_, rfl⟩
                obtain ⟨z2, hz2⟩ : ∃ q, (runR gy ys cy 100).2 = q := ⟨_, rfl⟩
                have HZ1 := Lib.hid hz1
                have HZ2 := Lib.hid hz2
                clear hz1 hz2
                have ez1 : (z1 == z1) = true := by simp
                have ez2 : (z2 == z2) = true := by simp
                go_wp2_with fail
                refine (implFree_any _ _ _ ys _ _ _ cy gy _ HGY LY HXY (by omega) CY HCY (by omega) (Lib.hid (powTab_below HT.out E1.out))).mono ?_
                rw [HZ1.out, HZ2.out]
                rintro e t2 ⟨rfl, hb⟩
                have LY2 := Lib.hid (LY.out.below hb)
                have CY2 := Lib.hid (CY.out.below hb)
                have E2 := Lib.hid (Below.tr E1.out hb)
                clear hb
                go_wp2_with fail
                refine (specFree_any _ _ _ ys _ _ _ cy gy _ HGY LY2 HXY (by omega) CY2 HCY (by omega)).mono ?_
                rw [HZ1.out, HZ2.out]
                rintro e t3 ⟨rfl, hb⟩
                have E3 := Lib.hid (Below.tr E2.out hb)
                clear hb
                go_wp2_with fail
                refine (implNewM_any _).mono ?_
                rintro e t4 ⟨n1, n2, n3, rfl, hm, -, hb⟩
                have N4 := Lib.hid hm.lies
                have E4 := Lib.hid (Below.tr E3.out hb)
                clear hm hb
                go_upto_region 29 with fail
                have hbx := below1 t4 (.cells #[.int .i64 0, .slice (some ⟨n1, 0, none⟩) 6 6, .slice (some ⟨n2, 0, none⟩) 16 16, .slice (some ⟨n3, 0, none⟩) 16 16] 27)
                have N5 := Lib.hid (N4.out.below hbx)
                have E5 := Lib.hid (Below.tr E4.out hbx)
                have KN := Lib.hid (MBx.new t4 (.int .i64 0) (.slice (some ⟨n1, 0, none⟩) 6 6) (.slice (some ⟨n2, 0, none⟩) 16 16) (.slice (some ⟨n3, 0, none⟩) 16 16))
                clear hbx
                generalize t4.alloc (.cells #[.int .i64 0, .slice (some ⟨n1, 0, none⟩) 6 6, .slice (some ⟨n2, 0, none⟩) 16 16, .slice (some ⟨n3, 0, none⟩) 16 16] 27) = t5 at N5 E5 KN ⊢
                have P0 := Lib.hid (Below.refl t5.heap.size t5)
                have gn : goodMB newM = true := (goodM_iff newM).2 newM_good
                have HGN := Lib.hid gn
                clear gn
                refine wp_region_held_drew (S := fun W => W.cell? ⟨t4.heap.size, 0, none⟩ = some (.int .i64 0) ∧ W.cell? ⟨t4.heap.size, 1, none⟩ = some (.slice (some ⟨n1, 0, none⟩) 6 6) ∧ W.cell? ⟨t4.heap.size, 2, none⟩ = some (.slice (some ⟨n2, 0, none⟩) 16 16) ∧ W.cell? ⟨t4.heap.size, 3, none⟩ = some (.slice (some ⟨n3, 0, none⟩) 16 16)) (by kernel_rfl) ?_ (fun hHeld => ?_)
                · exact ⟨(MBx.below KN.out P0.out).c0, (MBx.below KN.out P0.out).c1, (MBx.below KN.out P0.out).c2, (MBx.below KN.out P0.out).c3⟩
                refine wpAnyH_take (i := 0) (v := ?_) rfl (by kernel_rfl) (by kernel_rfl) (by kernel_rfl) (fun _ _ _ h => h) (Or.inl ⟨by rfl, ?_⟩) (by assumption) ?_
                rotate_left
                · intro W hSw
                  try dsimp only at hSw
                  go_simp
                  try with_reducible rfl
                refine wpAnyH_take (i := 1) (v := ?_) rfl (by kernel_rfl) (by kernel_rfl) (by kernel_rfl) (fun _ _ _ h => h) (Or.inl ⟨by rfl, ?_⟩) (by assumption) ?_
                rotate_left
                · intro W hSw
                  try dsimp only at hSw
                  go_simp
                  try with_reducible rfl
                refine wpAnyH_take (i := 2) (v := ?_) rfl (by kernel_rfl) (by kernel_rfl) (by kernel_rfl) (fun _ _ _ h => h) (Or.inl ⟨by rfl, ?_⟩) (by assumption) ?_
                rotate_left
                · intro W hSw
                  try dsimp only at hSw
                  go_simp
                  try with_reducible rfl
                refine wpAnyH_take (i := 3) (v := ?_) rfl (by kernel_rfl) (by kernel_rfl) (by kernel_rfl) (fun _ _ _ h => h) (Or.inl ⟨by rfl, ?_⟩) (by assumption) ?_
                rotate_left
                · intro W hSw
                  try dsimp only at hSw
                  go_simp
                  try with_reducible rfl
                refine wpAnyH_take (i := 4) (v := ?_) rfl (by kernel_rfl) (by kernel_rfl) (by kernel_rfl) (fun _ _ _ h => h) (Or.inl ⟨by kernel_rfl, ?_⟩) (by assumption) ?_
                rotate_left
                · intro W hSw
                  try dsimp only at hSw
                  go_simp
                  try with_reducible rfl
                refine wpAnyH_take (i := 5) (v := ?_) rfl (by kernel_rfl) (by kernel_rfl) (by kernel_rfl) (fun _ _ _ h => h) (Or.inl ⟨by kernel_rfl, ?_⟩) (by assumption) ?_
                rotate_left
                · intro W hSw
                  try dsimp only at hSw
                  go_simp
                  try with_reducible rfl
                refine wpAnyH_take (i := 6) (v := ?_) rfl (by kernel_rfl) (by kernel_rfl) (by kernel_rfl) (fun _ _ _ h => h) (Or.inl ⟨by kernel_rfl, ?_⟩) (by assumption) ?_
                rotate_left
                · intro W hSw
                  try dsimp only at hSw
                  go_simp
                  try with_reducible rfl
                refine wpAnyH_take (i := 7) (v := ?_) rfl (by kernel_rfl) (by kernel_rfl) (by kernel_rfl) (fun _ _ _ h => h) (Or.inl ⟨by rfl, ?_⟩) (by assumption) ?_
                rotate_left
                · intro W hSw
                  try dsimp only at hSw
                  go_simp
                  try with_reducible rfl
                refine wpAnyH_take (i := 8) (v := ?_) rfl (by kernel_rfl) (by kernel_rfl) (by kernel_rfl) (fun _ _ _ h => h) (Or.inl ⟨by rfl, ?_⟩) (by assumption) ?_
                rotate_left
                · intro W hSw
                  try dsimp only at hSw
                  go_simp
                  try with_reducible rfl
                refine wpAnyH_take (i := 9) (v := ?_) rfl (by kernel_rfl) (by kernel_rfl) (by kernel_rfl) (fun _ _ _ h => h) (Or.inl ⟨by kernel_rfl, ?_⟩) (by assumption) ?_
                rotate_left
                · intro W hSw
                  try dsimp only at hSw
                  go_simp
                  try with_reducible rfl
                refine wpAnyH_ready (rs := [10]) (by kernel_rfl) (by simp) ?_
                refine AllReadyH.cons rfl (fun K hK => ?_) AllReadyH.nil
                rw [if_pos (by kernel_rfl)]
                go_simp
                refine (implGoodM_any 0 _ _ _ 6 16 16 _ _ _ newM _ rfl (Lib.hid (N5.out.below (Below.drew P0.out))) (Lib.hid ⟨rfl, rfl, rfl⟩) (by omega) (by omega) (by omega)).mono ?_
                rw [HGN.out]
                rintro e r1 ⟨rfl, hb⟩
                have R1 := Lib.hid (Below.tr (Below.drew P0.out) hb)
                have R1z := R1.out.size
                clear hb
                refine hK.out _ _ ⟨(MBx.below KN.out R1.out).c0, (MBx.below KN.out R1.out).c1, (MBx.below KN.out R1.out).c2, (MBx.below KN.out R1.out).c3⟩ (fun hHeld2 => ?_)
                clear hK K
                refine wpAnyH_take (i := 11) (v := ?_) rfl (by kernel_rfl) (by kernel_rfl) (by kernel_rfl) (fun _ _ _ h => h) (Or.inl ⟨by rfl, ?_⟩) (by assumption) ?_
                rotate_left
                · intro W hSw
                  try dsimp only at hSw
                  go_simp
                  try with_reducible rfl
                refine wpAnyH_take (i := 12) (v := ?_) rfl (by kernel_rfl) (by kernel_rfl) (by kernel_rfl) (fun _ _ _ h => h) (Or.inl ⟨by rfl, ?_⟩) (by assumption) ?_
                rotate_left
                · intro W hSw
                  try dsimp only at hSw
                  go_simp
                  try with_reducible rfl
                refine wpAnyH_take (i := 13) (v := ?_) rfl (by kernel_rfl) (by kernel_rfl) (by kernel_rfl) (fun _ _ _ h => h) (Or.inl ⟨by kernel_rfl, ?_⟩) (by assumption) ?_
                rotate_left
                · intro W hSw
                  try dsimp only at hSw
                  go_simp
                  try with_reducible rfl
                refine wpAnyH_ready (rs := [14]) (by kernel_rfl) (by simp) ?_
                refine AllReadyH.cons rfl (fun K hK => ?_) AllReadyH.nil
                rw [if_pos (by kernel_rfl)]
                go_simp
                refine (specNewM_any _).mono ?_
                rintro e r2 ⟨q1, q2, q3, rfl, hnm, -, hb⟩
                have R2 := Lib.hid (Below.tr R1.out hb)
                have R2z := R2.out.size
                have NW := Lib.hid hnm.lies
                clear hnm
                clear hb
                refine hK.out _ _ ⟨(MBx.below KN.out R2.out).c0, (MBx.below KN.out R2.out).c1, (MBx.below KN.out R2.out).c2, (MBx.below KN.out R2.out).c3⟩ (fun hHeld2 => ?_)
                clear hK K
                refine wpAnyH_ready (rs := [15]) (by kernel_rfl) (by simp) ?_
                refine AllReadyH.cons rfl (fun K hK => ?_) AllReadyH.nil
                rw [if_pos (by kernel_rfl)]
                go_simp
                refine (sameMach_same 0 _ _ _ _ _ _ 6 16 16 _ _ _ _ _ _ newM _ (Lib.hid (N5.out.below R2.out)) NW (Lib.hid ⟨rfl, rfl, rfl⟩) (by omega) (by omega) (by omega)).mono ?_
                rintro e r3 ⟨rfl, hb⟩
                have R3 := Lib.hid (Below.tr R2.out hb)
                have R3z := R3.out.size
                clear hb
                refine hK.out _ _ ⟨(MBx.below KN.out R3.out).c0, (MBx.below KN.out R3.out).c1, (MBx.below KN.out R3.out).c2, (MBx.below KN.out R3.out).c3⟩ (fun hHeld2 => ?_)
                clear hK K
                refine wpAnyH_take (i := 16) (v := ?_) rfl (by kernel_rfl) (by kernel_rfl) (by kernel_rfl) (fun _ _ _ h => h) (Or.inl ⟨by rfl, ?_⟩) (by assumption) ?_
                rotate_left
                · intro W hSw
                  try dsimp only at hSw
                  go_simp
                  try with_reducible rfl
                refine wpAnyH_ready (rs := [17]) (by kernel_rfl) (by simp) ?_
                refine AllReadyH.cons rfl (fun K hK => ?_) AllReadyH.nil
                go_simp
                refine hK.out _ _ ⟨(MBx.below KN.out R3.out).c0, (MBx.below KN.out R3.out).c1, (MBx.below KN.out R3.out).c2, (MBx.below KN.out R3.out).c3⟩ (fun hHeld2 => ?_)
                clear hK K
                refine wpAnyH_done (by kernel_rfl) ?_ _
                go_wp2
                go_ret
                exact ⟨rfl, Below.tr E5.out R3.out⟩
      · obtain rfl : en = false := by rw [HEN.out]; simp [hk]
        have ek : (x.k == 11) = false := by simp [hk]
        have HIN : Hid (da ∈ l) := Lib.hid (by have h := HNX.out (by first | rfl | trivial); rw [NA.out, MA.out] at h; rw [HLL.out]; exact h)
        clear hk
        go_wp2_with fail
        refine (hasS_any _ ln _ l da _ LN HLN (by omega) HIN).mono ?_
        rintro e v9 ⟨rfl, rfl⟩
        go_wp2_with fail
        go_loopw [129] (fun i wr => ∃ k : Nat, k ≤ 6 ∧ i = .int .i64 k ∧ MBx wr (v1.heap.size) (.int .i64 (at_ : Int)) (.slice (some ⟨g1, 0, none⟩) 6 6) (.slice (some ⟨g2, 0, none⟩) 16 16) (.slice (some ⟨g3, 0, none⟩) 16 16) ∧ MBx wr (v2.heap.size) (.int .i64 da) (.slice V1 6 j1) (.slice V2 16 j2) (.slice V3 16 j3) ∧ Blk wr (y3.heap.size) 35 [.int .i64 x.k, .int .i64 x.o, .int .i64 x.d, .int .i64 x.s, .int .i64 x.i, .int .i64 x.t] ∧ MLies wr (some ⟨g1, 0, none⟩) (some ⟨g2, 0, none⟩) (some ⟨g3, 0, none⟩) m ∧ MLies wr V1 V2 V3 M ∧ Below w.heap.size w wr) (fun i _ => 6 - (intOf i).toNat)
        case atStart => exact ⟨0, by omega, rfl, Km.out, Kx.out, KS.out, LM.out, LV.out, D6.out⟩
        case round =>
          obtain ⟨k, hk, rfl, hm_, hx_, hs_, hlm_, hlv_, hd_⟩ := hrel
          have Lm := Lib.hid hm_
          have Lx := Lib.hid hx_
          have Ls := Lib.hid hs_
          have LLm := Lib.hid hlm_
          have LLv := Lib.hid hlv_
          have LD := Lib.hid hd_
          clear hm_ hx_ hs_ hlm_ hlv_ hd_
          have qm0 := Lm.out.c0
          have qx0 := Lx.out.c0
          have qm1 := Lm.out.c1
          have qx1 := Lx.out.c1
          have qm2 := Lm.out.c2
          have qx2 := Lx.out.c2
          have qm3 := Lm.out.c3
          have qx3 := Lx.out.c3
          have ks0 := Ls.out.cell 0
          have ks2 := Ls.out.cell 2
          have ks4 := Ls.out.cell 4
          simp only [List.getElem?_cons_zero, List.getElem?_cons_succ] at ks0 ks2 ks4
          by_cases hlt2 : k < 6
          · skip
            by_cases hkd : (k : Int) = x.d
            · have ekd : ((k : Int) != x.d) = false := by simp [hkd]
              clear hkd
              go_wp2_with fail
              go_quiet (fail)
              go_wp2
              go_roundw
              case rel => exact ⟨k + 1, by omega, by go_num, Lm.out, Lx.out, Ls.out, LLm.out, LLv.out, bdrewN LD.out _⟩
              case measure => simp [intOf]; omega
            · have ekd : ((k : Int) != x.d) = true := by simp [hkd]
              obtain ⟨ya, hya⟩ : ∃ y, M.r[k]? = some y := ⟨_, List.getElem?_eq_getElem (by have := LR.out; omega)⟩
              obtain ⟨za, hza⟩ : ∃ z, m.r[k]? = some z := ⟨_, List.getElem?_eq_getElem (by have := LR.out; omega)⟩
              obtain rfl : ya = za := by have h := HRG.out k hkd; rw [hya, hza] at h; exact Option.some.inj h
              obtain ⟨bba, ofa, rfl, hbba, hca⟩ := LLv.out.1 k _ hya
              obtain ⟨bca, oga, hAa, hbca, hda⟩ := LLm.out.1 k _ hza
              simp only [Option.some.injEq, Addr.mk.injEq, and_true] at hAa
              obtain ⟨rfl, rfl⟩ := hAa
              rw [Nat.zero_add] at hda
              have eya : (ya != ya) = false := by simp
              clear hya hza
              clear hkd
              go_wp2_with fail
              go_quiet (fail)
              go_wp2
              go_roundw
              case rel => exact ⟨k + 1, by omega, by go_num, Lm.out, Lx.out, Ls.out, LLm.out, LLv.out, bdrewN LD.out _⟩
              case measure => simp [intOf]; omega
          · obtain rfl : k = 6 := by omega
            obtain ⟨wo, hwo⟩ : ∃ x, x = wr := ⟨_, rfl⟩
            subst hwo
            go_wp2_with fail
            go_loopw [153] (fun i wr => ∃ k : Nat, k ≤ 16 ∧ i = .int .i64 k ∧ MBx wr (v1.heap.size) (.int .i64 (at_ : Int)) (.slice (some ⟨g1, 0, none⟩) 6 6) (.slice (some ⟨g2, 0, none⟩) 16 16) (.slice (some ⟨g3, 0, none⟩) 16 16) ∧ MBx wr (v2.heap.size) (.int .i64 da) (.slice V1 6 j1) (.slice V2 16 j2) (.slice V3 16 j3) ∧ Blk wr (y3.heap.size) 35 [.int .i64 x.k, .int .i64 x.o, .int .i64 x.d, .int .i64 x.s, .int .i64 x.i, .int .i64 x.t] ∧ MLies wr (some ⟨g1, 0, none⟩) (some ⟨g2, 0, none⟩) (some ⟨g3, 0, none⟩) m ∧ MLies wr V1 V2 V3 M ∧ Below w.heap.size w wr) (fun i _ => 16 - (intOf i).toNat)
            case atStart => exact ⟨0, by omega, rfl, Lm.out, Lx.out, Ls.out, LLm.out, LLv.out, LD.out⟩
            case round =>
              obtain ⟨k, hk, rfl, hm_, hx_, hs_, hlm_, hlv_, hd_⟩ := hrel
              have Lm := Lib.hid hm_
              have Lx := Lib.hid hx_
              have Ls := Lib.hid hs_
              have LLm := Lib.hid hlm_
              have LLv := Lib.hid hlv_
              have LD := Lib.hid hd_
              clear hm_ hx_ hs_ hlm_ hlv_ hd_
              have qm0 := Lm.out.c0
              have qx0 := Lx.out.c0
              have qm1 := Lm.out.c1
              have qx1 := Lx.out.c1
              have qm2 := Lm.out.c2
              have qx2 := Lx.out.c2
              have qm3 := Lm.out.c3
              have qx3 := Lx.out.c3
              have ks0 := Ls.out.cell 0
              have ks2 := Ls.out.cell 2
              have ks4 := Ls.out.cell 4
              simp only [List.getElem?_cons_zero, List.getElem?_cons_succ] at ks0 ks2 ks4
              by_cases hlt2 : k < 16
              · skip
                by_cases h7 : x.k = 7
                · have e7 : (x.k != 7) = false := by simp [h7]
                  by_cases hki : (k : Int) = x.i
                  · have eki : ((k : Int) != x.i) = false := by simp [hki]
                    clear hki h7
                    go_wp2_with fail
                    go_quiet (fail)
                    go_wp2
                    go_roundw
                    case rel => exact ⟨k + 1, by omega, by go_num, Lm.out, Lx.out, Ls.out, LLm.out, LLv.out, bdrewN LD.out _⟩
                    case measure => simp [intOf]; omega
                  · have eki : ((k : Int) != x.i) = true := by simp [hki]
                    obtain ⟨ya, hya⟩ : ∃ y, M.c[k]? = some y := ⟨_, List.getElem?_eq_getElem (by have := LR.out; omega)⟩
                    obtain ⟨za, hza⟩ : ∃ z, m.c[k]? = some z := ⟨_, List.getElem?_eq_getElem (by have := LR.out; omega)⟩
                    obtain rfl : ya = za := by have h := (HCL.out k (Or.inr hki)).1; rw [hya, hza] at h; exact Option.some.inj h
                    obtain ⟨bba, ofa, rfl, hbba, hca⟩ := LLv.out.2.1 k _ hya
                    obtain ⟨bca, oga, hAa, hbca, hda⟩ := LLm.out.2.1 k _ hza
                    simp only [Option.some.injEq, Addr.mk.injEq, and_true] at hAa
                    obtain ⟨rfl, rfl⟩ := hAa
                    rw [Nat.zero_add] at hda
                    have eya : (ya != ya) = false := by simp
                    clear hya hza
                    obtain ⟨yb, hyb⟩ : ∃ y, M.s[k]? = some y := ⟨_, List.getElem?_eq_getElem (by have := LR.out; omega)⟩
                    obtain ⟨zb, hzb⟩ : ∃ z, m.s[k]? = some z := ⟨_, List.getElem?_eq_getElem (by have := LR.out; omega)⟩
                    obtain rfl : yb = zb := by have h := (HCL.out k (Or.inr hki)).2; rw [hyb, hzb] at h; exact Option.some.inj h
                    obtain ⟨bbb, ofb, rfl, hbbb, hcb⟩ := LLv.out.2.2 k _ hyb
                    obtain ⟨bcb, ogb, hAb, hbcb, hdb⟩ := LLm.out.2.2 k _ hzb
                    simp only [Option.some.injEq, Addr.mk.injEq, and_true] at hAb
                    obtain ⟨rfl, rfl⟩ := hAb
                    rw [Nat.zero_add] at hdb
                    have eyb : (yb != yb) = false := by simp
                    clear hyb hzb
                    clear hki h7
                    go_wp2_with fail
                    go_quiet (fail)
                    go_wp2
                    go_roundw
                    case rel => exact ⟨k + 1, by omega, by go_num, Lm.out, Lx.out, Ls.out, LLm.out, LLv.out, bdrewN LD.out _⟩
                    case measure => simp [intOf]; omega
                · have e7 : (x.k != 7) = true := by simp [h7]
                  obtain ⟨ya, hya⟩ : ∃ y, M.c[k]? = some y := ⟨_, List.getElem?_eq_getElem (by have := LR.out; omega)⟩
                  obtain ⟨za, hza⟩ : ∃ z, m.c[k]? = some z := ⟨_, List.getElem?_eq_getElem (by have := LR.out; omega)⟩
                  obtain rfl : ya = za := by have h := (HCL.out k (Or.inl h7)).1; rw [hya, hza] at h; exact Option.some.inj h
                  obtain ⟨bba, ofa, rfl, hbba, hca⟩ := LLv.out.2.1 k _ hya
                  obtain ⟨bca, oga, hAa, hbca, hda⟩ := LLm.out.2.1 k _ hza
                  simp only [Option.some.injEq, Addr.mk.injEq, and_true] at hAa
                  obtain ⟨rfl, rfl⟩ := hAa
                  rw [Nat.zero_add] at hda
                  have eya : (ya != ya) = false := by simp
                  clear hya hza
                  obtain ⟨yb, hyb⟩ : ∃ y, M.s[k]? = some y := ⟨_, List.getElem?_eq_getElem (by have := LR.out; omega)⟩
                  obtain ⟨zb, hzb⟩ : ∃ z, m.s[k]? = some z := ⟨_, List.getElem?_eq_getElem (by have := LR.out; omega)⟩
                  obtain rfl : yb = zb := by have h := (HCL.out k (Or.inl h7)).2; rw [hyb, hzb] at h; exact Option.some.inj h
                  obtain ⟨bbb, ofb, rfl, hbbb, hcb⟩ := LLv.out.2.2 k _ hyb
                  obtain ⟨bcb, ogb, hAb, hbcb, hdb⟩ := LLm.out.2.2 k _ hzb
                  simp only [Option.some.injEq, Addr.mk.injEq, and_true] at hAb
                  obtain ⟨rfl, rfl⟩ := hAb
                  rw [Nat.zero_add] at hdb
                  have eyb : (yb != yb) = false := by simp
                  clear hyb hzb
                  clear h7
                  go_wp2_with fail
                  go_quiet (fail)
                  go_wp2
                  go_roundw
                  case rel => exact ⟨k + 1, by omega, by go_num, Lm.out, Lx.out, Ls.out, LLm.out, LLv.out, bdrewN LD.out _⟩
                  case measure => simp [intOf]; omega
              · obtain rfl : k = 16 := by omega
                go_wp2_with fail
                refine (drawFree_any a1 len1 cap1 _ (Lib.hid (h1.out.below LD.out))).mono ?_
                rintro e t1 ⟨ys, cy, Ay, By, d1, d2, rfl, hxy, hly, hlyx, hlyc, hb⟩
                have LY := Lib.hid hlyx
                have CY := Lib.hid hlyc
                have E1 := Lib.hid (Below.tr LD.out hb)
                have HCY := Lib.hid hly
                clear hlyx hlyc hb hly
                obtain ⟨gy, hgy⟩ := good_bool ys
                have HGY := Lib.hid hgy
                clear hgy
                obtain ⟨ny, hny⟩ : ∃ n, ys.length = n := ⟨_, rfl⟩
                rw [hny] at hxy ⊢
                have HXY := Lib.hid hny
                clear hny
                obtain ⟨z1, hz1⟩ : ∃ q, ((runR gy ys cy 100).2 && (runR gy ys cy 100).1.2.1 == 0) = q := ⟨_, rfl⟩
                obtain ⟨z2, hz2⟩ : ∃ q, (runR gy ys cy 100).2 = q := ⟨_, rfl⟩
                have HZ1 := Lib.hid hz1
                have HZ2 := Lib.hid hz2
                clear hz1 hz2
                have ez1 : (z1 == z1) = true := by simp
                have ez2 : (z2 == z2) = true := by simp
                go_wp2_with fail
                refine (implFree_any _ _ _ ys _ _ _ cy gy _ HGY LY HXY (by omega) CY HCY (by omega) (Lib.hid (powTab_below HT.out E1.out))).mono ?_
                rw [HZ1.out, HZ2.out]
                rintro e t2 ⟨rfl, hb⟩
                have LY2 := Lib.hid (LY.out.below hb)
                have CY2 := Lib.hid (CY.out.below hb)
                have E2 := Lib.hid (Below.tr E1.out hb)
                clear hb
                go_wp2_with fail
                refine (specFree_any _ _ _ ys _ _ _ cy gy _ HGY LY2 HXY (by omega) CY2 HCY (by omega)).mono ?_
                rw [HZ1.out, HZ2.out]
                rintro e t3 ⟨rfl, hb⟩
                have E3 := Lib.hid (Below.tr E2.out hb)
                clear hb
                go_wp2_with fail
                refine (implNewM_any _).mono ?_
                rintro e t4 ⟨n1, n2, n3, rfl, hm, -, hb⟩
                have N4 := Lib.hid hm.lies
                have E4 := Lib.hid (Below.tr E3.out hb)
                clear hm hb
                go_upto_region 29 with fail
                have hbx := below1 t4 (.cells #[.int .i64 0, .slice (some ⟨n1, 0, none⟩) 6 6, .slice (some ⟨n2, 0, none⟩) 16 16, .slice (some ⟨n3, 0, none⟩) 16 16] 27)
                have N5 := Lib.hid (N4.out.below hbx)
                have E5 := Lib.hid (Below.tr E4.out hbx)
                have KN := Lib.hid (MBx.new t4 (.int .i64 0) (.slice (some ⟨n1, 0, none⟩) 6 6) (.slice (some ⟨n2, 0, none⟩) 16 16) (.slice (some ⟨n3, 0, none⟩) 16 16))
                clear hbx
                generalize t4.alloc (.cells #[.int .i64 0, .slice (some ⟨n1, 0, none⟩) 6 6, .slice (some ⟨n2, 0, none⟩) 16 16, .slice (some ⟨n3, 0, none⟩) 16 16] 27) = t5 at N5 E5 KN ⊢
                have P0 := Lib.hid (Below.refl t5.heap.size t5)
                have gn : goodMB newM = true := (goodM_iff newM).2 newM_good
                have HGN := Lib.hid gn
                clear gn
                refine wp_region_held_drew (S := fun W => W.cell? ⟨t4.heap.size, 0, none⟩ = some (.int .i64 0) ∧ W.cell? ⟨t4.heap.size, 1, none⟩ = some (.slice (some ⟨n1, 0, none⟩) 6 6) ∧ W.cell? ⟨t4.heap.size, 2, none⟩ = some (.slice (some ⟨n2, 0, none⟩) 16 16) ∧ W.cell? ⟨t4.heap.size, 3, none⟩ = some (.slice (some ⟨n3, 0, none⟩) 16 16)) (by kernel_rfl) ?_ (fun hHeld => ?_)
                · exact ⟨(MBx.below KN.out P0.out).c0, (MBx.below KN.out P0.out).c1, (MBx.below KN.out P0.out).c2, (MBx.below KN.out P0.out).c3⟩
                refine wpAnyH_take (i := 0) (v := ?_) rfl (by kernel_rfl) (by kernel_rfl) (by kernel_rfl) (fun _ _ _ h => h) (Or.inl ⟨by rfl, ?_⟩) (by assumption) ?_
                rotate_left
                · intro W hSw
                  try dsimp only at hSw
                  go_simp
                  try with_reducible rfl
                refine wpAnyH_take (i := 1) (v := ?_) rfl (by kernel_rfl) (by kernel_rfl) (by kernel_rfl) (fun _ _ _ h => h) (Or.inl ⟨by rfl, ?_⟩) (by assumption) ?_
                rotate_left
                · intro W hSw
                  try dsimp only at hSw
                  go_simp
                  try with_reducible rfl
                refine wpAnyH_take (i := 2) (v := ?_) rfl (by kernel_rfl) (by kernel_rfl) (by kernel_rfl) (fun _ _ _ h => h) (Or.inl ⟨by rfl, ?_⟩) (by assumption) ?_
                rotate_left
                · intro W hSw
                  try dsimp only at hSw
                  go_simp
                  try with_reducible rfl
                refine wpAnyH_take (i := 3) (v := ?_) rfl (by kernel_rfl) (by kernel_rfl) (by kernel_rfl) (fun _ _ _ h => h) (Or.inl ⟨by rfl, ?_⟩) (by assumption) ?_
                rotate_left
                · intro W hSw
                  try dsimp only at hSw
                  go_simp
                  try with_reducible rfl
                refine wpAnyH_take (i := 4) (v := ?_) rfl (by kernel_rfl) (by kernel_rfl) (by kernel_rfl) (fun _ _ _ h => h) (Or.inl ⟨by kernel_rfl, ?_⟩) (by assumption) ?_
                rotate_left
                · intro W hSw
                  try dsimp only at hSw
                  go_simp
                  try with_reducible rfl
                refine wpAnyH_take (i := 5) (v := ?_) rfl (by kernel_rfl) (by kernel_rfl) (by kernel_rfl) (fun _ _ _ h => h) (Or.inl ⟨by kernel_rfl, ?_⟩) (by assumption) ?_
                rotate_left
                · intro W hSw
                  try dsimp only at hSw
                  go_simp
                  try with_reducible rfl
                refine wpAnyH_take (i := 6) (v := ?_) rfl (by kernel_rfl) (by kernel_rfl) (by kernel_rfl) (fun _ _ _ h => h) (Or.inl ⟨by kernel_rfl, ?_⟩) (by assumption) ?_
                rotate_left
                · intro W hSw
                  try dsimp only at hSw
                  go_simp
                  try with_reducible rfl
                refine wpAnyH_take (i := 7) (v := ?_) rfl (by kernel_rfl) (by kernel_rfl) (by kernel_rfl) (fun _ _ _ h => h) (Or.inl ⟨by rfl, ?_⟩) (by assumption) ?_
                rotate_left
                · intro W hSw
                  try dsimp only at hSw
                  go_simp
                  try with_reducible rfl
                refine wpAnyH_take (i := 8) (v := ?_) rfl (by kernel_rfl) (by kernel_rfl) (by kernel_rfl) (fun _ _ _ h => h) (Or.inl ⟨by rfl, ?_⟩) (by assumption) ?_
                rotate_left
                · intro W hSw
                  try dsimp only at hSw
                  go_simp
                  try with_reducible rfl
                refine wpAnyH_take (i := 9) (v := ?_) rfl (by kernel_rfl) (by kernel_rfl) (by kernel_rfl) (fun _ _ _ h => h) (Or.inl ⟨by kernel_rfl, ?_⟩) (by assumption) ?_
                rotate_left
                · intro W hSw
                  try dsimp only at hSw
                  go_simp
                  try with_reducible rfl
                refine wpAnyH_ready (rs := [10]) (by kernel_rfl) (by simp) ?_
                refine AllReadyH.cons rfl (fun K hK => ?_) AllReadyH.nil
                rw [if_pos (by kernel_rfl)]
                go_simp
                refine (implGoodM_any 0 _ _ _ 6 16 16 _ _ _ newM _ rfl (Lib.hid (N5.out.below (Below.drew P0.out))) (Lib.hid ⟨rfl, rfl, rfl⟩) (by omega) (by omega) (by omega)).mono ?_
                rw [HGN.out]
                rintro e r1 ⟨rfl, hb⟩
                have R1 := Lib.hid (Below.tr (Below.drew P0.out) hb)
                have R1z := R1.out.size
                clear hb
                refine hK.out _ _ ⟨(MBx.below KN.out R1.out).c0, (MBx.below KN.out R1.out).c1, (MBx.below KN.out R1.out).c2, (MBx.below KN.out R1.out).c3⟩ (fun hHeld2 => ?_)
                clear hK K
                refine wpAnyH_take (i := 11) (v := ?_) rfl (by kernel_rfl) (by kernel_rfl) (by kernel_rfl) (fun _ _ _ h => h) (Or.inl ⟨by rfl, ?_⟩) (by assumption) ?_
                rotate_left
                · intro W hSw
                  try dsimp only at hSw
                  go_simp
                  try with_reducible rfl
                refine wpAnyH_take (i := 12) (v := ?_) rfl (by kernel_rfl) (by kernel_rfl) (by kernel_rfl) (fun _ _ _ h => h) (Or.inl ⟨by rfl, ?_⟩) (by assumption) ?_
                rotate_left
                · intro W hSw
                  try dsimp only at hSw
                  go_simp
                  try with_reducible rfl
                refine wpAnyH_take (i := 13) (v := ?_) rfl (by kernel_rfl) (by kernel_rfl) (by kernel_rfl) (fun _ _ _ h => h) (Or.inl ⟨by kernel_rfl, ?_⟩) (by assumption) ?_
                rotate_left
                · intro W hSw
                  try dsimp only at hSw
                  go_simp
                  try with_reducible rfl
                refine wpAnyH_ready (rs := [14]) (by kernel_rfl) (by simp) ?_
                refine AllReadyH.cons rfl (fun K hK => ?_) AllReadyH.nil
                rw [if_pos (by kernel_rfl)]
                go_simp
                refine (specNewM_any _).mono ?_
                rintro e r2 ⟨q1, q2, q3, rfl, hnm, -, hb⟩
                have R2 := Lib.hid (Below.tr R1.out hb)
                have R2z := R2.out.size
                have NW := Lib.hid hnm.lies
                clear hnm
                clear hb
                refine hK.out _ _ ⟨(MBx.below KN.out R2.out).c0, (MBx.below KN.out R2.out).c1, (MBx.below KN.out R2.out).c2, (MBx.below KN.out R2.out).c3⟩ (fun hHeld2 => ?_)
                clear hK K
                refine wpAnyH_ready (rs := [15]) (by kernel_rfl) (by simp) ?_
                refine AllReadyH.cons rfl (fun K hK => ?_) AllReadyH.nil
                rw [if_pos (by kernel_rfl)]
                go_simp
                refine (sameMach_same 0 _ _ _ _ _ _ 6 16 16 _ _ _ _ _ _ newM _ (Lib.hid (N5.out.below R2.out)) NW (Lib.hid ⟨rfl, rfl, rfl⟩) (by omega) (by omega) (by omega)).mono ?_
                rintro e r3 ⟨rfl, hb⟩
                have R3 := Lib.hid (Below.tr R2.out hb)
                have R3z := R3.out.size
                clear hb
                refine hK.out _ _ ⟨(MBx.below KN.out R3.out).c0, (MBx.below KN.out R3.out).c1, (MBx.below KN.out R3.out).c2, (MBx.below KN.out R3.out).c3⟩ (fun hHeld2 => ?_)
                clear hK K
                refine wpAnyH_take (i := 16) (v := ?_) rfl (by kernel_rfl) (by kernel_rfl) (by kernel_rfl) (fun _ _ _ h => h) (Or.inl ⟨by rfl, ?_⟩) (by assumption) ?_
                rotate_left
                · intro W hSw
                  try dsimp only at hSw
                  go_simp
                  try with_reducible rfl
                refine wpAnyH_ready (rs := [17]) (by kernel_rfl) (by simp) ?_
                refine AllReadyH.cons rfl (fun K hK => ?_) AllReadyH.nil
                go_simp
                refine hK.out _ _ ⟨(MBx.below KN.out R3.out).c0, (MBx.below KN.out R3.out).c1, (MBx.below KN.out R3.out).c2, (MBx.below KN.out R3.out).c3⟩ (fun hHeld2 => ?_)
                clear hK K
                refine wpAnyH_done (by kernel_rfl) ?_ _
                go_wp2
                go_ret
                exact ⟨rfl, Below.tr E5.out R3.out⟩
    · have ef : (f == 0) = false := by simpa using hf
      clear hf
      go_wp2_with fail
      refine (drawFree_any a1 len1 cap1 _ (Lib.hid (h1.out.below D4.out))).mono ?_
      rintro e t1 ⟨ys, cy, Ay, By, d1, d2, rfl, hxy, hly, hlyx, hlyc, hb⟩
      have LY := Lib.hid hlyx
      have CY := Lib.hid hlyc
      have E1 := Lib.hid (Below.tr D4.out hb)
      have HCY := Lib.hid hly
      clear hlyx hlyc hb hly
      obtain ⟨gy, hgy⟩ := good_bool ys
      have HGY := Lib.hid hgy
      clear hgy
      obtain ⟨ny, hny⟩ : ∃ n, ys.length = n := ⟨_, rfl⟩
      rw [hny] at hxy ⊢
      have HXY := Lib.hid hny
      clear hny
      obtain ⟨z1, hz1⟩ : ∃ q, ((runR gy ys cy 100).2 && (runR gy ys cy 100).1.2.1 == 0) = q := ⟨_, rfl⟩
      obtain ⟨z2, hz2⟩ : ∃ q, (runR gy ys cy 100).2 = q := ⟨_, rfl⟩
      have HZ1 := Lib.hid hz1
      have HZ2 := Lib.hid hz2
      clear hz1 hz2
      have ez1 : (z1 == z1) = true := by simp
      have ez2 : (z2 == z2) = true := by simp
      go_wp2_with fail
      refine (implFree_any _ _ _ ys _ _ _ cy gy _ HGY LY HXY (by omega) CY HCY (by omega) (Lib.hid (powTab_below HT.out E1.out))).mono ?_
      rw [HZ1.out, HZ2.out]
      rintro e t2 ⟨rfl, hb⟩
      have LY2 := Lib.hid (LY.out.below hb)
      have CY2 := Lib.hid (CY.out.below hb)
      have E2 := Lib.hid (Below.tr E1.out hb)
      clear hb
      go_wp2_with fail
      refine (specFree_any _ _ _ ys _ _ _ cy gy _ HGY LY2 HXY (by omega) CY2 HCY (by omega)).mono ?_
      rw [HZ1.out, HZ2.out]
      rintro e t3 ⟨rfl, hb⟩
      have E3 := Lib.hid (Below.tr E2.out hb)
      clear hb
      go_wp2_with fail
      refine (implNewM_any _).mono ?_
      rintro e t4 ⟨n1, n2, n3, rfl, hm, -, hb⟩
      have N4 := Lib.hid hm.lies
      have E4 := Lib.hid (Below.tr E3.out hb)
      clear hm hb
      go_upto_region 29 with fail
      have hbx := below1 t4 (.cells #[.int .i64 0, .slice (some ⟨n1, 0, none⟩) 6 6, .slice (some ⟨n2, 0, none⟩) 16 16, .slice (some ⟨n3, 0, none⟩) 16 16] 27)
      have N5 := Lib.hid (N4.out.below hbx)
      have E5 := Lib.hid (Below.tr E4.out hbx)
      have KN := Lib.hid (MBx.new t4 (.int .i64 0) (.slice (some ⟨n1, 0, none⟩) 6 6) (.slice (some ⟨n2, 0, none⟩) 16 16) (.slice (some ⟨n3, 0, none⟩) 16 16))
      clear hbx
      generalize t4.alloc (.cells #[.int .i64 0, .slice (some ⟨n1, 0, none⟩) 6 6, .slice (some ⟨n2, 0, none⟩) 16 16, .slice (some ⟨n3, 0, none⟩) 16 16] 27) = t5 at N5 E5 KN ⊢
      have P0 := Lib.hid (Below.refl t5.heap.size t5)
      have gn : goodMB newM = true := (goodM_iff newM).2 newM_good
      have HGN := Lib.hid gn
      clear gn
      refine wp_region_held_drew (S := fun W => W.cell? ⟨t4.heap.size, 0, none⟩ = some (.int .i64 0) ∧ W.cell? ⟨t4.heap.size, 1, none⟩ = some (.slice (some ⟨n1, 0, none⟩) 6 6) ∧ W.cell? ⟨t4.heap.size, 2, none⟩ = some (.slice (some ⟨n2, 0, none⟩) 16 16) ∧ W.cell? ⟨t4.heap.size, 3, none⟩ = some (.slice (some ⟨n3, 0, none⟩) 16 16)) (by kernel_rfl) ?_ (fun hHeld => ?_)
      · exact ⟨(MBx.below KN.out P0.out).c0, (MBx.below KN.out P0.out).c1, (MBx.below KN.out P0.out).c2, (MBx.below KN.out P0.out).c3⟩
      refine wpAnyH_take (i := 0) (v := ?_) rfl (by kernel_rfl) (by kernel_rfl) (by kernel_rfl) (fun _ _ _ h => h) (Or.inl ⟨by rfl, ?_⟩) (by assumption) ?_
      rotate_left
      · intro W hSw
        try dsimp only at hSw
        go_simp
        try with_reducible rfl
      refine wpAnyH_take (i := 1) (v := ?_) rfl (by kernel_rfl) (by kernel_rfl) (by kernel_rfl) (fun _ _ _ h => h) (Or.inl ⟨by rfl, ?_⟩) (by assumption) ?_
      rotate_left
      · intro W hSw
        try dsimp only at hSw
        go_simp
        try with_reducible rfl
      refine wpAnyH_take (i := 2) (v := ?_) rfl (by kernel_rfl) (by kernel_rfl) (by kernel_rfl) (fun _ _ _ h => h) (Or.inl ⟨by rfl, ?_⟩) (by assumption) ?_
      rotate_left
      · intro W hSw
        try dsimp only at hSw
        go_simp
        try with_reducible rfl
      refine wpAnyH_take (i := 3) (v := ?_) rfl (by kernel_rfl) (by kernel_rfl) (by kernel_rfl) (fun _ _ _ h => h) (Or.inl ⟨by rfl, ?_⟩) (by assumption) ?_
      rotate_left
      · intro W hSw
        try dsimp only at hSw
        go_simp
        try with_reducible rfl
      refine wpAnyH_take (i := 4) (v := ?_) rfl (by kernel_rfl) (by kernel_rfl) (by kernel_rfl) (fun _ _ _ h => h) (Or.inl ⟨by kernel_rfl, ?_⟩) (by assumption) ?_
      rotate_left
      · intro W hSw
        try dsimp only at hSw
        go_simp
        try with_reducible rfl
      refine wpAnyH_take (i := 5) (v := ?_) rfl (by kernel_rfl) (by kernel_rfl) (by kernel_rfl) (fun _ _ _ h => h) (Or.inl ⟨by kernel_rfl, ?_⟩) (by assumption) ?_
      rotate_left
      · intro W hSw
        try dsimp only at hSw
        go_simp
        try with_reducible rfl
      refine wpAnyH_take (i := 6) (v := ?_) rfl (by kernel_rfl) (by kernel_rfl) (by kernel_rfl) (fun _ _ _ h => h) (Or.inl ⟨by kernel_rfl, ?_⟩) (by assumption) ?_
      rotate_left
      · intro W hSw
        try dsimp only at hSw
        go_simp
        try with_reducible rfl
      refine wpAnyH_take (i := 7) (v := ?_) rfl (by kernel_rfl) (by kernel_rfl) (by kernel_rfl) (fun _ _ _ h => h) (Or.inl ⟨by rfl, ?_⟩) (by assumption) ?_
      rotate_left
      · intro W hSw
        try dsimp only at hSw
        go_simp
        try with_reducible rfl
      refine wpAnyH_take (i := 8) (v := ?_) rfl (by kernel_rfl) (by kernel_rfl) (by kernel_rfl) (fun _ _ _ h => h) (Or.inl ⟨by rfl, ?_⟩) (by assumption) ?_
      rotate_left
      · intro W hSw
        try dsimp only at hSw
        go_simp
        try with_reducible rfl
      refine wpAnyH_take (i := 9) (v := ?_) rfl (by kernel_rfl) (by kernel_rfl) (by kernel_rfl) (fun _ _ _ h => h) (Or.inl ⟨by kernel_rfl, ?_⟩) (by assumption) ?_
      rotate_left
      · intro W hSw
        try dsimp only at hSw
        go_simp
        try with_reducible rfl
      refine wpAnyH_ready (rs := [10]) (by kernel_rfl) (by simp) ?_
      refine AllReadyH.cons rfl (fun K hK => ?_) AllReadyH.nil
      rw [if_pos (by kernel_rfl)]
      go_simp
      refine (implGoodM_any 0 _ _ _ 6 16 16 _ _ _ newM _ rfl (Lib.hid (N5.out.below (Below.drew P0.out))) (Lib.hid ⟨rfl, rfl, rfl⟩) (by omega) (by omega) (by omega)).mono ?_
      rw [HGN.out]
      rintro e r1 ⟨rfl, hb⟩
      have R1 := Lib.hid (Below.tr (Below.drew P0.out) hb)
      have R1z := R1.out.size
      clear hb
      refine hK.out _ _ ⟨(MBx.below KN.out R1.out).c0, (MBx.below KN.out R1.out).c1, (MBx.below KN.out R1.out).c2, (MBx.below KN.out R1.out).c3⟩ (fun hHeld2 => ?_)
      clear hK K
      refine wpAnyH_take (i := 11) (v := ?_) rfl (by kernel_rfl) (by kernel_rfl) (by kernel_rfl) (fun _ _ _ h => h) (Or.inl ⟨by rfl, ?_⟩) (by assumption) ?_
      rotate_left
      · intro W hSw
        try dsimp only at hSw
        go_simp
        try with_reducible rfl
      refine wpAnyH_take (i := 12) (v := ?_) rfl (by kernel_rfl) (by kernel_rfl) (by kernel_rfl) (fun _ _ _ h => h) (Or.inl ⟨by rfl, ?_⟩) (by assumption) ?_
      rotate_left
      · intro W hSw
        try dsimp only at hSw
        go_simp
        try with_reducible rfl
      refine wpAnyH_take (i := 13) (v := ?_) rfl (by kernel_rfl) (by kernel_rfl) (by kernel_rfl) (fun _ _ _ h => h) (Or.inl ⟨by kernel_rfl, ?_⟩) (by assumption) ?_
      rotate_left
      · intro W hSw
        try dsimp only at hSw
        go_simp
        try with_reducible rfl
      refine wpAnyH_ready (rs := [14]) (by kernel_rfl) (by simp) ?_
      refine AllReadyH.cons rfl (fun K hK => ?_) AllReadyH.nil
      rw [if_pos (by kernel_rfl)]
      go_simp
      refine (specNewM_any _).mono ?_
      rintro e r2 ⟨q1, q2, q3, rfl, hnm, -, hb⟩
      have R2 := Lib.hid (Below.tr R1.out hb)
      have R2z := R2.out.size
      have NW := Lib.hid hnm.lies
      clear hnm
      clear hb
      refine hK.out _ _ ⟨(MBx.below KN.out R2.out).c0, (MBx.below KN.out R2.out).c1, (MBx.below KN.out R2.out).c2, (MBx.below KN.out R2.out).c3⟩ (fun hHeld2 => ?_)
      clear hK K
      refine wpAnyH_ready (rs := [15]) (by kernel_rfl) (by simp) ?_
      refine AllReadyH.cons rfl (fun K hK => ?_) AllReadyH.nil
      rw [if_pos (by kernel_rfl)]
      go_simp
      refine (sameMach_same 0 _ _ _ _ _ _ 6 16 16 _ _ _ _ _ _ newM _ (Lib.hid (N5.out.below R2.out)) NW (Lib.hid ⟨rfl, rfl, rfl⟩) (by omega) (by omega) (by omega)).mono ?_
      rintro e r3 ⟨rfl, hb⟩
      have R3 := Lib.hid (Below.tr R2.out hb)
      have R3z := R3.out.size
      clear hb
      refine hK.out _ _ ⟨(MBx.below KN.out R3.out).c0, (MBx.below KN.out R3.out).c1, (MBx.below KN.out R3.out).c2, (MBx.below KN.out R3.out).c3⟩ (fun hHeld2 => ?_)
      clear hK K
      refine wpAnyH_take (i := 16) (v := ?_) rfl (by kernel_rfl) (by kernel_rfl) (by kernel_rfl) (fun _ _ _ h => h) (Or.inl ⟨by rfl, ?_⟩) (by assumption) ?_
      rotate_left
      · intro W hSw
        try dsimp only at hSw
        go_simp
        try with_reducible rfl
      refine wpAnyH_ready (rs := [17]) (by kernel_rfl) (by simp) ?_
      refine AllReadyH.cons rfl (fun K hK => ?_) AllReadyH.nil
      go_simp
      refine hK.out _ _ ⟨(MBx.below KN.out R3.out).c0, (MBx.below KN.out R3.out).c1, (MBx.below KN.out R3.out).c2, (MBx.below KN.out R3.out).c3⟩ (fun hHeld2 => ?_)
      clear hK K
      refine wpAnyH_done (by kernel_rfl) ?_ _
      go_wp2
      go_ret
      exact ⟨rfl, Below.tr E5.out R3.out⟩
end Go.Proofs.YtkffggnajoohfaaDoor
