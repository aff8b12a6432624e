/-
  The walk of the law FnStretches.
-/
import Derived.Test.YtkffggnajoohfaaDoorSt3
import Derived.Test.YtkffggnajoohfaaDoorSt11
import Derived.Test.YtkffggnajoohfaaDoorStD2
import Derived.Test.YtkffggnajoohfaaDoorNumOf
import Derived.Test.YtkffggnajoohfaaDoorStH
namespace Go.Proofs.YtkffggnajoohfaaDoor.Op
open Go.Proofs.YtkffggnajoohfaaDoor
open Go.ChangeShapes Go.WideShapes Go.ChangeAt Go.RowKit

theorem num_inI {l h : Int} (M : Int) (hM : 0 ≤ M) (h0 : 0 ≤ l) (h1 : l ≤ h) (h2 : h < 65536) : ∃ u, IntKind.i64.wrap (l + M.tmod (h - l + 1)) = u ∧ l ≤ u ∧ u ≤ h := by
  have e := Int.tmod_eq_emod_of_nonneg (a := M) (b := h - l + 1) hM
  have h3 := Int.emod_nonneg M (b := h - l + 1) (by omega)
  have h4 := Int.emod_lt_of_pos M (b := h - l + 1) (by omega)
  rw [e]
  generalize M % (h - l + 1) = q at h3 h4
  refine ⟨l + q, ?_, by omega, by omega⟩
  rw [IntKind.wrap_i64]; omega
theorem wrap_id {n : Int} (h1 : 0 ≤ n) (h2 : n ≤ 1000000000000) : IntKind.i64.wrap n = n := by rw [IntKind.wrap_i64]; omega
theorem kk_le {k : Nat} (h : k ≤ 12) : k * k ≤ 144 := Nat.mul_le_mul h h
theorem isW_opv {op x y : Int} {a b : St} (ga : goodS a = true) (gb : goodS b = true) (hx : inSt a x = true) (hy : inSt b y = true) : isW (opv op x y) = true :=
  inSt_word (doSt_good (op := op) ga gb) (doSt_mem ga gb hx hy)
theorem do_facts {op : Int} {a b s : St} {ok : Bool} (h : doR op a b = (s, ok)) (hok : ok = true) : isOp op = true ∧ goodS a = true ∧ goodS b = true ∧ s = doSt op a b := by
  subst hok
  unfold doR at h
  cases hg : (isOp op && goodS a && goodS b)
  · rw [hg] at h; simp at h
  · rw [hg] at h
    simp only [if_true, Prod.mk.injEq, and_true] at h
    simp only [Bool.and_eq_true] at hg
    exact ⟨hg.1.1, hg.1.2, hg.2, h.symm⟩
/-- one round's answers -/
theorem round_facts {op x y : Int} {a b s : St} (h : isOp op = true ∧ goodS a = true ∧ goodS b = true ∧ s = doSt op a b) (hx : inSt a x = true) (hy : inSt b y = true) :
    opOf op x y = opv op x y ∧ (isOp op && isW x && isW y) = true ∧ inR s (opv op x y) = (true, true) := by
  obtain ⟨ho, ga, gb, rfl⟩ := h
  have wx := inSt_word ga hx
  have wy := inSt_word gb hy
  refine ⟨by unfold opOf; rw [ho, wx, wy]; rfl, by rw [ho, wx, wy]; rfl, ?_⟩
  unfold inR
  rw [doSt_good ga gb, isW_opv ga gb hx hy, doSt_mem ga gb hx hy]; rfl
set_option maxRecDepth 100000 in
set_option maxHeartbeats 64000000 in
theorem lawStr (a0 : Option Addr) (len0 cap0 : Nat) (a1 : Option Addr) (len1 cap1 : Nat) (w : World) (h0 : Hid (Bytes w a0 len0)) (h1 : Hid (Bytes w a1 len1)) (HT : Hid (PowTab w)) :
    Calls Tryd.prog 4 #[.slice a0 len0 cap0, .slice a1 len1 cap1] w fun e w' => e = .returned (.bool true) ∧ Below w.heap.size w w' := by
  by_cases hbig : (1048576 : Int) < wrap64 ((len0 : Int) + (len1 : Int))
  · go_enter Tryd.func4, Tryd.ntmps4
    go_wp2
    go_ret
    exact ⟨rfl, Below.refl _ _⟩
  have hdec : decide ((1048576 : Int) < wrap64 ((len0 : Int) + (len1 : Int))) = false := decide_eq_false hbig
  clear hbig
  go_enter Tryd.func4, Tryd.ntmps4
  go_wp2_with fail
  refine (drawDoSt_any a0 len0 cap0 _ h0).mono ?_
  rintro e v1 ⟨op, al, ah, bl, bh, rfl, hb⟩
  have D1 := Lib.hid hb
  clear hb
  obtain ⟨⟨⟨sl, sh⟩, ok⟩, hq⟩ : ∃ q, doR op ⟨al, ah⟩ ⟨bl, bh⟩ = q := ⟨_, rfl⟩
  have HQ := Lib.hid hq
  clear hq
  have DF := Lib.hid (fun h => do_facts HQ.out h)
  have q0 := neq_st sl sh sl sh
  simp only [and_self, decide_true, Bool.not_true] at q0
  have eok : (ok != ok) = false := by simp
  obtain ⟨ga, hga⟩ : ∃ g, goodS ⟨al, ah⟩ = g := ⟨_, rfl⟩
  have GA := Lib.hid hga
  clear hga
  have ega : (ga != ga) = false := by simp
  go_wp2_with fail
  have NB := two_news v1 al ah bl bh
  unfold sO at NB
  have D1 := Lib.hid (Below.tr D1.out NB.out.2.2)
  have Fa := Lib.hid NB.out.1
  have Fb := Lib.hid NB.out.2.1
  clear NB
  generalize ((v1.alloc (.cells #[.int .i64 al, .int .i64 ah] 46)).alloc (.cells #[.int .i64 bl, .int .i64 bh] 46)) = u1 at Fa Fb D1 ⊢
  refine (doI_any _ _ _ _ _ _ (Lib.hid (HT.out.bel D1.out))).mono ?_
  rw [HQ.out]
  rintro e v2 ⟨rfl, hb⟩
  have Fa := Lib.hid (SB.below Fa.out hb)
  have Fb := Lib.hid (SB.below Fb.out hb)
  have D2 := Lib.hid (Below.tr D1.out hb)
  clear hb
  have ca := Fa.out.c0
  have da := Fa.out.c1
  have za := Fa.out.lt
  have cb := Fb.out.c0
  have db := Fb.out.c1
  have zb := Fb.out.lt
  go_wp2_with fail
  have NB := one_news v2 sl sh
  unfold sO at NB
  have Fa := Lib.hid (SB.below Fa.out NB.out.2)
  have Fb := Lib.hid (SB.below Fb.out NB.out.2)
  have D2 := Lib.hid (Below.tr D2.out NB.out.2)
  have Fs := Lib.hid NB.out.1
  clear NB
  generalize (v2.alloc (.cells #[.int .i64 sl, .int .i64 sh] 46)) = u2 at Fa Fb Fs D2 ⊢
  refine (doM_any _ _ _ _ _ _).mono ?_
  rw [HQ.out]
  rintro e v3 ⟨rfl, hb⟩
  have Fa := Lib.hid (SB.below Fa.out hb)
  have Fb := Lib.hid (SB.below Fb.out hb)
  have Fs := Lib.hid (SB.below Fs.out hb)
  have D3 := Lib.hid (Below.tr D2.out hb)
  clear hb
  have ca := Fa.out.c0
  have da := Fa.out.c1
  have za := Fa.out.lt
  have cb := Fb.out.c0
  have db := Fb.out.c1
  have zb := Fb.out.lt
  have cs := Fs.out.c0
  have ds := Fs.out.c1
  have zs := Fs.out.lt
  go_upto_region 6 with fail
  have NB := one_news v3 sl sh
  unfold sO at NB
  have Fa := Lib.hid (SB.below Fa.out NB.out.2)
  have Fb := Lib.hid (SB.below Fb.out NB.out.2)
  have Fs := Lib.hid (SB.below Fs.out NB.out.2)
  have D3 := Lib.hid (Below.tr D3.out NB.out.2)
  have Ft := Lib.hid NB.out.1
  clear NB
  generalize (v3.alloc (.cells #[.int .i64 sl, .int .i64 sh] 46)) = u3 at Fa Fb Fs Ft D3 ⊢
  have Q0 := Lib.hid (Below.refl u3.heap.size u3)
  refine wp_region_held_drew (S := fun W => W.cell? ⟨v1.heap.size, 0, none⟩ = some (.int .i64 al) ∧ W.cell? ⟨v1.heap.size, 1, none⟩ = some (.int .i64 ah) ∧ W.cell? ⟨v2.heap.size, 0, none⟩ = some (.int .i64 sl) ∧ W.cell? ⟨v2.heap.size, 1, none⟩ = some (.int .i64 sh) ∧ W.cell? ⟨v3.heap.size, 0, none⟩ = some (.int .i64 sl) ∧ W.cell? ⟨v3.heap.size, 1, none⟩ = some (.int .i64 sh)) (by kernel_rfl) ?_ (fun hHeld => ?_)
  · exact ⟨(SB.below Fa.out Q0.out).c0, (SB.below Fa.out Q0.out).c1, (SB.below Fs.out Q0.out).c0, (SB.below Fs.out Q0.out).c1, (SB.below Ft.out Q0.out).c0, (SB.below Ft.out Q0.out).c1⟩
  refine wpAnyH_take (i := 0) (v := ?_) rfl (by kernel_rfl) (by kernel_rfl) (by kernel_rfl) (fun _ _ _ h => h) (Or.inl ⟨by rfl, ?_⟩) (by assumption) ?_
  rotate_left
  · intro W hSw
    try dsimp only at hSw
    go_simp
    try with_reducible rfl
  refine wpAnyH_take (i := 1) (v := ?_) rfl (by kernel_rfl) (by kernel_rfl) (by kernel_rfl) (fun _ _ _ h => h) (Or.inl ⟨by rfl, ?_⟩) (by assumption) ?_
  rotate_left
  · intro W hSw
    try dsimp only at hSw
    go_simp
    try with_reducible rfl
  refine wpAnyH_take (i := 2) (v := ?_) rfl (by kernel_rfl) (by kernel_rfl) (by kernel_rfl) (fun _ _ _ h => h) (Or.inl ⟨by rfl, ?_⟩) (by assumption) ?_
  rotate_left
  · intro W hSw
    try dsimp only at hSw
    go_simp
    try with_reducible rfl
  refine wpAnyH_take (i := 3) (v := ?_) rfl (by kernel_rfl) (by kernel_rfl) (by kernel_rfl) (fun _ _ _ h => h) (Or.inl ⟨by rfl, ?_⟩) (by assumption) ?_
  rotate_left
  · intro W hSw
    try dsimp only at hSw
    go_simp
    try with_reducible rfl
  refine wpAnyH_take (i := 4) (v := ?_) rfl (by kernel_rfl) (by kernel_rfl) (by kernel_rfl) (fun _ _ _ h => h) (Or.inl ⟨by kernel_rfl, ?_⟩) (by assumption) ?_
  rotate_left
  · intro W hSw
    try dsimp only at hSw
    go_simp
    try with_reducible rfl
  refine wpAnyH_take (i := 5) (v := ?_) rfl (by kernel_rfl) (by kernel_rfl) (by kernel_rfl) (fun _ _ _ h => h) (Or.inl ⟨by kernel_rfl, ?_⟩) (by assumption) ?_
  rotate_left
  · intro W hSw
    try dsimp only at hSw
    go_simp
    try with_reducible rfl
  refine wpAnyH_take (i := 6) (v := ?_) rfl (by kernel_rfl) (by kernel_rfl) (by kernel_rfl) (fun _ _ _ h => h) (Or.inl ⟨by kernel_rfl, ?_⟩) (by assumption) ?_
  rotate_left
  · intro W hSw
    try dsimp only at hSw
    go_simp
    try with_reducible rfl
  refine wpAnyH_take (i := 7) (v := ?_) rfl (by kernel_rfl) (by kernel_rfl) (by kernel_rfl) (fun _ _ _ h => h) (Or.inl ⟨by rfl, ?_⟩) (by assumption) ?_
  rotate_left
  · intro W hSw
    try dsimp only at hSw
    go_simp
    try with_reducible rfl
  refine wpAnyH_take (i := 8) (v := ?_) rfl (by kernel_rfl) (by kernel_rfl) (by kernel_rfl) (fun _ _ _ h => h) (Or.inl ⟨by rfl, ?_⟩) (by assumption) ?_
  rotate_left
  · intro W hSw
    try dsimp only at hSw
    go_simp
    try with_reducible rfl
  refine wpAnyH_take (i := 9) (v := ?_) rfl (by kernel_rfl) (by kernel_rfl) (by kernel_rfl) (fun _ _ _ h => h) (Or.inl ⟨by kernel_rfl, ?_⟩) (by assumption) ?_
  rotate_left
  · intro W hSw
    try dsimp only at hSw
    go_simp
    try with_reducible rfl
  refine wpAnyH_take (i := 11) (v := ?_) rfl (by kernel_rfl) (by kernel_rfl) (by kernel_rfl) (fun _ _ _ h => h) (Or.inl ⟨by kernel_rfl, ?_⟩) (by assumption) ?_
  rotate_left
  · intro W hSw
    try dsimp only at hSw
    go_simp
    try with_reducible rfl
  refine wpAnyH_ready (rs := [10]) (by kernel_rfl) (by simp) ?_
  refine AllReadyH.cons rfl (fun K hK => ?_) AllReadyH.nil
  rw [if_pos (by kernel_rfl)]
  go_simp
  refine (goodI_any _ _ _).mono ?_
  rw [GA.out]
  rintro e y1 ⟨rfl, hb⟩
  have Y1 := Lib.hid (Below.tr (Below.drew Q0.out) hb)
  have Y1z := Y1.out.size
  clear hb
  refine hK.out _ _ ⟨(SB.below Fa.out Y1.out).c0, (SB.below Fa.out Y1.out).c1, (SB.below Fs.out Y1.out).c0, (SB.below Fs.out Y1.out).c1, (SB.below Ft.out Y1.out).c0, (SB.below Ft.out Y1.out).c1⟩ (fun hHeld2 => ?_)
  clear hK K
  refine wpAnyH_ready (rs := [12]) (by kernel_rfl) (by simp) ?_
  refine AllReadyH.cons rfl (fun K hK => ?_) AllReadyH.nil
  rw [if_pos (by kernel_rfl)]
  go_simp
  refine (goodM_any _ _ _).mono ?_
  rw [GA.out]
  rintro e y2 ⟨rfl, hb⟩
  have Y2 := Lib.hid (Below.tr Y1.out hb)
  have Y2z := Y2.out.size
  clear hb
  refine hK.out _ _ ⟨(SB.below Fa.out Y2.out).c0, (SB.below Fa.out Y2.out).c1, (SB.below Fs.out Y2.out).c0, (SB.below Fs.out Y2.out).c1, (SB.below Ft.out Y2.out).c0, (SB.below Ft.out Y2.out).c1⟩ (fun hHeld2 => ?_)
  clear hK K
  refine wpAnyH_take (i := 13) (v := ?_) rfl (by kernel_rfl) (by kernel_rfl) (by kernel_rfl) (fun _ _ _ h => h) (Or.inl ⟨by kernel_rfl, ?_⟩) (by assumption) ?_
  rotate_left
  · intro W hSw
    try dsimp only at hSw
    go_simp
    try with_reducible rfl
  refine wpAnyH_take (i := 14) (v := ?_) rfl (by kernel_rfl) (by kernel_rfl) (by kernel_rfl) (fun _ _ _ h => h) (Or.inl ⟨by rfl, ?_⟩) (by assumption) ?_
  rotate_left
  · intro W hSw
    try dsimp only at hSw
    go_simp
    try with_reducible rfl
  refine wpAnyH_done (by kernel_rfl) ?_ _
  have Fa := Lib.hid (SB.below Fa.out Y2.out)
  have Fb := Lib.hid (SB.below Fb.out Y2.out)
  have Fs := Lib.hid (SB.below Fs.out Y2.out)
  have Ft := Lib.hid (SB.below Ft.out Y2.out)
  have D4 := Lib.hid (Below.tr D3.out Y2.out)
  have ca := Fa.out.c0
  have da := Fa.out.c1
  have cb := Fb.out.c0
  have db := Fb.out.c1
  have cs := Fs.out.c0
  have ds := Fs.out.c1
  have ct := Ft.out.c0
  have dt := Ft.out.c1
  cases ok
  · go_wp2_with fail
    refine (drawInSt_any a1 len1 cap1 _ (Lib.hid (h1.out.below D4.out))).mono ?_
    rintro e t1 ⟨cl, ch, nn, rfl, hb⟩
    have E1 := Lib.hid (Below.tr D4.out hb)
    clear hb
    obtain ⟨⟨q, r⟩, hq⟩ : ∃ q, inR ⟨cl, ch⟩ nn = q := ⟨_, rfl⟩
    have Qi := Lib.hid hq
    clear hq
    obtain ⟨⟨z, y⟩, hz⟩ : ∃ q, sizeR ⟨cl, ch⟩ = q := ⟨_, rfl⟩
    have Qz := Lib.hid hz
    clear hz
    have eq1 : (q == q) = true := by simp
    have er1 : (r == r) = true := by simp
    have ez1 : (z == z) = true := by simp
    have ey1 : (y == y) = true := by simp
    go_wp2_with fail
    have NB := one_news t1 cl ch
    unfold sO at NB
    have Fc := Lib.hid NB.out.1
    have E2 := Lib.hid (Below.tr E1.out NB.out.2)
    clear NB
    generalize (t1.alloc (.cells #[.int .i64 cl, .int .i64 ch] 46)) = t2 at Fc E2 ⊢
    refine (inI_any _ _ _ _).mono ?_
    rw [Qi.out]
    rintro e t3 ⟨rfl, hb⟩
    have Fc := Lib.hid (SB.below Fc.out hb)
    have cc := Fc.out.c0
    have cd := Fc.out.c1
    have E3 := Lib.hid (Below.tr E2.out hb)
    clear hb
    go_wp2_with fail
    refine (inM_any _ _ _ _).mono ?_
    rw [Qi.out]
    rintro e t4 ⟨rfl, hb⟩
    have Fc := Lib.hid (SB.below Fc.out hb)
    have cc := Fc.out.c0
    have cd := Fc.out.c1
    have E4 := Lib.hid (Below.tr E3.out hb)
    clear hb
    go_wp2_with fail
    refine (sizeI_any _ _ _).mono ?_
    rw [Qz.out]
    rintro e t5 ⟨rfl, hb⟩
    have Fc := Lib.hid (SB.below Fc.out hb)
    have cc := Fc.out.c0
    have cd := Fc.out.c1
    have E5 := Lib.hid (Below.tr E4.out hb)
    clear hb
    go_wp2_with fail
    refine (sizeM_any _ _ _).mono ?_
    rw [Qz.out]
    rintro e t6 ⟨rfl, hb⟩
    have Fc := Lib.hid (SB.below Fc.out hb)
    have cc := Fc.out.c0
    have cd := Fc.out.c1
    have E6 := Lib.hid (Below.tr E5.out hb)
    clear hb
    go_wp2
    go_ret
    exact ⟨rfl, E6.out⟩
  · obtain ⟨ho, g1, g2, hs⟩ := DF.out rfl
    have hga : ga = true := by rw [← GA.out]; exact g1
    subst hga
    obtain ⟨z1, z2, z3⟩ := goodS_yes g1
    obtain ⟨z4, z5, z6⟩ := goodS_yes g2
    simp only at z1 z2 z3 z4 z5 z6
    have RF : Hid (∀ x y, inSt ⟨al, ah⟩ x = true → inSt ⟨bl, bh⟩ y = true → opOf op x y = opv op x y ∧ (isOp op && isW x && isW y) = true ∧ inR ⟨sl, sh⟩ (opv op x y) = (true, true)) := Lib.hid (fun x y hx hy => round_facts ⟨ho, g1, g2, hs⟩ hx hy)
    have W1 : Hid (sizeR ⟨al, ah⟩ = (ah - al + 1, true)) := Lib.hid (by unfold sizeR; rw [g1]; rfl)
    have W2 : Hid (sizeR ⟨bl, bh⟩ = (bh - bl + 1, true)) := Lib.hid (by unfold sizeR; rw [g2]; rfl)
    have W3 : Hid (goodS ⟨sl, sh⟩ = true) := Lib.hid (by rw [hs]; exact doSt_good g1 g2)
    clear ho g1 g2 hs DF
    go_wp2_with fail
    refine (sizeI_any _ _ _).mono ?_
    rw [W1.out]
    rintro e v5 ⟨rfl, hb⟩
    have Fa := Lib.hid (SB.below Fa.out hb)
    have Fb := Lib.hid (SB.below Fb.out hb)
    have Fs := Lib.hid (SB.below Fs.out hb)
    have Ft := Lib.hid (SB.below Ft.out hb)
    have D5 := Lib.hid (Below.tr D4.out hb)
    clear hb
    have ca := Fa.out.c0
    have da := Fa.out.c1
    have za := Fa.out.lt
    have cb := Fb.out.c0
    have db := Fb.out.c1
    have zb := Fb.out.lt
    have cs := Fs.out.c0
    have ds := Fs.out.c1
    have zs := Fs.out.lt
    go_wp2_with fail
    refine (sizeI_any _ _ _).mono ?_
    rw [W2.out]
    rintro e v6 ⟨rfl, hb⟩
    have Fa := Lib.hid (SB.below Fa.out hb)
    have Fb := Lib.hid (SB.below Fb.out hb)
    have Fs := Lib.hid (SB.below Fs.out hb)
    have Ft := Lib.hid (SB.below Ft.out hb)
    have D6 := Lib.hid (Below.tr D5.out hb)
    clear hb
    have ca := Fa.out.c0
    have da := Fa.out.c1
    have za := Fa.out.lt
    have cb := Fb.out.c0
    have db := Fb.out.c1
    have zb := Fb.out.lt
    have cs := Fs.out.c0
    have ds := Fs.out.c1
    have zs := Fs.out.lt
    go_wp2_with fail
    refine (goodI_any _ _ _).mono ?_
    rw [W3.out]
    rintro e v7 ⟨rfl, hb⟩
    have Fa := Lib.hid (SB.below Fa.out hb)
    have Fb := Lib.hid (SB.below Fb.out hb)
    have Fs := Lib.hid (SB.below Fs.out hb)
    have Ft := Lib.hid (SB.below Ft.out hb)
    have D7 := Lib.hid (Below.tr D6.out hb)
    clear hb
    have ca := Fa.out.c0
    have da := Fa.out.c1
    have za := Fa.out.lt
    have cb := Fb.out.c0
    have db := Fb.out.c1
    have zb := Fb.out.lt
    have cs := Fs.out.c0
    have ds := Fs.out.c1
    have zs := Fs.out.lt
    go_wp2_with fail
    go_loopw [16] (fun i wr => ∃ k : Nat, k ≤ 12 ∧ i = .int .i64 k ∧ SB wr (v1.heap.size) al ah ∧ SB wr (v1.heap.size + 1) bl bh ∧ SB wr (v2.heap.size) sl sh ∧ Below w.heap.size w wr) (fun i _ => 12 - (intOf i).toNat)
    case atStart => exact ⟨0, by omega, rfl, Fa.out, Fb.out, Fs.out, D7.out⟩
    case round =>
      obtain ⟨k, hk, rfl, fa, fb, fs, hd⟩ := hrel
      have Ra := Lib.hid fa
      have Rb := Lib.hid fb
      have Rs := Lib.hid fs
      have RD := Lib.hid hd
      clear fa fb fs hd
      by_cases hlt : k < 12
      · have hkk := kk_le hk
        have y0 := Ra.out.c0
        have y1 := Ra.out.c1
        have y2 := Rb.out.c0
        have y3 := Rb.out.c1
        have nz1 : ¬ (ah - al + 1 = 0) := by omega
        have nz2 : ¬ (bh - bl + 1 = 0) := by omega
        go_wp2_with fail
        refine wp_region_held_drew (S := fun W => W.cell? ⟨v1.heap.size, 0, none⟩ = some (.int .i64 al) ∧ W.cell? ⟨v1.heap.size, 1, none⟩ = some (.int .i64 ah)) (by kernel_rfl) ?_ (fun hHeld => ?_)
        · exact ⟨Ra.out.c0, Ra.out.c1⟩
        refine wpAnyH_take (i := 0) (v := ?_) rfl (by kernel_rfl) (by kernel_rfl) (by kernel_rfl) (fun _ _ _ h => h) (Or.inl ⟨by rfl, ?_⟩) (by assumption) ?_
        rotate_left
        · intro W hSw
          try dsimp only at hSw
          go_simp
          try with_reducible rfl
        refine wpAnyH_take (i := 2) (v := ?_) rfl (by kernel_rfl) (by kernel_rfl) (by kernel_rfl) (fun _ _ _ h => h) (Or.inl ⟨by rfl, ?_⟩) (by assumption) ?_
        rotate_left
        · intro W hSw
          try dsimp only at hSw
          go_simp
          try with_reducible rfl
        refine wpAnyH_take (i := 4) (v := ?_) rfl (by kernel_rfl) (by kernel_rfl) (by kernel_rfl) (fun _ _ _ h => h) (Or.inl ⟨by rfl, ?_⟩) (by assumption) ?_
        rotate_left
        · intro W hSw
          try dsimp only at hSw
          go_simp
          try with_reducible rfl
        refine wpAnyH_take (i := 5) (v := ?_) rfl (by kernel_rfl) (by kernel_rfl) (by kernel_rfl) (fun _ _ _ h => h) (Or.inl ⟨by rfl, ?_⟩) (by assumption) ?_
        rotate_left
        · intro W hSw
          try dsimp only at hSw
          go_simp
          try with_reducible rfl
        refine wpAnyH_take (i := 9) (v := ?_) rfl (by kernel_rfl) (by kernel_rfl) (by kernel_rfl) (fun _ _ _ h => h) (Or.inl ⟨by rfl, ?_⟩) (by assumption) ?_
        rotate_left
        · intro W hSw
          try dsimp only at hSw
          go_simp
          try with_reducible rfl
        refine wpAnyH_take (i := 1) (v := ?_) rfl (by kernel_rfl) (by kernel_rfl) (by kernel_rfl) (fun _ _ _ h => h) (Or.inl ⟨by rfl, ?_⟩) (by assumption) ?_
        rotate_left
        · intro W hSw
          try dsimp only at hSw
          go_simp
          try with_reducible rfl
        refine wpAnyH_take (i := 6) (v := ?_) rfl (by kernel_rfl) (by kernel_rfl) (by kernel_rfl) (fun _ _ _ h => h) (Or.inl ⟨by rfl, ?_⟩) (by assumption) ?_
        rotate_left
        · intro W hSw
          try dsimp only at hSw
          go_simp
          try with_reducible rfl
        refine wpAnyH_take (i := 7) (v := ?_) rfl (by kernel_rfl) (by kernel_rfl) (by kernel_rfl) (fun _ _ _ h => h) (Or.inl ⟨by rfl, ?_⟩) (by assumption) ?_
        rotate_left
        · intro W hSw
          try dsimp only at hSw
          go_simp
          try with_reducible rfl
        refine wpAnyH_ready (rs := [3]) (by kernel_rfl) (by simp) ?_
        refine AllReadyH.cons rfl (fun K hK => ?_) AllReadyH.nil
        go_simp
        refine (number_any a1 len1 cap1 _ (Lib.hid (h1.out.below (Below.drew RD.out)))).mono ?_
        rintro e v9 ⟨⟨N1, rfl, hN1⟩, rfl⟩
        refine hK.out _ _ (by assumption) (fun hHeld2 => ?_)
        clear hK K
        refine wpAnyH_take (i := 8) (v := ?_) rfl (by kernel_rfl) (by kernel_rfl) (by kernel_rfl) (fun _ _ _ h => h) (Or.inl ⟨by rfl, ?_⟩) (by assumption) ?_
        rotate_left
        · intro W hSw
          try dsimp only at hSw
          go_simp
          try with_reducible rfl
        refine wpAnyH_take (i := 10) (v := ?_) rfl (by kernel_rfl) (by kernel_rfl) (by kernel_rfl) (fun _ _ _ h => h) (Or.inl ⟨by rfl, ?_⟩) (by assumption) ?_
        rotate_left
        · intro W hSw
          try dsimp only at hSw
          go_simp
          try with_reducible rfl
        refine wpAnyH_take (i := 11) (v := ?_) rfl (by kernel_rfl) (by kernel_rfl) (by kernel_rfl) (fun _ _ _ h => h) (Or.inl ⟨by rfl, ?_⟩) (by assumption) ?_
        rotate_left
        · intro W hSw
          try dsimp only at hSw
          go_simp
          try with_reducible rfl
        refine wpAnyH_ready (rs := [12]) (by kernel_rfl) (by simp) ?_
        refine AllReadyH.cons rfl (fun K hK => ?_) AllReadyH.nil
        go_simp
        refine hK.out _ _ ⟨Ra.out.c0, Ra.out.c1⟩ (fun hHeld2 => ?_)
        clear hK K
        refine wpAnyH_done (by kernel_rfl) ?_ _
        go_upto_region 17 with fail
        have Ra : Hid (SB (World.drew wr) (v1.heap.size) al ah) := Ra
        have Rb : Hid (SB (World.drew wr) (v1.heap.size + 1) bl bh) := Rb
        have Rs : Hid (SB (World.drew wr) (v2.heap.size) sl sh) := Rs
        have RD : Hid (Below w.heap.size w (World.drew wr)) := Lib.hid (Below.drew RD.out)
        have y0 := Ra.out.c0
        have y1 := Ra.out.c1
        have y2 := Rb.out.c0
        have y3 := Rb.out.c1
        generalize World.drew wr = wr1 at Ra Rb Rs RD y0 y1 y2 y3 ⊢
        refine wp_region_held_drew (S := fun W => W.cell? ⟨v1.heap.size + 1, 0, none⟩ = some (.int .i64 bl) ∧ W.cell? ⟨v1.heap.size + 1, 1, none⟩ = some (.int .i64 bh)) (by kernel_rfl) ?_ (fun hHeld => ?_)
        · exact ⟨Rb.out.c0, Rb.out.c1⟩
        refine wpAnyH_take (i := 0) (v := ?_) rfl (by kernel_rfl) (by kernel_rfl) (by kernel_rfl) (fun _ _ _ h => h) (Or.inl ⟨by rfl, ?_⟩) (by assumption) ?_
        rotate_left
        · intro W hSw
          try dsimp only at hSw
          go_simp
          try with_reducible rfl
        refine wpAnyH_take (i := 2) (v := ?_) rfl (by kernel_rfl) (by kernel_rfl) (by kernel_rfl) (fun _ _ _ h => h) (Or.inl ⟨by rfl, ?_⟩) (by assumption) ?_
        rotate_left
        · intro W hSw
          try dsimp only at hSw
          go_simp
          try with_reducible rfl
        refine wpAnyH_take (i := 5) (v := ?_) rfl (by kernel_rfl) (by kernel_rfl) (by kernel_rfl) (fun _ _ _ h => h) (Or.inl ⟨by rfl, ?_⟩) (by assumption) ?_
        rotate_left
        · intro W hSw
          try dsimp only at hSw
          go_simp
          try with_reducible rfl
        refine wpAnyH_take (i := 8) (v := ?_) rfl (by kernel_rfl) (by kernel_rfl) (by kernel_rfl) (fun _ _ _ h => h) (Or.inl ⟨by rfl, ?_⟩) (by assumption) ?_
        rotate_left
        · intro W hSw
          try dsimp only at hSw
          go_simp
          try with_reducible rfl
        refine wpAnyH_take (i := 1) (v := ?_) rfl (by kernel_rfl) (by kernel_rfl) (by kernel_rfl) (fun _ _ _ h => h) (Or.inl ⟨by rfl, ?_⟩) (by assumption) ?_
        rotate_left
        · intro W hSw
          try dsimp only at hSw
          go_simp
          try with_reducible rfl
        refine wpAnyH_take (i := 6) (v := ?_) rfl (by kernel_rfl) (by kernel_rfl) (by kernel_rfl) (fun _ _ _ h => h) (Or.inl ⟨by rfl, ?_⟩) (by assumption) ?_
        rotate_left
        · intro W hSw
          try dsimp only at hSw
          go_simp
          try with_reducible rfl
        refine wpAnyH_ready (rs := [3]) (by kernel_rfl) (by simp) ?_
        refine AllReadyH.cons rfl (fun K hK => ?_) AllReadyH.nil
        go_simp
        refine (number_any a1 len1 cap1 _ (Lib.hid (h1.out.below (Below.drew RD.out)))).mono ?_
        rintro e v9 ⟨⟨N2, rfl, hN2⟩, rfl⟩
        refine hK.out _ _ (by assumption) (fun hHeld2 => ?_)
        clear hK K
        refine wpAnyH_take (i := 4) (v := ?_) rfl (by kernel_rfl) (by kernel_rfl) (by kernel_rfl) (fun _ _ _ h => h) (Or.inl ⟨by rfl, ?_⟩) (by assumption) ?_
        rotate_left
        · intro W hSw
          try dsimp only at hSw
          go_simp
          try with_reducible rfl
        refine wpAnyH_take (i := 7) (v := ?_) rfl (by kernel_rfl) (by kernel_rfl) (by kernel_rfl) (fun _ _ _ h => h) (Or.inl ⟨by rfl, ?_⟩) (by assumption) ?_
        rotate_left
        · intro W hSw
          try dsimp only at hSw
          go_simp
          try with_reducible rfl
        refine wpAnyH_take (i := 9) (v := ?_) rfl (by kernel_rfl) (by kernel_rfl) (by kernel_rfl) (fun _ _ _ h => h) (Or.inl ⟨by rfl, ?_⟩) (by assumption) ?_
        rotate_left
        · intro W hSw
          try dsimp only at hSw
          go_simp
          try with_reducible rfl
        refine wpAnyH_take (i := 10) (v := ?_) rfl (by kernel_rfl) (by kernel_rfl) (by kernel_rfl) (fun _ _ _ h => h) (Or.inl ⟨by rfl, ?_⟩) (by assumption) ?_
        rotate_left
        · intro W hSw
          try dsimp only at hSw
          go_simp
          try with_reducible rfl
        refine wpAnyH_ready (rs := [11]) (by kernel_rfl) (by simp) ?_
        refine AllReadyH.cons rfl (fun K hK => ?_) AllReadyH.nil
        go_simp
        refine hK.out _ _ ⟨Rb.out.c0, Rb.out.c1⟩ (fun hHeld2 => ?_)
        clear hK K
        refine wpAnyH_done (by kernel_rfl) ?_ _
        go_upto_region 18 with fail
        have Ra : Hid (SB (World.drew wr1) (v1.heap.size) al ah) := Ra
        have Rb : Hid (SB (World.drew wr1) (v1.heap.size + 1) bl bh) := Rb
        have Rs : Hid (SB (World.drew wr1) (v2.heap.size) sl sh) := Rs
        have RD : Hid (Below w.heap.size w (World.drew wr1)) := Lib.hid (Below.drew RD.out)
        have y0 := Ra.out.c0
        have y1 := Ra.out.c1
        have y2 := Rb.out.c0
        have y3 := Rb.out.c1
        generalize World.drew wr1 = wr2 at Ra Rb Rs RD y0 y1 y2 y3 ⊢
        have m1 : (0 : Int) ≤ (k : Int) * k ∧ (k : Int) * k ≤ 144 := ⟨by exact_mod_cast Nat.zero_le (k * k), by exact_mod_cast hkk⟩
        have m2 : 0 ≤ IntKind.i64.wrap ((N1 : Int) + IntKind.i64.wrap (IntKind.i64.wrap ((k : Int) * k) * 7919)) := by rw [wrap_id (n := (k : Int) * k) m1.1 (by omega), wrap_id (n := (k : Int) * k * 7919) (by omega) (by omega), wrap_id (by omega) (by omega)]; omega
        have m3 : 0 ≤ IntKind.i64.wrap (IntKind.i64.wrap ((N2 : Int) / 3) + IntKind.i64.wrap ((k : Int) * 104729)) := by rw [wrap_id (n := (N2 : Int) / 3) (by omega) (by omega), wrap_id (n := (k : Int) * 104729) (by omega) (by omega), wrap_id (by omega) (by omega)]; omega
        obtain ⟨u, hu, u1, u2⟩ := num_inI _ m2 z1 z2 z3
        obtain ⟨vv, hv, x1, x2⟩ := num_inI _ m3 z4 z5 z6
        rw [hu, hv]
        clear hu hv hN1 hN2 m1 m2 m3 hkk nz1 nz2
        rcases (by omega : k = 0 ∨ k = 1 ∨ k = 2 ∨ 3 ≤ k) with rfl | rfl | rfl | h3
        · obtain ⟨f1, f2, f3⟩ := RF.out al bh (inSt_mk (by simp only; omega) (by simp only; omega)) (inSt_mk (by simp only; omega) (by simp only; omega))
          have F1 := Lib.hid f1
          have F2 := Lib.hid f2
          have F3 := Lib.hid f3
          clear f1 f2 f3
          go_wp2_with fail
          refine (doOp_any _ _ _ _ (Lib.hid (HT.out.bel RD.out))).mono ?_
          rw [F1.out, F2.out]
          rintro e v9 ⟨rfl, rfl⟩
          have y4 := Rs.out.c0
          have y5 := Rs.out.c1
          go_wp2_with fail
          refine (inI_any _ _ _ _).mono ?_
          rw [F3.out]
          rintro e r9 ⟨rfl, hb⟩
          have Ra9 := Lib.hid (SB.below Ra.out hb)
          have Rb9 := Lib.hid (SB.below Rb.out hb)
          have Rs9 := Lib.hid (SB.below Rs.out hb)
          have RD9 := Lib.hid (Below.tr RD.out hb)
          clear hb
          go_wp2
          go_roundw
          case rel => exact ⟨1, by omega, by go_num, Ra9.out, Rb9.out, Rs9.out, RD9.out⟩
          case measure => simp [intOf]
        · obtain ⟨f1, f2, f3⟩ := RF.out ah bl (inSt_mk (by simp only; omega) (by simp only; omega)) (inSt_mk (by simp only; omega) (by simp only; omega))
          have F1 := Lib.hid f1
          have F2 := Lib.hid f2
          have F3 := Lib.hid f3
          clear f1 f2 f3
          go_wp2_with fail
          refine (doOp_any _ _ _ _ (Lib.hid (HT.out.bel RD.out))).mono ?_
          rw [F1.out, F2.out]
          rintro e v9 ⟨rfl, rfl⟩
          have y4 := Rs.out.c0
          have y5 := Rs.out.c1
          go_wp2_with fail
          refine (inI_any _ _ _ _).mono ?_
          rw [F3.out]
          rintro e r9 ⟨rfl, hb⟩
          have Ra9 := Lib.hid (SB.below Ra.out hb)
          have Rb9 := Lib.hid (SB.below Rb.out hb)
          have Rs9 := Lib.hid (SB.below Rs.out hb)
          have RD9 := Lib.hid (Below.tr RD.out hb)
          clear hb
          go_wp2
          go_roundw
          case rel => exact ⟨2, by omega, by go_num, Ra9.out, Rb9.out, Rs9.out, RD9.out⟩
          case measure => simp [intOf]
        · obtain ⟨f1, f2, f3⟩ := RF.out ah bh (inSt_mk (by simp only; omega) (by simp only; omega)) (inSt_mk (by simp only; omega) (by simp only; omega))
          have F1 := Lib.hid f1
          have F2 := Lib.hid f2
          have F3 := Lib.hid f3
          clear f1 f2 f3
          go_wp2_with fail
          refine (doOp_any _ _ _ _ (Lib.hid (HT.out.bel RD.out))).mono ?_
          rw [F1.out, F2.out]
          rintro e v9 ⟨rfl, rfl⟩
          have y4 := Rs.out.c0
          have y5 := Rs.out.c1
          go_wp2_with fail
          refine (inI_any _ _ _ _).mono ?_
          rw [F3.out]
          rintro e r9 ⟨rfl, hb⟩
          have Ra9 := Lib.hid (SB.below Ra.out hb)
          have Rb9 := Lib.hid (SB.below Rb.out hb)
          have Rs9 := Lib.hid (SB.below Rs.out hb)
          have RD9 := Lib.hid (Below.tr RD.out hb)
          clear hb
          go_wp2
          go_roundw
          case rel => exact ⟨3, by omega, by go_num, Ra9.out, Rb9.out, Rs9.out, RD9.out⟩
          case measure => simp [intOf]
        · obtain ⟨f1, f2, f3⟩ := RF.out u vv (inSt_mk (by simp only; omega) (by simp only; omega)) (inSt_mk (by simp only; omega) (by simp only; omega))
          have ek0 : ((k : Int) == 0) = false := by simp; omega
          have ek1 : ((k : Int) == 1) = false := by simp; omega
          have ek2 : ((k : Int) == 2) = false := by simp; omega
          have F1 := Lib.hid f1
          have F2 := Lib.hid f2
          have F3 := Lib.hid f3
          clear f1 f2 f3
          go_wp2_with fail
          refine (doOp_any _ _ _ _ (Lib.hid (HT.out.bel RD.out))).mono ?_
          rw [F1.out, F2.out]
          rintro e v9 ⟨rfl, rfl⟩
          have y4 := Rs.out.c0
          have y5 := Rs.out.c1
          go_wp2_with fail
          refine (inI_any _ _ _ _).mono ?_
          rw [F3.out]
          rintro e r9 ⟨rfl, hb⟩
          have Ra9 := Lib.hid (SB.below Ra.out hb)
          have Rb9 := Lib.hid (SB.below Rb.out hb)
          have Rs9 := Lib.hid (SB.below Rs.out hb)
          have RD9 := Lib.hid (Below.tr RD.out hb)
          clear hb
          go_wp2
          go_roundw
          case rel => exact ⟨k + 1, by omega, by go_num, Ra9.out, Rb9.out, Rs9.out, RD9.out⟩
          case measure => simp [intOf]; omega
      · obtain rfl : k = 12 := by omega
        go_wp2_with fail
        refine (drawInSt_any a1 len1 cap1 _ (Lib.hid (h1.out.below RD.out))).mono ?_
        rintro e t1 ⟨cl, ch, nn, rfl, hb⟩
        have E1 := Lib.hid (Below.tr RD.out hb)
        clear hb
        obtain ⟨⟨q, r⟩, hq⟩ : ∃ q, inR ⟨cl, ch⟩ nn = q := ⟨_, rfl⟩
        have Qi := Lib.hid hq
        clear hq
        obtain ⟨⟨z, y⟩, hz⟩ : ∃ q, sizeR ⟨cl, ch⟩ = q := ⟨_, rfl⟩
        have Qz := Lib.hid hz
        clear hz
        have eq1 : (q == q) = true := by simp
        have er1 : (r == r) = true := by simp
        have ez1 : (z == z) = true := by simp
        have ey1 : (y == y) = true := by simp
        go_wp2_with fail
        have NB := one_news t1 cl ch
        unfold sO at NB
        have Fc := Lib.hid NB.out.1
        have E2 := Lib.hid (Below.tr E1.out NB.out.2)
        clear NB
        generalize (t1.alloc (.cells #[.int .i64 cl, .int .i64 ch] 46)) = t2 at Fc E2 ⊢
        refine (inI_any _ _ _ _).mono ?_
        rw [Qi.out]
        rintro e t3 ⟨rfl, hb⟩
        have Fc := Lib.hid (SB.below Fc.out hb)
        have cc := Fc.out.c0
        have cd := Fc.out.c1
        have E3 := Lib.hid (Below.tr E2.out hb)
        clear hb
        go_wp2_with fail
        refine (inM_any _ _ _ _).mono ?_
        rw [Qi.out]
        rintro e t4 ⟨rfl, hb⟩
        have Fc := Lib.hid (SB.below Fc.out hb)
        have cc := Fc.out.c0
        have cd := Fc.out.c1
        have E4 := Lib.hid (Below.tr E3.out hb)
        clear hb
        go_wp2_with fail
        refine (sizeI_any _ _ _).mono ?_
        rw [Qz.out]
        rintro e t5 ⟨rfl, hb⟩
        have Fc := Lib.hid (SB.below Fc.out hb)
        have cc := Fc.out.c0
        have cd := Fc.out.c1
        have E5 := Lib.hid (Below.tr E4.out hb)
        clear hb
        go_wp2_with fail
        refine (sizeM_any _ _ _).mono ?_
        rw [Qz.out]
        rintro e t6 ⟨rfl, hb⟩
        have Fc := Lib.hid (SB.below Fc.out hb)
        have cc := Fc.out.c0
        have cd := Fc.out.c1
        have E6 := Lib.hid (Below.tr E5.out hb)
        clear hb
        go_wp2
        go_ret
        exact ⟨rfl, E6.out⟩
end Go.Proofs.YtkffggnajoohfaaDoor.Op
