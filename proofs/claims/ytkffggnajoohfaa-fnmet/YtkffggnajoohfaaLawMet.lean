/-
  The walk of the law FnMet.
-/
import Derived.Test.YtkffggnajoohfaaSt3
import Derived.Test.YtkffggnajoohfaaSt5
import Derived.Test.YtkffggnajoohfaaSt6
import Derived.Test.YtkffggnajoohfaaStD2
import Derived.Test.YtkffggnajoohfaaNumOf
import Derived.Deep.DeepCutAuto
namespace Go.Proofs.Ytkffggnajoohfaa.Op
open Go.Proofs.Ytkffggnajoohfaa
open Go.ChangeShapes Go.WideShapes Go.ChangeAt Go.RowKit

/-- what the answers say of each other -/
theorem met_facts {a b : St} {m j x y : St} {mo jo so : Bool} (hm : meetR a b = (m, mo)) (hj : joinR a b = (j, jo)) (hs : splitR2 a b = (x, y, so)) (hjo : jo = true) :
    goodS a = true ∧ goodS b = true ∧ goodS j = true ∧ withinB a j = true ∧ withinB b j = true ∧ mo = (decide (a.lo ≤ b.hi) && decide (b.lo ≤ a.hi)) ∧ so = decide (a.lo < b.hi) ∧
    (mo = true → goodS m = true ∧ withinB m a = true ∧ withinB m b = true ∧ ∀ n, inSt a n = true → inSt b n = true → m.lo ≤ n ∧ n ≤ m.hi) ∧
    (so = true → ∀ u v, inSt a u = true → inSt b v = true → u < v → x.lo ≤ u ∧ u ≤ x.hi ∧ y.lo ≤ v ∧ v ≤ y.hi) := by
  subst hjo
  unfold joinR at hj
  cases hg : (goodS a && goodS b)
  · rw [hg] at hj; simp at hj
  rw [hg] at hj
  simp only [if_true, Prod.mk.injEq, and_true] at hj
  subst hj
  simp only [Bool.and_eq_true] at hg
  obtain ⟨ga, gb⟩ := hg
  unfold meetR at hm; unfold splitR2 at hs
  rw [ga, gb] at hm hs
  simp only [Bool.true_and] at hm hs
  have em : meetB a b = (decide (a.lo ≤ b.hi) && decide (b.lo ≤ a.hi)) := by
    rw [Bool.eq_iff_iff, meetB_iff ga gb]; simp
  refine ⟨ga, gb, joinSt_good ga gb, within_join.1, within_join.2, ?_, ?_, ?_, ?_⟩
  · cases hb : meetB a b <;> rw [hb] at hm <;> simp at hm <;> rw [← em, hb] <;> exact hm.2
  · have es : splitB a b = decide (a.lo < b.hi) := rfl
    cases hb : splitB a b <;> rw [hb] at hs <;> simp at hs <;> rw [← es, hb] <;> exact hs.2.2
  · intro hmo
    cases hb : meetB a b <;> rw [hb] at hm <;> simp at hm
    · rw [hmo] at hm; simp at hm
    · rw [← hm.1]
      exact ⟨meetSt_good ga gb hb, within_meet.1, within_meet.2, fun n h1 h2 => inSt_yes (meet_in.2 ⟨h1, h2⟩)⟩
  · intro hso u v hu hv huv
    cases hb : splitB a b <;> rw [hb] at hs <;> simp at hs
    · rw [hso] at hs; simp at hs
    · obtain ⟨h1, h2, _⟩ := hs
      subst h1 h2
      have h1 := inSt_yes ((split_left gb).2 ⟨hu, v, hv, huv⟩)
      have h2 := inSt_yes ((split_right ga).2 ⟨hv, u, hu, huv⟩)
      exact ⟨h1.1, h1.2, h2.1, h2.2⟩
theorem num_in {l h : Int} (N : Nat) (h0 : 0 ≤ l) (h1 : l ≤ h) (h2 : h < 65536) : ∃ u, IntKind.i64.wrap (l + (N : Int).tmod (h - l + 1)) = u ∧ l ≤ u ∧ u ≤ h := by
  have e := Int.tmod_eq_emod_of_nonneg (a := (N : Int)) (b := h - l + 1) (by omega)
  have h3 := Int.emod_nonneg (N : Int) (b := h - l + 1) (by omega)
  have h4 := Int.emod_lt_of_pos (N : Int) (b := h - l + 1) (by omega)
  rw [e]
  generalize (N : Int) % (h - l + 1) = q at h3 h4
  refine ⟨l + q, ?_, by omega, by omega⟩
  rw [IntKind.wrap_i64]; omega
theorem num_in7 {l h : Int} (N : Nat) (hN : N ≤ 1000003) (h0 : 0 ≤ l) (h1 : l ≤ h) (h2 : h < 65536) : ∃ u, IntKind.i64.wrap (l + (IntKind.i64.wrap ((N : Int) / 7)).tmod (h - l + 1)) = u ∧ l ≤ u ∧ u ≤ h := by
  have e : IntKind.i64.wrap ((N : Int) / 7) = ((N / 7 : Nat) : Int) := by rw [IntKind.wrap_i64]; omega
  rw [e]
  exact num_in (N / 7) h0 h1 h2
set_option maxRecDepth 100000 in
set_option maxHeartbeats 64000000 in
theorem lawMet (a0 : Option Addr) (len0 cap0 : Nat) (a1 : Option Addr) (len1 cap1 : Nat) (w : World) (h0 : Hid (Bytes w a0 len0)) (h1 : Hid (Bytes w a1 len1)) :
    Calls Try.prog 3 #[.slice a0 len0 cap0, .slice a1 len1 cap1] w fun e w' => e = .returned (.bool true) ∧ Below w.heap.size w w' := by
  by_cases hbig : (1048576 : Int) < wrap64 ((len0 : Int) + (len1 : Int))
  · go_enter Try.func3, Try.ntmps3
    go_wp2
    go_ret
    exact ⟨rfl, Below.refl _ _⟩
  have hdec : decide ((1048576 : Int) < wrap64 ((len0 : Int) + (len1 : Int))) = false := decide_eq_false hbig
  clear hbig
  go_enter Try.func3, Try.ntmps3
  go_wp2_with fail
  refine (drawMeetSt_any a0 len0 cap0 _ h0).mono ?_
  rintro e v1 ⟨al, ah, bl, bh, rfl, hb⟩
  have D1 := Lib.hid hb
  clear hb
  obtain ⟨⟨⟨ml, mh⟩, mo⟩, hm⟩ : ∃ q, meetR ⟨al, ah⟩ ⟨bl, bh⟩ = q := ⟨_, rfl⟩
  have Qm := Lib.hid hm
  clear hm
  obtain ⟨⟨⟨jl, jh⟩, jo⟩, hj⟩ : ∃ q, joinR ⟨al, ah⟩ ⟨bl, bh⟩ = q := ⟨_, rfl⟩
  have Qj := Lib.hid hj
  clear hj
  obtain ⟨⟨⟨xl, xh⟩, ⟨yl, yh⟩, so⟩, hs⟩ : ∃ q, splitR2 ⟨al, ah⟩ ⟨bl, bh⟩ = q := ⟨_, rfl⟩
  have Qs := Lib.hid hs
  clear hs
  have MF := Lib.hid (fun h => met_facts Qm.out Qj.out Qs.out h)
  have q0 := neq_st ml mh ml mh
  simp only [and_self, decide_true, Bool.not_true] at q0
  have q1 := neq_st jl jh jl jh
  simp only [and_self, decide_true, Bool.not_true] at q1
  have q2 := neq_st xl xh xl xh
  simp only [and_self, decide_true, Bool.not_true] at q2
  have q3 := neq_st yl yh yl yh
  simp only [and_self, decide_true, Bool.not_true] at q3
  have emo : (mo != mo) = false := by simp
  have ejo : (jo != jo) = false := by simp
  have eso : (so != so) = false := by simp
  go_wp2_with fail
  have NB := two_news v1 al ah bl bh
  unfold sO at NB
  have D1 := Lib.hid (Below.tr D1.out NB.out.2.2)
  have Fa := Lib.hid NB.out.1
  have Fb := Lib.hid NB.out.2.1
  clear NB
  generalize ((v1.alloc (.cells #[.int .i64 al, .int .i64 ah] 24)).alloc (.cells #[.int .i64 bl, .int .i64 bh] 24)) = u1 at Fa Fb D1 ⊢
  refine (meetI_any _ _ _ _ _).mono ?_
  rw [Qm.out]
  rintro e v2 ⟨rfl, hb⟩
  have Fa := Lib.hid (SB.below Fa.out hb)
  have Fb := Lib.hid (SB.below Fb.out hb)
  have D2 := Lib.hid (Below.tr D1.out hb)
  clear hb
  have ca := Fa.out.c0
  have da := Fa.out.c1
  have za := Fa.out.lt
  have cb := Fb.out.c0
  have db := Fb.out.c1
  have zb := Fb.out.lt
  go_wp2_with fail
  have NB := one_news v2 ml mh
  unfold sO at NB
  have Fa := Lib.hid (SB.below Fa.out NB.out.2)
  have Fb := Lib.hid (SB.below Fb.out NB.out.2)
  have D2 := Lib.hid (Below.tr D2.out NB.out.2)
  have Fm := Lib.hid NB.out.1
  clear NB
  generalize (v2.alloc (.cells #[.int .i64 ml, .int .i64 mh] 24)) = u2 at Fa Fb Fm D2 ⊢
  refine (meetM_any _ _ _ _ _).mono ?_
  rw [Qm.out]
  rintro e v3 ⟨rfl, hb⟩
  have Fa := Lib.hid (SB.below Fa.out hb)
  have Fb := Lib.hid (SB.below Fb.out hb)
  have Fm := Lib.hid (SB.below Fm.out hb)
  have D3 := Lib.hid (Below.tr D2.out hb)
  clear hb
  have ca := Fa.out.c0
  have da := Fa.out.c1
  have za := Fa.out.lt
  have cb := Fb.out.c0
  have db := Fb.out.c1
  have zb := Fb.out.lt
  go_wp2_with fail
  have NB := one_news v3 ml mh
  unfold sO at NB
  have Fa := Lib.hid (SB.below Fa.out NB.out.2)
  have Fb := Lib.hid (SB.below Fb.out NB.out.2)
  have Fm := Lib.hid (SB.below Fm.out NB.out.2)
  have D3 := Lib.hid (Below.tr D3.out NB.out.2)
  have Fn := Lib.hid NB.out.1
  clear NB
  generalize (v3.alloc (.cells #[.int .i64 ml, .int .i64 mh] 24)) = u3 at Fa Fb Fm Fn D3 ⊢
  refine (joinI_any _ _ _ _ _).mono ?_
  rw [Qj.out]
  rintro e v4 ⟨rfl, hb⟩
  have Fa := Lib.hid (SB.below Fa.out hb)
  have Fb := Lib.hid (SB.below Fb.out hb)
  have Fm := Lib.hid (SB.below Fm.out hb)
  have Fn := Lib.hid (SB.below Fn.out hb)
  have D4 := Lib.hid (Below.tr D3.out hb)
  clear hb
  have ca := Fa.out.c0
  have da := Fa.out.c1
  have za := Fa.out.lt
  have cb := Fb.out.c0
  have db := Fb.out.c1
  have zb := Fb.out.lt
  go_wp2_with fail
  have NB := one_news v4 jl jh
  unfold sO at NB
  have Fa := Lib.hid (SB.below Fa.out NB.out.2)
  have Fb := Lib.hid (SB.below Fb.out NB.out.2)
  have Fm := Lib.hid (SB.below Fm.out NB.out.2)
  have Fn := Lib.hid (SB.below Fn.out NB.out.2)
  have D4 := Lib.hid (Below.tr D4.out NB.out.2)
  have Fj := Lib.hid NB.out.1
  clear NB
  generalize (v4.alloc (.cells #[.int .i64 jl, .int .i64 jh] 24)) = u4 at Fa Fb Fm Fn Fj D4 ⊢
  refine (joinM_any _ _ _ _ _).mono ?_
  rw [Qj.out]
  rintro e v5 ⟨rfl, hb⟩
  have Fa := Lib.hid (SB.below Fa.out hb)
  have Fb := Lib.hid (SB.below Fb.out hb)
  have Fm := Lib.hid (SB.below Fm.out hb)
  have Fn := Lib.hid (SB.below Fn.out hb)
  have Fj := Lib.hid (SB.below Fj.out hb)
  have D5 := Lib.hid (Below.tr D4.out hb)
  clear hb
  have ca := Fa.out.c0
  have da := Fa.out.c1
  have za := Fa.out.lt
  have cb := Fb.out.c0
  have db := Fb.out.c1
  have zb := Fb.out.lt
  go_wp2_with fail
  have NB := one_news v5 jl jh
  unfold sO at NB
  have Fa := Lib.hid (SB.below Fa.out NB.out.2)
  have Fb := Lib.hid (SB.below Fb.out NB.out.2)
  have Fm := Lib.hid (SB.below Fm.out NB.out.2)
  have Fn := Lib.hid (SB.below Fn.out NB.out.2)
  have Fj := Lib.hid (SB.below Fj.out NB.out.2)
  have D5 := Lib.hid (Below.tr D5.out NB.out.2)
  have Fk := Lib.hid NB.out.1
  clear NB
  generalize (v5.alloc (.cells #[.int .i64 jl, .int .i64 jh] 24)) = u5 at Fa Fb Fm Fn Fj Fk D5 ⊢
  refine (splitI_any _ _ _ _ _).mono ?_
  rw [Qs.out]
  rintro e v6 ⟨rfl, hb⟩
  have Fa := Lib.hid (SB.below Fa.out hb)
  have Fb := Lib.hid (SB.below Fb.out hb)
  have Fm := Lib.hid (SB.below Fm.out hb)
  have Fn := Lib.hid (SB.below Fn.out hb)
  have Fj := Lib.hid (SB.below Fj.out hb)
  have Fk := Lib.hid (SB.below Fk.out hb)
  have D6 := Lib.hid (Below.tr D5.out hb)
  clear hb
  have ca := Fa.out.c0
  have da := Fa.out.c1
  have za := Fa.out.lt
  have cb := Fb.out.c0
  have db := Fb.out.c1
  have zb := Fb.out.lt
  go_wp2_with fail
  have NB := two_news v6 xl xh yl yh
  unfold sO at NB
  have Fa := Lib.hid (SB.below Fa.out NB.out.2.2)
  have Fb := Lib.hid (SB.below Fb.out NB.out.2.2)
  have Fm := Lib.hid (SB.below Fm.out NB.out.2.2)
  have Fn := Lib.hid (SB.below Fn.out NB.out.2.2)
  have Fj := Lib.hid (SB.below Fj.out NB.out.2.2)
  have Fk := Lib.hid (SB.below Fk.out NB.out.2.2)
  have D6 := Lib.hid (Below.tr D6.out NB.out.2.2)
  have Fx := Lib.hid NB.out.1
  have Fy := Lib.hid NB.out.2.1
  clear NB
  generalize ((v6.alloc (.cells #[.int .i64 xl, .int .i64 xh] 24)).alloc (.cells #[.int .i64 yl, .int .i64 yh] 24)) = u6 at Fa Fb Fm Fn Fj Fk Fx Fy D6 ⊢
  refine (splitM_any _ _ _ _ _).mono ?_
  rw [Qs.out]
  rintro e v7 ⟨rfl, hb⟩
  have Fa := Lib.hid (SB.below Fa.out hb)
  have Fb := Lib.hid (SB.below Fb.out hb)
  have Fm := Lib.hid (SB.below Fm.out hb)
  have Fn := Lib.hid (SB.below Fn.out hb)
  have Fj := Lib.hid (SB.below Fj.out hb)
  have Fk := Lib.hid (SB.below Fk.out hb)
  have Fx := Lib.hid (SB.below Fx.out hb)
  have Fy := Lib.hid (SB.below Fy.out hb)
  have D7 := Lib.hid (Below.tr D6.out hb)
  clear hb
  have ca := Fa.out.c0
  have da := Fa.out.c1
  have za := Fa.out.lt
  have cb := Fb.out.c0
  have db := Fb.out.c1
  have zb := Fb.out.lt
  have cm := Fm.out.c0
  have dm := Fm.out.c1
  have zm := Fm.out.lt
  have cn := Fn.out.c0
  have dn := Fn.out.c1
  have zn := Fn.out.lt
  have cj := Fj.out.c0
  have dj := Fj.out.c1
  have zj := Fj.out.lt
  have ck := Fk.out.c0
  have dk := Fk.out.c1
  have zk := Fk.out.lt
  have cx := Fx.out.c0
  have dx := Fx.out.c1
  have zx := Fx.out.lt
  have cy := Fy.out.c0
  have dy := Fy.out.c1
  have zy := Fy.out.lt
  cases jo
  · go_wp2_with fail
    have NB := two_news v7 xl xh yl yh
    unfold sO at NB
    have Fa := Lib.hid (SB.below Fa.out NB.out.2.2)
    have Fb := Lib.hid (SB.below Fb.out NB.out.2.2)
    have Fm := Lib.hid (SB.below Fm.out NB.out.2.2)
    have Fn := Lib.hid (SB.below Fn.out NB.out.2.2)
    have Fj := Lib.hid (SB.below Fj.out NB.out.2.2)
    have Fk := Lib.hid (SB.below Fk.out NB.out.2.2)
    have Fx := Lib.hid (SB.below Fx.out NB.out.2.2)
    have Fy := Lib.hid (SB.below Fy.out NB.out.2.2)
    have D7 := Lib.hid (Below.tr D7.out NB.out.2.2)
    have Fl := Lib.hid NB.out.1
    have Fg := Lib.hid NB.out.2.1
    clear NB
    generalize ((v7.alloc (.cells #[.int .i64 xl, .int .i64 xh] 24)).alloc (.cells #[.int .i64 yl, .int .i64 yh] 24)) = u7 at Fa Fb Fm Fn Fj Fk Fx Fy Fl Fg D7 ⊢
    have E0 := Lib.hid (D7.out)
    refine (drawWithinSt_any a1 len1 cap1 _ (Lib.hid (h1.out.below E0.out))).mono ?_
    rintro e t1 ⟨cl, ch, dl, dh, rfl, hb⟩
    have E1 := Lib.hid (Below.tr E0.out hb)
    clear hb
    obtain ⟨⟨q, r⟩, hq⟩ : ∃ q, withinR ⟨cl, ch⟩ ⟨dl, dh⟩ = q := ⟨_, rfl⟩
    have Qw := Lib.hid hq
    clear hq
    have eq1 : (q == q) = true := by simp
    have er1 : (r == r) = true := by simp
    go_wp2_with fail
    have NB := two_news t1 cl ch dl dh
    unfold sO at NB
    have Fc := Lib.hid NB.out.1
    have Fd := Lib.hid NB.out.2.1
    have E2 := Lib.hid (Below.tr E1.out NB.out.2.2)
    clear NB
    generalize ((t1.alloc (.cells #[.int .i64 cl, .int .i64 ch] 24)).alloc (.cells #[.int .i64 dl, .int .i64 dh] 24)) = t2 at Fc Fd E2 ⊢
    refine (withinI_any _ _ _ _ _).mono ?_
    rw [Qw.out]
    rintro e t3 ⟨rfl, hb⟩
    have cc := (SB.below Fc.out hb).c0
    have cd := (SB.below Fc.out hb).c1
    have dc := (SB.below Fd.out hb).c0
    have dd := (SB.below Fd.out hb).c1
    have E3 := Lib.hid (Below.tr E2.out hb)
    clear hb
    go_wp2_with fail
    refine (withinM_any _ _ _ _ _).mono ?_
    rw [Qw.out]
    rintro e t4 ⟨rfl, hb⟩
    have E4 := Lib.hid (Below.tr E3.out hb)
    clear hb
    go_wp2
    go_ret
    exact ⟨rfl, E4.out⟩
  · obtain ⟨ga, gb, gj, wa, wb, emo2, eso2, fm, fs⟩ := MF.out rfl
    try simp only at emo2 eso2 fm fs
    have W1 : Hid (withinR ⟨al, ah⟩ ⟨jl, jh⟩ = (true, true)) := Lib.hid (by unfold withinR; rw [ga, gj, wa]; rfl)
    have W2 : Hid (withinR ⟨bl, bh⟩ ⟨jl, jh⟩ = (true, true)) := Lib.hid (by unfold withinR; rw [gb, gj, wb]; rfl)
    obtain ⟨z1, z2, z3⟩ := goodS_yes ga
    obtain ⟨z4, z5, z6⟩ := goodS_yes gb
    simp only at z1 z2 z3 z4 z5 z6
    have GA := Lib.hid ga
    have GB := Lib.hid gb
    have FM := Lib.hid fm
    have FS := Lib.hid fs
    clear ga gb gj wa wb fm fs MF
    have M1 := Lib.hid emo2
    have M2 := Lib.hid eso2
    clear emo2 eso2
    rcases (show (al ≤ bh ∧ bl ≤ ah ∧ al < bh) ∨ (al ≤ bh ∧ bl ≤ ah ∧ bh ≤ al) ∨ (al ≤ bh ∧ ah < bl ∧ al < bh) ∨ (bh < al ∧ bl ≤ ah ∧ bh ≤ al) by omega) with ⟨k1, k2, k3⟩ | ⟨k1, k2, k3⟩ | ⟨k1, k2, k3⟩ | ⟨k1, k2, k3⟩
    · have hmo : mo = true := by have h := M1.out; rw [h, Bool.eq_iff_iff]; simp <;> omega
      have hso : so = true := by have h := M2.out; rw [h, Bool.eq_iff_iff]; simp <;> omega
      subst hmo hso
      obtain ⟨gm, wma, wmb, FI⟩ := FM.out rfl
      have W3 : Hid (withinR ⟨ml, mh⟩ ⟨al, ah⟩ = (true, true)) := Lib.hid (by unfold withinR; rw [gm, GA.out, wma]; rfl)
      have W4 : Hid (withinR ⟨ml, mh⟩ ⟨bl, bh⟩ = (true, true)) := Lib.hid (by unfold withinR; rw [gm, GB.out, wmb]; rfl)
      have HFI := Lib.hid FI
      clear gm wma wmb FI
      go_wp2_with fail
      have NB := two_news v7 xl xh yl yh
      unfold sO at NB
      have Fa := Lib.hid (SB.below Fa.out NB.out.2.2)
      have Fb := Lib.hid (SB.below Fb.out NB.out.2.2)
      have Fm := Lib.hid (SB.below Fm.out NB.out.2.2)
      have Fn := Lib.hid (SB.below Fn.out NB.out.2.2)
      have Fj := Lib.hid (SB.below Fj.out NB.out.2.2)
      have Fk := Lib.hid (SB.below Fk.out NB.out.2.2)
      have Fx := Lib.hid (SB.below Fx.out NB.out.2.2)
      have Fy := Lib.hid (SB.below Fy.out NB.out.2.2)
      have D7 := Lib.hid (Below.tr D7.out NB.out.2.2)
      have Fl := Lib.hid NB.out.1
      have Fg := Lib.hid NB.out.2.1
      clear NB
      generalize ((v7.alloc (.cells #[.int .i64 xl, .int .i64 xh] 24)).alloc (.cells #[.int .i64 yl, .int .i64 yh] 24)) = u7 at Fa Fb Fm Fn Fj Fk Fx Fy Fl Fg D7 ⊢
      refine (withinI_any _ _ _ _ _).mono ?_
      rw [W1.out]
      rintro e v8 ⟨rfl, hb⟩
      have Fa := Lib.hid (SB.below Fa.out hb)
      have Fb := Lib.hid (SB.below Fb.out hb)
      have Fm := Lib.hid (SB.below Fm.out hb)
      have Fn := Lib.hid (SB.below Fn.out hb)
      have Fj := Lib.hid (SB.below Fj.out hb)
      have Fk := Lib.hid (SB.below Fk.out hb)
      have Fx := Lib.hid (SB.below Fx.out hb)
      have Fy := Lib.hid (SB.below Fy.out hb)
      have Fl := Lib.hid (SB.below Fl.out hb)
      have Fg := Lib.hid (SB.below Fg.out hb)
      have D8 := Lib.hid (Below.tr D7.out hb)
      clear hb
      have ca := Fa.out.c0
      have da := Fa.out.c1
      have za := Fa.out.lt
      have cb := Fb.out.c0
      have db := Fb.out.c1
      have zb := Fb.out.lt
      have cj := Fj.out.c0
      have dj := Fj.out.c1
      have zj := Fj.out.lt
      go_wp2_with fail
      refine (withinI_any _ _ _ _ _).mono ?_
      rw [W2.out]
      rintro e v9 ⟨rfl, hb⟩
      have Fa := Lib.hid (SB.below Fa.out hb)
      have Fb := Lib.hid (SB.below Fb.out hb)
      have Fm := Lib.hid (SB.below Fm.out hb)
      have Fn := Lib.hid (SB.below Fn.out hb)
      have Fj := Lib.hid (SB.below Fj.out hb)
      have Fk := Lib.hid (SB.below Fk.out hb)
      have Fx := Lib.hid (SB.below Fx.out hb)
      have Fy := Lib.hid (SB.below Fy.out hb)
      have Fl := Lib.hid (SB.below Fl.out hb)
      have Fg := Lib.hid (SB.below Fg.out hb)
      have D9 := Lib.hid (Below.tr D8.out hb)
      clear hb
      have ca := Fa.out.c0
      have da := Fa.out.c1
      have za := Fa.out.lt
      have cb := Fb.out.c0
      have db := Fb.out.c1
      have zb := Fb.out.lt
      have cm := Fm.out.c0
      have dm := Fm.out.c1
      have zm := Fm.out.lt
      have cx := Fx.out.c0
      have dx := Fx.out.c1
      have zx := Fx.out.lt
      have cy := Fy.out.c0
      have dy := Fy.out.c1
      have zy := Fy.out.lt
      go_wp2_with fail
      refine (withinI_any _ _ _ _ _).mono ?_
      rw [W3.out]
      rintro e v10 ⟨rfl, hb⟩
      have Fa := Lib.hid (SB.below Fa.out hb)
      have Fb := Lib.hid (SB.below Fb.out hb)
      have Fm := Lib.hid (SB.below Fm.out hb)
      have Fn := Lib.hid (SB.below Fn.out hb)
      have Fj := Lib.hid (SB.below Fj.out hb)
      have Fk := Lib.hid (SB.below Fk.out hb)
      have Fx := Lib.hid (SB.below Fx.out hb)
      have Fy := Lib.hid (SB.below Fy.out hb)
      have Fl := Lib.hid (SB.below Fl.out hb)
      have Fg := Lib.hid (SB.below Fg.out hb)
      have D10 := Lib.hid (Below.tr D9.out hb)
      clear hb
      have cb := Fb.out.c0
      have db := Fb.out.c1
      have zb := Fb.out.lt
      have cm := Fm.out.c0
      have dm := Fm.out.c1
      have zm := Fm.out.lt
      go_wp2_with fail
      refine (withinI_any _ _ _ _ _).mono ?_
      rw [W4.out]
      rintro e v11 ⟨rfl, hb⟩
      have Fa := Lib.hid (SB.below Fa.out hb)
      have Fb := Lib.hid (SB.below Fb.out hb)
      have Fm := Lib.hid (SB.below Fm.out hb)
      have Fn := Lib.hid (SB.below Fn.out hb)
      have Fj := Lib.hid (SB.below Fj.out hb)
      have Fk := Lib.hid (SB.below Fk.out hb)
      have Fx := Lib.hid (SB.below Fx.out hb)
      have Fy := Lib.hid (SB.below Fy.out hb)
      have Fl := Lib.hid (SB.below Fl.out hb)
      have Fg := Lib.hid (SB.below Fg.out hb)
      have D11 := Lib.hid (Below.tr D10.out hb)
      clear hb
      have ca := Fa.out.c0
      have da := Fa.out.c1
      have za := Fa.out.lt
      have cb := Fb.out.c0
      have db := Fb.out.c1
      have zb := Fb.out.lt
      have cm := Fm.out.c0
      have dm := Fm.out.c1
      have zm := Fm.out.lt
      have cx := Fx.out.c0
      have dx := Fx.out.c1
      have zx := Fx.out.lt
      have cy := Fy.out.c0
      have dy := Fy.out.c1
      have zy := Fy.out.lt
      go_wp2_with fail
      have nz1 : ¬ (ah - al + 1 = 0) := by omega
      have nz2 : ¬ (bh - bl + 1 = 0) := by omega
      refine wp_region_held_drew (S := fun W => W.cell? ⟨v1.heap.size, 0, none⟩ = some (.int .i64 al) ∧ W.cell? ⟨v1.heap.size, 1, none⟩ = some (.int .i64 ah)) (by kernel_rfl) ?_ (fun hHeld => ?_)
      · exact ⟨Fa.out.c0, Fa.out.c1⟩
      refine wpAnyH_take (i := 0) (v := ?_) rfl (by kernel_rfl) (by kernel_rfl) (by kernel_rfl) (fun _ _ _ h => h) (Or.inl ⟨by rfl, ?_⟩) (by assumption) ?_
      rotate_left
      · intro W hSw
        try dsimp only at hSw
        go_simp
        try with_reducible rfl
      refine wpAnyH_take (i := 2) (v := ?_) rfl (by kernel_rfl) (by kernel_rfl) (by kernel_rfl) (fun _ _ _ h => h) (Or.inl ⟨by rfl, ?_⟩) (by assumption) ?_
      rotate_left
      · intro W hSw
        try dsimp only at hSw
        go_simp
        try with_reducible rfl
      refine wpAnyH_take (i := 4) (v := ?_) rfl (by kernel_rfl) (by kernel_rfl) (by kernel_rfl) (fun _ _ _ h => h) (Or.inl ⟨by rfl, ?_⟩) (by assumption) ?_
      rotate_left
      · intro W hSw
        try dsimp only at hSw
        go_simp
        try with_reducible rfl
      refine wpAnyH_take (i := 1) (v := ?_) rfl (by kernel_rfl) (by kernel_rfl) (by kernel_rfl) (fun _ _ _ h => h) (Or.inl ⟨by rfl, ?_⟩) (by assumption) ?_
      rotate_left
      · intro W hSw
        try dsimp only at hSw
        go_simp
        try with_reducible rfl
      refine wpAnyH_ready (rs := [3]) (by kernel_rfl) (by simp) ?_
      refine AllReadyH.cons rfl (fun K hK => ?_) AllReadyH.nil
      go_simp
      refine (number_any a1 len1 cap1 _ (Lib.hid (h1.out.below (Below.drew D11.out)))).mono ?_
      rintro e v9 ⟨⟨N1, rfl, hN1⟩, rfl⟩
      refine hK.out _ _ (by assumption) (fun hHeld2 => ?_)
      clear hK K
      refine wpAnyH_take (i := 5) (v := ?_) rfl (by kernel_rfl) (by kernel_rfl) (by kernel_rfl) (fun _ _ _ h => h) (Or.inl ⟨by rfl, ?_⟩) (by assumption) ?_
      rotate_left
      · intro W hSw
        try dsimp only at hSw
        go_simp
        try with_reducible rfl
      refine wpAnyH_take (i := 6) (v := ?_) rfl (by kernel_rfl) (by kernel_rfl) (by kernel_rfl) (fun _ _ _ h => h) (Or.inl ⟨by rfl, ?_⟩) (by assumption) ?_
      rotate_left
      · intro W hSw
        try dsimp only at hSw
        go_simp
        try with_reducible rfl
      refine wpAnyH_ready (rs := [7]) (by kernel_rfl) (by simp) ?_
      refine AllReadyH.cons rfl (fun K hK => ?_) AllReadyH.nil
      go_simp
      refine hK.out _ _ ⟨Fa.out.c0, Fa.out.c1⟩ (fun hHeld2 => ?_)
      clear hK K
      refine wpAnyH_done (by kernel_rfl) ?_ _
      go_upto_region 25 with fail
      have Fa : Hid (SB (World.drew v11) (v1.heap.size) al ah) := Fa
      have Fb : Hid (SB (World.drew v11) (v1.heap.size + 1) bl bh) := Fb
      have Fm : Hid (SB (World.drew v11) (v2.heap.size) ml mh) := Fm
      have Fn : Hid (SB (World.drew v11) (v3.heap.size) ml mh) := Fn
      have Fj : Hid (SB (World.drew v11) (v4.heap.size) jl jh) := Fj
      have Fk : Hid (SB (World.drew v11) (v5.heap.size) jl jh) := Fk
      have Fx : Hid (SB (World.drew v11) (v6.heap.size) xl xh) := Fx
      have Fy : Hid (SB (World.drew v11) (v6.heap.size + 1) yl yh) := Fy
      have Fl : Hid (SB (World.drew v11) (v7.heap.size) xl xh) := Fl
      have Fg : Hid (SB (World.drew v11) (v7.heap.size + 1) yl yh) := Fg
      have D11 : Hid (Below w.heap.size w (World.drew v11)) := Lib.hid (Below.drew D11.out)
      have ca := Fa.out.c0
      have da := Fa.out.c1
      have cb := Fb.out.c0
      have db := Fb.out.c1
      have cm := Fm.out.c0
      have dm := Fm.out.c1
      have cn := Fn.out.c0
      have dn := Fn.out.c1
      have cj := Fj.out.c0
      have dj := Fj.out.c1
      have ck := Fk.out.c0
      have dk := Fk.out.c1
      have cx := Fx.out.c0
      have dx := Fx.out.c1
      have cy := Fy.out.c0
      have dy := Fy.out.c1
      have cl := Fl.out.c0
      have dl := Fl.out.c1
      have cg := Fg.out.c0
      have dg := Fg.out.c1
      generalize World.drew v11 = v11d at Fa ca da Fb cb db Fm cm dm Fn cn dn Fj cj dj Fk ck dk Fx cx dx Fy cy dy Fl cl dl Fg cg dg D11 ⊢
      refine wp_region_held_drew (S := fun W => W.cell? ⟨v1.heap.size + 1, 0, none⟩ = some (.int .i64 bl) ∧ W.cell? ⟨v1.heap.size + 1, 1, none⟩ = some (.int .i64 bh)) (by kernel_rfl) ?_ (fun hHeld => ?_)
      · exact ⟨Fb.out.c0, Fb.out.c1⟩
      refine wpAnyH_take (i := 0) (v := ?_) rfl (by kernel_rfl) (by kernel_rfl) (by kernel_rfl) (fun _ _ _ h => h) (Or.inl ⟨by rfl, ?_⟩) (by assumption) ?_
      rotate_left
      · intro W hSw
        try dsimp only at hSw
        go_simp
        try with_reducible rfl
      refine wpAnyH_take (i := 2) (v := ?_) rfl (by kernel_rfl) (by kernel_rfl) (by kernel_rfl) (fun _ _ _ h => h) (Or.inl ⟨by rfl, ?_⟩) (by assumption) ?_
      rotate_left
      · intro W hSw
        try dsimp only at hSw
        go_simp
        try with_reducible rfl
      refine wpAnyH_take (i := 5) (v := ?_) rfl (by kernel_rfl) (by kernel_rfl) (by kernel_rfl) (fun _ _ _ h => h) (Or.inl ⟨by rfl, ?_⟩) (by assumption) ?_
      rotate_left
      · intro W hSw
        try dsimp only at hSw
        go_simp
        try with_reducible rfl
      refine wpAnyH_take (i := 1) (v := ?_) rfl (by kernel_rfl) (by kernel_rfl) (by kernel_rfl) (fun _ _ _ h => h) (Or.inl ⟨by rfl, ?_⟩) (by assumption) ?_
      rotate_left
      · intro W hSw
        try dsimp only at hSw
        go_simp
        try with_reducible rfl
      refine wpAnyH_ready (rs := [3]) (by kernel_rfl) (by simp) ?_
      refine AllReadyH.cons rfl (fun K hK => ?_) AllReadyH.nil
      go_simp
      refine (number_any a1 len1 cap1 _ (Lib.hid (h1.out.below (Below.drew D11.out)))).mono ?_
      rintro e v9 ⟨⟨N2, rfl, hN2⟩, rfl⟩
      refine hK.out _ _ (by assumption) (fun hHeld2 => ?_)
      clear hK K
      refine wpAnyH_take (i := 4) (v := ?_) rfl (by kernel_rfl) (by kernel_rfl) (by kernel_rfl) (fun _ _ _ h => h) (Or.inl ⟨by rfl, ?_⟩) (by assumption) ?_
      rotate_left
      · intro W hSw
        try dsimp only at hSw
        go_simp
        try with_reducible rfl
      refine wpAnyH_take (i := 6) (v := ?_) rfl (by kernel_rfl) (by kernel_rfl) (by kernel_rfl) (fun _ _ _ h => h) (Or.inl ⟨by rfl, ?_⟩) (by assumption) ?_
      rotate_left
      · intro W hSw
        try dsimp only at hSw
        go_simp
        try with_reducible rfl
      refine wpAnyH_take (i := 7) (v := ?_) rfl (by kernel_rfl) (by kernel_rfl) (by kernel_rfl) (fun _ _ _ h => h) (Or.inl ⟨by rfl, ?_⟩) (by assumption) ?_
      rotate_left
      · intro W hSw
        try dsimp only at hSw
        go_simp
        try with_reducible rfl
      refine wpAnyH_ready (rs := [8]) (by kernel_rfl) (by simp) ?_
      refine AllReadyH.cons rfl (fun K hK => ?_) AllReadyH.nil
      go_simp
      refine hK.out _ _ ⟨Fb.out.c0, Fb.out.c1⟩ (fun hHeld2 => ?_)
      clear hK K
      refine wpAnyH_done (by kernel_rfl) ?_ _
      go_upto_region 26 with fail
      have Fa : Hid (SB (World.drew v11d) (v1.heap.size) al ah) := Fa
      have Fb : Hid (SB (World.drew v11d) (v1.heap.size + 1) bl bh) := Fb
      have Fm : Hid (SB (World.drew v11d) (v2.heap.size) ml mh) := Fm
      have Fn : Hid (SB (World.drew v11d) (v3.heap.size) ml mh) := Fn
      have Fj : Hid (SB (World.drew v11d) (v4.heap.size) jl jh) := Fj
      have Fk : Hid (SB (World.drew v11d) (v5.heap.size) jl jh) := Fk
      have Fx : Hid (SB (World.drew v11d) (v6.heap.size) xl xh) := Fx
      have Fy : Hid (SB (World.drew v11d) (v6.heap.size + 1) yl yh) := Fy
      have Fl : Hid (SB (World.drew v11d) (v7.heap.size) xl xh) := Fl
      have Fg : Hid (SB (World.drew v11d) (v7.heap.size + 1) yl yh) := Fg
      have D11 : Hid (Below w.heap.size w (World.drew v11d)) := Lib.hid (Below.drew D11.out)
      have ca := Fa.out.c0
      have da := Fa.out.c1
      have cb := Fb.out.c0
      have db := Fb.out.c1
      have cm := Fm.out.c0
      have dm := Fm.out.c1
      have cn := Fn.out.c0
      have dn := Fn.out.c1
      have cj := Fj.out.c0
      have dj := Fj.out.c1
      have ck := Fk.out.c0
      have dk := Fk.out.c1
      have cx := Fx.out.c0
      have dx := Fx.out.c1
      have cy := Fy.out.c0
      have dy := Fy.out.c1
      have cl := Fl.out.c0
      have dl := Fl.out.c1
      have cg := Fg.out.c0
      have dg := Fg.out.c1
      generalize World.drew v11d = v11dd at Fa ca da Fb cb db Fm cm dm Fn cn dn Fj cj dj Fk ck dk Fx cx dx Fy cy dy Fl cl dl Fg cg dg D11 ⊢
      obtain ⟨u, hu, u1, u2⟩ := num_in N1 z1 z2 z3
      obtain ⟨vv, hv, y1, y2⟩ := num_in7 N2 hN2 z4 z5 z6
      rw [hu, hv]
      clear hu hv hN1 hN2
      have IU : inSt ⟨al, ah⟩ u = true := inSt_mk u1 u2
      have IV : inSt ⟨bl, bh⟩ vv = true := inSt_mk y1 y2
      rcases (show u < vv ∨ u = vv ∨ vv < u by omega) with huv | huv | huv
      · obtain ⟨g1, g2, g3, g4⟩ := FS.out (by first | rfl | trivial) u vv IU IV huv
        try simp only at g1 g2 g3 g4
        have e9 : (u == vv) = false := by simp; omega
        clear IU IV
        go_wp2_with fail
        refine (drawWithinSt_any a1 len1 cap1 _ (Lib.hid (h1.out.below D11.out))).mono ?_
        rintro e t1 ⟨cl, ch, dl, dh, rfl, hb⟩
        have E1 := Lib.hid (Below.tr D11.out hb)
        clear hb
        obtain ⟨⟨q, r⟩, hq⟩ : ∃ q, withinR ⟨cl, ch⟩ ⟨dl, dh⟩ = q := ⟨_, rfl⟩
        have Qw := Lib.hid hq
        clear hq
        have eq1 : (q == q) = true := by simp
        have er1 : (r == r) = true := by simp
        go_wp2_with fail
        have NB := two_news t1 cl ch dl dh
        unfold sO at NB
        have Fc := Lib.hid NB.out.1
        have Fd := Lib.hid NB.out.2.1
        have E2 := Lib.hid (Below.tr E1.out NB.out.2.2)
        clear NB
        generalize ((t1.alloc (.cells #[.int .i64 cl, .int .i64 ch] 24)).alloc (.cells #[.int .i64 dl, .int .i64 dh] 24)) = t2 at Fc Fd E2 ⊢
        refine (withinI_any _ _ _ _ _).mono ?_
        rw [Qw.out]
        rintro e t3 ⟨rfl, hb⟩
        have cc := (SB.below Fc.out hb).c0
        have cd := (SB.below Fc.out hb).c1
        have dc := (SB.below Fd.out hb).c0
        have dd := (SB.below Fd.out hb).c1
        have E3 := Lib.hid (Below.tr E2.out hb)
        clear hb
        go_wp2_with fail
        refine (withinM_any _ _ _ _ _).mono ?_
        rw [Qw.out]
        rintro e t4 ⟨rfl, hb⟩
        have E4 := Lib.hid (Below.tr E3.out hb)
        clear hb
        go_wp2
        go_ret
        exact ⟨rfl, E4.out⟩
      · subst huv
        obtain ⟨g1, g2⟩ := HFI.out u IU IV
        try simp only at g1 g2
        have e9 : (u == u) = true := by simp
        clear IU IV
        go_wp2_with fail
        refine (drawWithinSt_any a1 len1 cap1 _ (Lib.hid (h1.out.below D11.out))).mono ?_
        rintro e t1 ⟨cl, ch, dl, dh, rfl, hb⟩
        have E1 := Lib.hid (Below.tr D11.out hb)
        clear hb
        obtain ⟨⟨q, r⟩, hq⟩ : ∃ q, withinR ⟨cl, ch⟩ ⟨dl, dh⟩ = q := ⟨_, rfl⟩
        have Qw := Lib.hid hq
        clear hq
        have eq1 : (q == q) = true := by simp
        have er1 : (r == r) = true := by simp
        go_wp2_with fail
        have NB := two_news t1 cl ch dl dh
        unfold sO at NB
        have Fc := Lib.hid NB.out.1
        have Fd := Lib.hid NB.out.2.1
        have E2 := Lib.hid (Below.tr E1.out NB.out.2.2)
        clear NB
        generalize ((t1.alloc (.cells #[.int .i64 cl, .int .i64 ch] 24)).alloc (.cells #[.int .i64 dl, .int .i64 dh] 24)) = t2 at Fc Fd E2 ⊢
        refine (withinI_any _ _ _ _ _).mono ?_
        rw [Qw.out]
        rintro e t3 ⟨rfl, hb⟩
        have cc := (SB.below Fc.out hb).c0
        have cd := (SB.below Fc.out hb).c1
        have dc := (SB.below Fd.out hb).c0
        have dd := (SB.below Fd.out hb).c1
        have E3 := Lib.hid (Below.tr E2.out hb)
        clear hb
        go_wp2_with fail
        refine (withinM_any _ _ _ _ _).mono ?_
        rw [Qw.out]
        rintro e t4 ⟨rfl, hb⟩
        have E4 := Lib.hid (Below.tr E3.out hb)
        clear hb
        go_wp2
        go_ret
        exact ⟨rfl, E4.out⟩
      · have e9 : (u == vv) = false := by simp; omega
        have e8 : ¬ u < vv := by omega
        clear IU IV
        go_wp2_with fail
        refine (drawWithinSt_any a1 len1 cap1 _ (Lib.hid (h1.out.below D11.out))).mono ?_
        rintro e t1 ⟨cl, ch, dl, dh, rfl, hb⟩
        have E1 := Lib.hid (Below.tr D11.out hb)
        clear hb
        obtain ⟨⟨q, r⟩, hq⟩ : ∃ q, withinR ⟨cl, ch⟩ ⟨dl, dh⟩ = q := ⟨_, rfl⟩
        have Qw := Lib.hid hq
        clear hq
        have eq1 : (q == q) = true := by simp
        have er1 : (r == r) = true := by simp
        go_wp2_with fail
        have NB := two_news t1 cl ch dl dh
        unfold sO at NB
        have Fc := Lib.hid NB.out.1
        have Fd := Lib.hid NB.out.2.1
        have E2 := Lib.hid (Below.tr E1.out NB.out.2.2)
        clear NB
        generalize ((t1.alloc (.cells #[.int .i64 cl, .int .i64 ch] 24)).alloc (.cells #[.int .i64 dl, .int .i64 dh] 24)) = t2 at Fc Fd E2 ⊢
        refine (withinI_any _ _ _ _ _).mono ?_
        rw [Qw.out]
        rintro e t3 ⟨rfl, hb⟩
        have cc := (SB.below Fc.out hb).c0
        have cd := (SB.below Fc.out hb).c1
        have dc := (SB.below Fd.out hb).c0
        have dd := (SB.below Fd.out hb).c1
        have E3 := Lib.hid (Below.tr E2.out hb)
        clear hb
        go_wp2_with fail
        refine (withinM_any _ _ _ _ _).mono ?_
        rw [Qw.out]
        rintro e t4 ⟨rfl, hb⟩
        have E4 := Lib.hid (Below.tr E3.out hb)
        clear hb
        go_wp2
        go_ret
        exact ⟨rfl, E4.out⟩
    · have hmo : mo = true := by have h := M1.out; rw [h, Bool.eq_iff_iff]; simp <;> omega
      have hso : so = false := by have h := M2.out; rw [h, Bool.eq_iff_iff]; simp <;> omega
      subst hmo hso
      obtain ⟨gm, wma, wmb, FI⟩ := FM.out rfl
      have W3 : Hid (withinR ⟨ml, mh⟩ ⟨al, ah⟩ = (true, true)) := Lib.hid (by unfold withinR; rw [gm, GA.out, wma]; rfl)
      have W4 : Hid (withinR ⟨ml, mh⟩ ⟨bl, bh⟩ = (true, true)) := Lib.hid (by unfold withinR; rw [gm, GB.out, wmb]; rfl)
      have HFI := Lib.hid FI
      clear gm wma wmb FI
      go_wp2_with fail
      have NB := two_news v7 xl xh yl yh
      unfold sO at NB
      have Fa := Lib.hid (SB.below Fa.out NB.out.2.2)
      have Fb := Lib.hid (SB.below Fb.out NB.out.2.2)
      have Fm := Lib.hid (SB.below Fm.out NB.out.2.2)
      have Fn := Lib.hid (SB.below Fn.out NB.out.2.2)
      have Fj := Lib.hid (SB.below Fj.out NB.out.2.2)
      have Fk := Lib.hid (SB.below Fk.out NB.out.2.2)
      have Fx := Lib.hid (SB.below Fx.out NB.out.2.2)
      have Fy := Lib.hid (SB.below Fy.out NB.out.2.2)
      have D7 := Lib.hid (Below.tr D7.out NB.out.2.2)
      have Fl := Lib.hid NB.out.1
      have Fg := Lib.hid NB.out.2.1
      clear NB
      generalize ((v7.alloc (.cells #[.int .i64 xl, .int .i64 xh] 24)).alloc (.cells #[.int .i64 yl, .int .i64 yh] 24)) = u7 at Fa Fb Fm Fn Fj Fk Fx Fy Fl Fg D7 ⊢
      refine (withinI_any _ _ _ _ _).mono ?_
      rw [W1.out]
      rintro e v8 ⟨rfl, hb⟩
      have Fa := Lib.hid (SB.below Fa.out hb)
      have Fb := Lib.hid (SB.below Fb.out hb)
      have Fm := Lib.hid (SB.below Fm.out hb)
      have Fn := Lib.hid (SB.below Fn.out hb)
      have Fj := Lib.hid (SB.below Fj.out hb)
      have Fk := Lib.hid (SB.below Fk.out hb)
      have Fx := Lib.hid (SB.below Fx.out hb)
      have Fy := Lib.hid (SB.below Fy.out hb)
      have Fl := Lib.hid (SB.below Fl.out hb)
      have Fg := Lib.hid (SB.below Fg.out hb)
      have D8 := Lib.hid (Below.tr D7.out hb)
      clear hb
      have ca := Fa.out.c0
      have da := Fa.out.c1
      have za := Fa.out.lt
      have cb := Fb.out.c0
      have db := Fb.out.c1
      have zb := Fb.out.lt
      have cj := Fj.out.c0
      have dj := Fj.out.c1
      have zj := Fj.out.lt
      go_wp2_with fail
      refine (withinI_any _ _ _ _ _).mono ?_
      rw [W2.out]
      rintro e v9 ⟨rfl, hb⟩
      have Fa := Lib.hid (SB.below Fa.out hb)
      have Fb := Lib.hid (SB.below Fb.out hb)
      have Fm := Lib.hid (SB.below Fm.out hb)
      have Fn := Lib.hid (SB.below Fn.out hb)
      have Fj := Lib.hid (SB.below Fj.out hb)
      have Fk := Lib.hid (SB.below Fk.out hb)
      have Fx := Lib.hid (SB.below Fx.out hb)
      have Fy := Lib.hid (SB.below Fy.out hb)
      have Fl := Lib.hid (SB.below Fl.out hb)
      have Fg := Lib.hid (SB.below Fg.out hb)
      have D9 := Lib.hid (Below.tr D8.out hb)
      clear hb
      have ca := Fa.out.c0
      have da := Fa.out.c1
      have za := Fa.out.lt
      have cb := Fb.out.c0
      have db := Fb.out.c1
      have zb := Fb.out.lt
      have cm := Fm.out.c0
      have dm := Fm.out.c1
      have zm := Fm.out.lt
      have cx := Fx.out.c0
      have dx := Fx.out.c1
      have zx := Fx.out.lt
      have cy := Fy.out.c0
      have dy := Fy.out.c1
      have zy := Fy.out.lt
      go_wp2_with fail
      refine (withinI_any _ _ _ _ _).mono ?_
      rw [W3.out]
      rintro e v10 ⟨rfl, hb⟩
      have Fa := Lib.hid (SB.below Fa.out hb)
      have Fb := Lib.hid (SB.below Fb.out hb)
      have Fm := Lib.hid (SB.below Fm.out hb)
      have Fn := Lib.hid (SB.below Fn.out hb)
      have Fj := Lib.hid (SB.below Fj.out hb)
      have Fk := Lib.hid (SB.below Fk.out hb)
      have Fx := Lib.hid (SB.below Fx.out hb)
      have Fy := Lib.hid (SB.below Fy.out hb)
      have Fl := Lib.hid (SB.below Fl.out hb)
      have Fg := Lib.hid (SB.below Fg.out hb)
      have D10 := Lib.hid (Below.tr D9.out hb)
      clear hb
      have cb := Fb.out.c0
      have db := Fb.out.c1
      have zb := Fb.out.lt
      have cm := Fm.out.c0
      have dm := Fm.out.c1
      have zm := Fm.out.lt
      go_wp2_with fail
      refine (withinI_any _ _ _ _ _).mono ?_
      rw [W4.out]
      rintro e v11 ⟨rfl, hb⟩
      have Fa := Lib.hid (SB.below Fa.out hb)
      have Fb := Lib.hid (SB.below Fb.out hb)
      have Fm := Lib.hid (SB.below Fm.out hb)
      have Fn := Lib.hid (SB.below Fn.out hb)
      have Fj := Lib.hid (SB.below Fj.out hb)
      have Fk := Lib.hid (SB.below Fk.out hb)
      have Fx := Lib.hid (SB.below Fx.out hb)
      have Fy := Lib.hid (SB.below Fy.out hb)
      have Fl := Lib.hid (SB.below Fl.out hb)
      have Fg := Lib.hid (SB.below Fg.out hb)
      have D11 := Lib.hid (Below.tr D10.out hb)
      clear hb
      have ca := Fa.out.c0
      have da := Fa.out.c1
      have za := Fa.out.lt
      have cb := Fb.out.c0
      have db := Fb.out.c1
      have zb := Fb.out.lt
      have cm := Fm.out.c0
      have dm := Fm.out.c1
      have zm := Fm.out.lt
      have cx := Fx.out.c0
      have dx := Fx.out.c1
      have zx := Fx.out.lt
      have cy := Fy.out.c0
      have dy := Fy.out.c1
      have zy := Fy.out.lt
      go_wp2_with fail
      have nz1 : ¬ (ah - al + 1 = 0) := by omega
      have nz2 : ¬ (bh - bl + 1 = 0) := by omega
      refine wp_region_held_drew (S := fun W => W.cell? ⟨v1.heap.size, 0, none⟩ = some (.int .i64 al) ∧ W.cell? ⟨v1.heap.size, 1, none⟩ = some (.int .i64 ah)) (by kernel_rfl) ?_ (fun hHeld => ?_)
      · exact ⟨Fa.out.c0, Fa.out.c1⟩
      refine wpAnyH_take (i := 0) (v := ?_) rfl (by kernel_rfl) (by kernel_rfl) (by kernel_rfl) (fun _ _ _ h => h) (Or.inl ⟨by rfl, ?_⟩) (by assumption) ?_
      rotate_left
      · intro W hSw
        try dsimp only at hSw
        go_simp
        try with_reducible rfl
      refine wpAnyH_take (i := 2) (v := ?_) rfl (by kernel_rfl) (by kernel_rfl) (by kernel_rfl) (fun _ _ _ h => h) (Or.inl ⟨by rfl, ?_⟩) (by assumption) ?_
      rotate_left
      · intro W hSw
        try dsimp only at hSw
        go_simp
        try with_reducible rfl
      refine wpAnyH_take (i := 4) (v := ?_) rfl (by kernel_rfl) (by kernel_rfl) (by kernel_rfl) (fun _ _ _ h => h) (Or.inl ⟨by rfl, ?_⟩) (by assumption) ?_
      rotate_left
      · intro W hSw
        try dsimp only at hSw
        go_simp
        try with_reducible rfl
      refine wpAnyH_take (i := 1) (v := ?_) rfl (by kernel_rfl) (by kernel_rfl) (by kernel_rfl) (fun _ _ _ h => h) (Or.inl ⟨by rfl, ?_⟩) (by assumption) ?_
      rotate_left
      · intro W hSw
        try dsimp only at hSw
        go_simp
        try with_reducible rfl
      refine wpAnyH_ready (rs := [3]) (by kernel_rfl) (by simp) ?_
      refine AllReadyH.cons rfl (fun K hK => ?_) AllReadyH.nil
      go_simp
      refine (number_any a1 len1 cap1 _ (Lib.hid (h1.out.below (Below.drew D11.out)))).mono ?_
      rintro e v9 ⟨⟨N1, rfl, hN1⟩, rfl⟩
      refine hK.out _ _ (by assumption) (fun hHeld2 => ?_)
      clear hK K
      refine wpAnyH_take (i := 5) (v := ?_) rfl (by kernel_rfl) (by kernel_rfl) (by kernel_rfl) (fun _ _ _ h => h) (Or.inl ⟨by rfl, ?_⟩) (by assumption) ?_
      rotate_left
      · intro W hSw
        try dsimp only at hSw
        go_simp
        try with_reducible rfl
      refine wpAnyH_take (i := 6) (v := ?_) rfl (by kernel_rfl) (by kernel_rfl) (by kernel_rfl) (fun _ _ _ h => h) (Or.inl ⟨by rfl, ?_⟩) (by assumption) ?_
      rotate_left
      · intro W hSw
        try dsimp only at hSw
        go_simp
        try with_reducible rfl
      refine wpAnyH_ready (rs := [7]) (by kernel_rfl) (by simp) ?_
      refine AllReadyH.cons rfl (fun K hK => ?_) AllReadyH.nil
      go_simp
      refine hK.out _ _ ⟨Fa.out.c0, Fa.out.c1⟩ (fun hHeld2 => ?_)
      clear hK K
      refine wpAnyH_done (by kernel_rfl) ?_ _
      go_upto_region 25 with fail
      have Fa : Hid (SB (World.drew v11) (v1.heap.size) al ah) := Fa
      have Fb : Hid (SB (World.drew v11) (v1.heap.size + 1) bl bh) := Fb
      have Fm : Hid (SB (World.drew v11) (v2.heap.size) ml mh) := Fm
      have Fn : Hid (SB (World.drew v11) (v3.heap.size) ml mh) := Fn
      have Fj : Hid (SB (World.drew v11) (v4.heap.size) jl jh) := Fj
      have Fk : Hid (SB (World.drew v11) (v5.heap.size) jl jh) := Fk
      have Fx : Hid (SB (World.drew v11) (v6.heap.size) xl xh) := Fx
      have Fy : Hid (SB (World.drew v11) (v6.heap.size + 1) yl yh) := Fy
      have Fl : Hid (SB (World.drew v11) (v7.heap.size) xl xh) := Fl
      have Fg : Hid (SB (World.drew v11) (v7.heap.size + 1) yl yh) := Fg
      have D11 : Hid (Below w.heap.size w (World.drew v11)) := Lib.hid (Below.drew D11.out)
      have ca := Fa.out.c0
      have da := Fa.out.c1
      have cb := Fb.out.c0
      have db := Fb.out.c1
      have cm := Fm.out.c0
      have dm := Fm.out.c1
      have cn := Fn.out.c0
      have dn := Fn.out.c1
      have cj := Fj.out.c0
      have dj := Fj.out.c1
      have ck := Fk.out.c0
      have dk := Fk.out.c1
      have cx := Fx.out.c0
      have dx := Fx.out.c1
      have cy := Fy.out.c0
      have dy := Fy.out.c1
      have cl := Fl.out.c0
      have dl := Fl.out.c1
      have cg := Fg.out.c0
      have dg := Fg.out.c1
      generalize World.drew v11 = v11d at Fa ca da Fb cb db Fm cm dm Fn cn dn Fj cj dj Fk ck dk Fx cx dx Fy cy dy Fl cl dl Fg cg dg D11 ⊢
      refine wp_region_held_drew (S := fun W => W.cell? ⟨v1.heap.size + 1, 0, none⟩ = some (.int .i64 bl) ∧ W.cell? ⟨v1.heap.size + 1, 1, none⟩ = some (.int .i64 bh)) (by kernel_rfl) ?_ (fun hHeld => ?_)
      · exact ⟨Fb.out.c0, Fb.out.c1⟩
      refine wpAnyH_take (i := 0) (v := ?_) rfl (by kernel_rfl) (by kernel_rfl) (by kernel_rfl) (fun _ _ _ h => h) (Or.inl ⟨by rfl, ?_⟩) (by assumption) ?_
      rotate_left
      · intro W hSw
        try dsimp only at hSw
        go_simp
        try with_reducible rfl
      refine wpAnyH_take (i := 2) (v := ?_) rfl (by kernel_rfl) (by kernel_rfl) (by kernel_rfl) (fun _ _ _ h => h) (Or.inl ⟨by rfl, ?_⟩) (by assumption) ?_
      rotate_left
      · intro W hSw
        try dsimp only at hSw
        go_simp
        try with_reducible rfl
      refine wpAnyH_take (i := 5) (v := ?_) rfl (by kernel_rfl) (by kernel_rfl) (by kernel_rfl) (fun _ _ _ h => h) (Or.inl ⟨by rfl, ?_⟩) (by assumption) ?_
      rotate_left
      · intro W hSw
        try dsimp only at hSw
        go_simp
        try with_reducible rfl
      refine wpAnyH_take (i := 1) (v := ?_) rfl (by kernel_rfl) (by kernel_rfl) (by kernel_rfl) (fun _ _ _ h => h) (Or.inl ⟨by rfl, ?_⟩) (by assumption) ?_
      rotate_left
      · intro W hSw
        try dsimp only at hSw
        go_simp
        try with_reducible rfl
      refine wpAnyH_ready (rs := [3]) (by kernel_rfl) (by simp) ?_
      refine AllReadyH.cons rfl (fun K hK => ?_) AllReadyH.nil
      go_simp
      refine (number_any a1 len1 cap1 _ (Lib.hid (h1.out.below (Below.drew D11.out)))).mono ?_
      rintro e v9 ⟨⟨N2, rfl, hN2⟩, rfl⟩
      refine hK.out _ _ (by assumption) (fun hHeld2 => ?_)
      clear hK K
      refine wpAnyH_take (i := 4) (v := ?_) rfl (by kernel_rfl) (by kernel_rfl) (by kernel_rfl) (fun _ _ _ h => h) (Or.inl ⟨by rfl, ?_⟩) (by assumption) ?_
      rotate_left
      · intro W hSw
        try dsimp only at hSw
        go_simp
        try with_reducible rfl
      refine wpAnyH_take (i := 6) (v := ?_) rfl (by kernel_rfl) (by kernel_rfl) (by kernel_rfl) (fun _ _ _ h => h) (Or.inl ⟨by rfl, ?_⟩) (by assumption) ?_
      rotate_left
      · intro W hSw
        try dsimp only at hSw
        go_simp
        try with_reducible rfl
      refine wpAnyH_take (i := 7) (v := ?_) rfl (by kernel_rfl) (by kernel_rfl) (by kernel_rfl) (fun _ _ _ h => h) (Or.inl ⟨by rfl, ?_⟩) (by assumption) ?_
      rotate_left
      · intro W hSw
        try dsimp only at hSw
        go_simp
        try with_reducible rfl
      refine wpAnyH_ready (rs := [8]) (by kernel_rfl) (by simp) ?_
      refine AllReadyH.cons rfl (fun K hK => ?_) AllReadyH.nil
      go_simp
      refine hK.out _ _ ⟨Fb.out.c0, Fb.out.c1⟩ (fun hHeld2 => ?_)
      clear hK K
      refine wpAnyH_done (by kernel_rfl) ?_ _
      go_upto_region 26 with fail
      have Fa : Hid (SB (World.drew v11d) (v1.heap.size) al ah) := Fa
      have Fb : Hid (SB (World.drew v11d) (v1.heap.size + 1) bl bh) := Fb
      have Fm : Hid (SB (World.drew v11d) (v2.heap.size) ml mh) := Fm
      have Fn : Hid (SB (World.drew v11d) (v3.heap.size) ml mh) := Fn
      have Fj : Hid (SB (World.drew v11d) (v4.heap.size) jl jh) := Fj
      have Fk : Hid (SB (World.drew v11d) (v5.heap.size) jl jh) := Fk
      have Fx : Hid (SB (World.drew v11d) (v6.heap.size) xl xh) := Fx
      have Fy : Hid (SB (World.drew v11d) (v6.heap.size + 1) yl yh) := Fy
      have Fl : Hid (SB (World.drew v11d) (v7.heap.size) xl xh) := Fl
      have Fg : Hid (SB (World.drew v11d) (v7.heap.size + 1) yl yh) := Fg
      have D11 : Hid (Below w.heap.size w (World.drew v11d)) := Lib.hid (Below.drew D11.out)
      have ca := Fa.out.c0
      have da := Fa.out.c1
      have cb := Fb.out.c0
      have db := Fb.out.c1
      have cm := Fm.out.c0
      have dm := Fm.out.c1
      have cn := Fn.out.c0
      have dn := Fn.out.c1
      have cj := Fj.out.c0
      have dj := Fj.out.c1
      have ck := Fk.out.c0
      have dk := Fk.out.c1
      have cx := Fx.out.c0
      have dx := Fx.out.c1
      have cy := Fy.out.c0
      have dy := Fy.out.c1
      have cl := Fl.out.c0
      have dl := Fl.out.c1
      have cg := Fg.out.c0
      have dg := Fg.out.c1
      generalize World.drew v11d = v11dd at Fa ca da Fb cb db Fm cm dm Fn cn dn Fj cj dj Fk ck dk Fx cx dx Fy cy dy Fl cl dl Fg cg dg D11 ⊢
      obtain ⟨u, hu, u1, u2⟩ := num_in N1 z1 z2 z3
      obtain ⟨vv, hv, y1, y2⟩ := num_in7 N2 hN2 z4 z5 z6
      rw [hu, hv]
      clear hu hv hN1 hN2
      have IU : inSt ⟨al, ah⟩ u = true := inSt_mk u1 u2
      have IV : inSt ⟨bl, bh⟩ vv = true := inSt_mk y1 y2
      rcases (show u = vv ∨ vv < u by omega) with huv | huv
      · subst huv
        obtain ⟨g1, g2⟩ := HFI.out u IU IV
        try simp only at g1 g2
        have e9 : (u == u) = true := by simp
        clear IU IV
        go_wp2_with fail
        refine (drawWithinSt_any a1 len1 cap1 _ (Lib.hid (h1.out.below D11.out))).mono ?_
        rintro e t1 ⟨cl, ch, dl, dh, rfl, hb⟩
        have E1 := Lib.hid (Below.tr D11.out hb)
        clear hb
        obtain ⟨⟨q, r⟩, hq⟩ : ∃ q, withinR ⟨cl, ch⟩ ⟨dl, dh⟩ = q := ⟨_, rfl⟩
        have Qw := Lib.hid hq
        clear hq
        have eq1 : (q == q) = true := by simp
        have er1 : (r == r) = true := by simp
        go_wp2_with fail
        have NB := two_news t1 cl ch dl dh
        unfold sO at NB
        have Fc := Lib.hid NB.out.1
        have Fd := Lib.hid NB.out.2.1
        have E2 := Lib.hid (Below.tr E1.out NB.out.2.2)
        clear NB
        generalize ((t1.alloc (.cells #[.int .i64 cl, .int .i64 ch] 24)).alloc (.cells #[.int .i64 dl, .int .i64 dh] 24)) = t2 at Fc Fd E2 ⊢
        refine (withinI_any _ _ _ _ _).mono ?_
        rw [Qw.out]
        rintro e t3 ⟨rfl, hb⟩
        have cc := (SB.below Fc.out hb).c0
        have cd := (SB.below Fc.out hb).c1
        have dc := (SB.below Fd.out hb).c0
        have dd := (SB.below Fd.out hb).c1
        have E3 := Lib.hid (Below.tr E2.out hb)
        clear hb
        go_wp2_with fail
        refine (withinM_any _ _ _ _ _).mono ?_
        rw [Qw.out]
        rintro e t4 ⟨rfl, hb⟩
        have E4 := Lib.hid (Below.tr E3.out hb)
        clear hb
        go_wp2
        go_ret
        exact ⟨rfl, E4.out⟩
      · have e9 : (u == vv) = false := by simp; omega
        have e8 : ¬ u < vv := by omega
        clear IU IV
        go_wp2_with fail
        refine (drawWithinSt_any a1 len1 cap1 _ (Lib.hid (h1.out.below D11.out))).mono ?_
        rintro e t1 ⟨cl, ch, dl, dh, rfl, hb⟩
        have E1 := Lib.hid (Below.tr D11.out hb)
        clear hb
        obtain ⟨⟨q, r⟩, hq⟩ : ∃ q, withinR ⟨cl, ch⟩ ⟨dl, dh⟩ = q := ⟨_, rfl⟩
        have Qw := Lib.hid hq
        clear hq
        have eq1 : (q == q) = true := by simp
        have er1 : (r == r) = true := by simp
        go_wp2_with fail
        have NB := two_news t1 cl ch dl dh
        unfold sO at NB
        have Fc := Lib.hid NB.out.1
        have Fd := Lib.hid NB.out.2.1
        have E2 := Lib.hid (Below.tr E1.out NB.out.2.2)
        clear NB
        generalize ((t1.alloc (.cells #[.int .i64 cl, .int .i64 ch] 24)).alloc (.cells #[.int .i64 dl, .int .i64 dh] 24)) = t2 at Fc Fd E2 ⊢
        refine (withinI_any _ _ _ _ _).mono ?_
        rw [Qw.out]
        rintro e t3 ⟨rfl, hb⟩
        have cc := (SB.below Fc.out hb).c0
        have cd := (SB.below Fc.out hb).c1
        have dc := (SB.below Fd.out hb).c0
        have dd := (SB.below Fd.out hb).c1
        have E3 := Lib.hid (Below.tr E2.out hb)
        clear hb
        go_wp2_with fail
        refine (withinM_any _ _ _ _ _).mono ?_
        rw [Qw.out]
        rintro e t4 ⟨rfl, hb⟩
        have E4 := Lib.hid (Below.tr E3.out hb)
        clear hb
        go_wp2
        go_ret
        exact ⟨rfl, E4.out⟩
    · have hmo : mo = false := by have h := M1.out; rw [h, Bool.eq_iff_iff]; simp <;> omega
      have hso : so = true := by have h := M2.out; rw [h, Bool.eq_iff_iff]; simp <;> omega
      subst hmo hso
      go_wp2_with fail
      have NB := two_news v7 xl xh yl yh
      unfold sO at NB
      have Fa := Lib.hid (SB.below Fa.out NB.out.2.2)
      have Fb := Lib.hid (SB.below Fb.out NB.out.2.2)
      have Fm := Lib.hid (SB.below Fm.out NB.out.2.2)
      have Fn := Lib.hid (SB.below Fn.out NB.out.2.2)
      have Fj := Lib.hid (SB.below Fj.out NB.out.2.2)
      have Fk := Lib.hid (SB.below Fk.out NB.out.2.2)
      have Fx := Lib.hid (SB.below Fx.out NB.out.2.2)
      have Fy := Lib.hid (SB.below Fy.out NB.out.2.2)
      have D7 := Lib.hid (Below.tr D7.out NB.out.2.2)
      have Fl := Lib.hid NB.out.1
      have Fg := Lib.hid NB.out.2.1
      clear NB
      generalize ((v7.alloc (.cells #[.int .i64 xl, .int .i64 xh] 24)).alloc (.cells #[.int .i64 yl, .int .i64 yh] 24)) = u7 at Fa Fb Fm Fn Fj Fk Fx Fy Fl Fg D7 ⊢
      refine (withinI_any _ _ _ _ _).mono ?_
      rw [W1.out]
      rintro e v8 ⟨rfl, hb⟩
      have Fa := Lib.hid (SB.below Fa.out hb)
      have Fb := Lib.hid (SB.below Fb.out hb)
      have Fm := Lib.hid (SB.below Fm.out hb)
      have Fn := Lib.hid (SB.below Fn.out hb)
      have Fj := Lib.hid (SB.below Fj.out hb)
      have Fk := Lib.hid (SB.below Fk.out hb)
      have Fx := Lib.hid (SB.below Fx.out hb)
      have Fy := Lib.hid (SB.below Fy.out hb)
      have Fl := Lib.hid (SB.below Fl.out hb)
      have Fg := Lib.hid (SB.below Fg.out hb)
      have D8 := Lib.hid (Below.tr D7.out hb)
      clear hb
      have ca := Fa.out.c0
      have da := Fa.out.c1
      have za := Fa.out.lt
      have cb := Fb.out.c0
      have db := Fb.out.c1
      have zb := Fb.out.lt
      have cj := Fj.out.c0
      have dj := Fj.out.c1
      have zj := Fj.out.lt
      go_wp2_with fail
      refine (withinI_any _ _ _ _ _).mono ?_
      rw [W2.out]
      rintro e v9 ⟨rfl, hb⟩
      have Fa := Lib.hid (SB.below Fa.out hb)
      have Fb := Lib.hid (SB.below Fb.out hb)
      have Fm := Lib.hid (SB.below Fm.out hb)
      have Fn := Lib.hid (SB.below Fn.out hb)
      have Fj := Lib.hid (SB.below Fj.out hb)
      have Fk := Lib.hid (SB.below Fk.out hb)
      have Fx := Lib.hid (SB.below Fx.out hb)
      have Fy := Lib.hid (SB.below Fy.out hb)
      have Fl := Lib.hid (SB.below Fl.out hb)
      have Fg := Lib.hid (SB.below Fg.out hb)
      have D9 := Lib.hid (Below.tr D8.out hb)
      clear hb
      have ca := Fa.out.c0
      have da := Fa.out.c1
      have za := Fa.out.lt
      have cb := Fb.out.c0
      have db := Fb.out.c1
      have zb := Fb.out.lt
      have cm := Fm.out.c0
      have dm := Fm.out.c1
      have zm := Fm.out.lt
      have cx := Fx.out.c0
      have dx := Fx.out.c1
      have zx := Fx.out.lt
      have cy := Fy.out.c0
      have dy := Fy.out.c1
      have zy := Fy.out.lt
      go_wp2_with fail
      have nz1 : ¬ (ah - al + 1 = 0) := by omega
      have nz2 : ¬ (bh - bl + 1 = 0) := by omega
      refine wp_region_held_drew (S := fun W => W.cell? ⟨v1.heap.size, 0, none⟩ = some (.int .i64 al) ∧ W.cell? ⟨v1.heap.size, 1, none⟩ = some (.int .i64 ah)) (by kernel_rfl) ?_ (fun hHeld => ?_)
      · exact ⟨Fa.out.c0, Fa.out.c1⟩
      refine wpAnyH_take (i := 0) (v := ?_) rfl (by kernel_rfl) (by kernel_rfl) (by kernel_rfl) (fun _ _ _ h => h) (Or.inl ⟨by rfl, ?_⟩) (by assumption) ?_
      rotate_left
      · intro W hSw
        try dsimp only at hSw
        go_simp
        try with_reducible rfl
      refine wpAnyH_take (i := 2) (v := ?_) rfl (by kernel_rfl) (by kernel_rfl) (by kernel_rfl) (fun _ _ _ h => h) (Or.inl ⟨by rfl, ?_⟩) (by assumption) ?_
      rotate_left
      · intro W hSw
        try dsimp only at hSw
        go_simp
        try with_reducible rfl
      refine wpAnyH_take (i := 4) (v := ?_) rfl (by kernel_rfl) (by kernel_rfl) (by kernel_rfl) (fun _ _ _ h => h) (Or.inl ⟨by rfl, ?_⟩) (by assumption) ?_
      rotate_left
      · intro W hSw
        try dsimp only at hSw
        go_simp
        try with_reducible rfl
      refine wpAnyH_take (i := 1) (v := ?_) rfl (by kernel_rfl) (by kernel_rfl) (by kernel_rfl) (fun _ _ _ h => h) (Or.inl ⟨by rfl, ?_⟩) (by assumption) ?_
      rotate_left
      · intro W hSw
        try dsimp only at hSw
        go_simp
        try with_reducible rfl
      refine wpAnyH_ready (rs := [3]) (by kernel_rfl) (by simp) ?_
      refine AllReadyH.cons rfl (fun K hK => ?_) AllReadyH.nil
      go_simp
      refine (number_any a1 len1 cap1 _ (Lib.hid (h1.out.below (Below.drew D9.out)))).mono ?_
      rintro e v9 ⟨⟨N1, rfl, hN1⟩, rfl⟩
      refine hK.out _ _ (by assumption) (fun hHeld2 => ?_)
      clear hK K
      refine wpAnyH_take (i := 5) (v := ?_) rfl (by kernel_rfl) (by kernel_rfl) (by kernel_rfl) (fun _ _ _ h => h) (Or.inl ⟨by rfl, ?_⟩) (by assumption) ?_
      rotate_left
      · intro W hSw
        try dsimp only at hSw
        go_simp
        try with_reducible rfl
      refine wpAnyH_take (i := 6) (v := ?_) rfl (by kernel_rfl) (by kernel_rfl) (by kernel_rfl) (fun _ _ _ h => h) (Or.inl ⟨by rfl, ?_⟩) (by assumption) ?_
      rotate_left
      · intro W hSw
        try dsimp only at hSw
        go_simp
        try with_reducible rfl
      refine wpAnyH_ready (rs := [7]) (by kernel_rfl) (by simp) ?_
      refine AllReadyH.cons rfl (fun K hK => ?_) AllReadyH.nil
      go_simp
      refine hK.out _ _ ⟨Fa.out.c0, Fa.out.c1⟩ (fun hHeld2 => ?_)
      clear hK K
      refine wpAnyH_done (by kernel_rfl) ?_ _
      go_upto_region 25 with fail
      have Fa : Hid (SB (World.drew v9) (v1.heap.size) al ah) := Fa
      have Fb : Hid (SB (World.drew v9) (v1.heap.size + 1) bl bh) := Fb
      have Fm : Hid (SB (World.drew v9) (v2.heap.size) ml mh) := Fm
      have Fn : Hid (SB (World.drew v9) (v3.heap.size) ml mh) := Fn
      have Fj : Hid (SB (World.drew v9) (v4.heap.size) jl jh) := Fj
      have Fk : Hid (SB (World.drew v9) (v5.heap.size) jl jh) := Fk
      have Fx : Hid (SB (World.drew v9) (v6.heap.size) xl xh) := Fx
      have Fy : Hid (SB (World.drew v9) (v6.heap.size + 1) yl yh) := Fy
      have Fl : Hid (SB (World.drew v9) (v7.heap.size) xl xh) := Fl
      have Fg : Hid (SB (World.drew v9) (v7.heap.size + 1) yl yh) := Fg
      have D9 : Hid (Below w.heap.size w (World.drew v9)) := Lib.hid (Below.drew D9.out)
      have ca := Fa.out.c0
      have da := Fa.out.c1
      have cb := Fb.out.c0
      have db := Fb.out.c1
      have cm := Fm.out.c0
      have dm := Fm.out.c1
      have cn := Fn.out.c0
      have dn := Fn.out.c1
      have cj := Fj.out.c0
      have dj := Fj.out.c1
      have ck := Fk.out.c0
      have dk := Fk.out.c1
      have cx := Fx.out.c0
      have dx := Fx.out.c1
      have cy := Fy.out.c0
      have dy := Fy.out.c1
      have cl := Fl.out.c0
      have dl := Fl.out.c1
      have cg := Fg.out.c0
      have dg := Fg.out.c1
      generalize World.drew v9 = v9d at Fa ca da Fb cb db Fm cm dm Fn cn dn Fj cj dj Fk ck dk Fx cx dx Fy cy dy Fl cl dl Fg cg dg D9 ⊢
      refine wp_region_held_drew (S := fun W => W.cell? ⟨v1.heap.size + 1, 0, none⟩ = some (.int .i64 bl) ∧ W.cell? ⟨v1.heap.size + 1, 1, none⟩ = some (.int .i64 bh)) (by kernel_rfl) ?_ (fun hHeld => ?_)
      · exact ⟨Fb.out.c0, Fb.out.c1⟩
      refine wpAnyH_take (i := 0) (v := ?_) rfl (by kernel_rfl) (by kernel_rfl) (by kernel_rfl) (fun _ _ _ h => h) (Or.inl ⟨by rfl, ?_⟩) (by assumption) ?_
      rotate_left
      · intro W hSw
        try dsimp only at hSw
        go_simp
        try with_reducible rfl
      refine wpAnyH_take (i := 2) (v := ?_) rfl (by kernel_rfl) (by kernel_rfl) (by kernel_rfl) (fun _ _ _ h => h) (Or.inl ⟨by rfl, ?_⟩) (by assumption) ?_
      rotate_left
      · intro W hSw
        try dsimp only at hSw
        go_simp
        try with_reducible rfl
      refine wpAnyH_take (i := 5) (v := ?_) rfl (by kernel_rfl) (by kernel_rfl) (by kernel_rfl) (fun _ _ _ h => h) (Or.inl ⟨by rfl, ?_⟩) (by assumption) ?_
      rotate_left
      · intro W hSw
        try dsimp only at hSw
        go_simp
        try with_reducible rfl
      refine wpAnyH_take (i := 1) (v := ?_) rfl (by kernel_rfl) (by kernel_rfl) (by kernel_rfl) (fun _ _ _ h => h) (Or.inl ⟨by rfl, ?_⟩) (by assumption) ?_
      rotate_left
      · intro W hSw
        try dsimp only at hSw
        go_simp
        try with_reducible rfl
      refine wpAnyH_ready (rs := [3]) (by kernel_rfl) (by simp) ?_
      refine AllReadyH.cons rfl (fun K hK => ?_) AllReadyH.nil
      go_simp
      refine (number_any a1 len1 cap1 _ (Lib.hid (h1.out.below (Below.drew D9.out)))).mono ?_
      rintro e v9 ⟨⟨N2, rfl, hN2⟩, rfl⟩
      refine hK.out _ _ (by assumption) (fun hHeld2 => ?_)
      clear hK K
      refine wpAnyH_take (i := 4) (v := ?_) rfl (by kernel_rfl) (by kernel_rfl) (by kernel_rfl) (fun _ _ _ h => h) (Or.inl ⟨by rfl, ?_⟩) (by assumption) ?_
      rotate_left
      · intro W hSw
        try dsimp only at hSw
        go_simp
        try with_reducible rfl
      refine wpAnyH_take (i := 6) (v := ?_) rfl (by kernel_rfl) (by kernel_rfl) (by kernel_rfl) (fun _ _ _ h => h) (Or.inl ⟨by rfl, ?_⟩) (by assumption) ?_
      rotate_left
      · intro W hSw
        try dsimp only at hSw
        go_simp
        try with_reducible rfl
      refine wpAnyH_take (i := 7) (v := ?_) rfl (by kernel_rfl) (by kernel_rfl) (by kernel_rfl) (fun _ _ _ h => h) (Or.inl ⟨by rfl, ?_⟩) (by assumption) ?_
      rotate_left
      · intro W hSw
        try dsimp only at hSw
        go_simp
        try with_reducible rfl
      refine wpAnyH_ready (rs := [8]) (by kernel_rfl) (by simp) ?_
      refine AllReadyH.cons rfl (fun K hK => ?_) AllReadyH.nil
      go_simp
      refine hK.out _ _ ⟨Fb.out.c0, Fb.out.c1⟩ (fun hHeld2 => ?_)
      clear hK K
      refine wpAnyH_done (by kernel_rfl) ?_ _
      go_upto_region 26 with fail
      have Fa : Hid (SB (World.drew v9d) (v1.heap.size) al ah) := Fa
      have Fb : Hid (SB (World.drew v9d) (v1.heap.size + 1) bl bh) := Fb
      have Fm : Hid (SB (World.drew v9d) (v2.heap.size) ml mh) := Fm
      have Fn : Hid (SB (World.drew v9d) (v3.heap.size) ml mh) := Fn
      have Fj : Hid (SB (World.drew v9d) (v4.heap.size) jl jh) := Fj
      have Fk : Hid (SB (World.drew v9d) (v5.heap.size) jl jh) := Fk
      have Fx : Hid (SB (World.drew v9d) (v6.heap.size) xl xh) := Fx
      have Fy : Hid (SB (World.drew v9d) (v6.heap.size + 1) yl yh) := Fy
      have Fl : Hid (SB (World.drew v9d) (v7.heap.size) xl xh) := Fl
      have Fg : Hid (SB (World.drew v9d) (v7.heap.size + 1) yl yh) := Fg
      have D9 : Hid (Below w.heap.size w (World.drew v9d)) := Lib.hid (Below.drew D9.out)
      have ca := Fa.out.c0
      have da := Fa.out.c1
      have cb := Fb.out.c0
      have db := Fb.out.c1
      have cm := Fm.out.c0
      have dm := Fm.out.c1
      have cn := Fn.out.c0
      have dn := Fn.out.c1
      have cj := Fj.out.c0
      have dj := Fj.out.c1
      have ck := Fk.out.c0
      have dk := Fk.out.c1
      have cx := Fx.out.c0
      have dx := Fx.out.c1
      have cy := Fy.out.c0
      have dy := Fy.out.c1
      have cl := Fl.out.c0
      have dl := Fl.out.c1
      have cg := Fg.out.c0
      have dg := Fg.out.c1
      generalize World.drew v9d = v9dd at Fa ca da Fb cb db Fm cm dm Fn cn dn Fj cj dj Fk ck dk Fx cx dx Fy cy dy Fl cl dl Fg cg dg D9 ⊢
      obtain ⟨u, hu, u1, u2⟩ := num_in N1 z1 z2 z3
      obtain ⟨vv, hv, y1, y2⟩ := num_in7 N2 hN2 z4 z5 z6
      rw [hu, hv]
      clear hu hv hN1 hN2
      have IU : inSt ⟨al, ah⟩ u = true := inSt_mk u1 u2
      have IV : inSt ⟨bl, bh⟩ vv = true := inSt_mk y1 y2
      rcases (show u < vv by omega) with huv
      · obtain ⟨g1, g2, g3, g4⟩ := FS.out (by first | rfl | trivial) u vv IU IV huv
        try simp only at g1 g2 g3 g4
        have e9 : (u == vv) = false := by simp; omega
        clear IU IV
        go_wp2_with fail
        refine (drawWithinSt_any a1 len1 cap1 _ (Lib.hid (h1.out.below D9.out))).mono ?_
        rintro e t1 ⟨cl, ch, dl, dh, rfl, hb⟩
        have E1 := Lib.hid (Below.tr D9.out hb)
        clear hb
        obtain ⟨⟨q, r⟩, hq⟩ : ∃ q, withinR ⟨cl, ch⟩ ⟨dl, dh⟩ = q := ⟨_, rfl⟩
        have Qw := Lib.hid hq
        clear hq
        have eq1 : (q == q) = true := by simp
        have er1 : (r == r) = true := by simp
        go_wp2_with fail
        have NB := two_news t1 cl ch dl dh
        unfold sO at NB
        have Fc := Lib.hid NB.out.1
        have Fd := Lib.hid NB.out.2.1
        have E2 := Lib.hid (Below.tr E1.out NB.out.2.2)
        clear NB
        generalize ((t1.alloc (.cells #[.int .i64 cl, .int .i64 ch] 24)).alloc (.cells #[.int .i64 dl, .int .i64 dh] 24)) = t2 at Fc Fd E2 ⊢
        refine (withinI_any _ _ _ _ _).mono ?_
        rw [Qw.out]
        rintro e t3 ⟨rfl, hb⟩
        have cc := (SB.below Fc.out hb).c0
        have cd := (SB.below Fc.out hb).c1
        have dc := (SB.below Fd.out hb).c0
        have dd := (SB.below Fd.out hb).c1
        have E3 := Lib.hid (Below.tr E2.out hb)
        clear hb
        go_wp2_with fail
        refine (withinM_any _ _ _ _ _).mono ?_
        rw [Qw.out]
        rintro e t4 ⟨rfl, hb⟩
        have E4 := Lib.hid (Below.tr E3.out hb)
        clear hb
        go_wp2
        go_ret
        exact ⟨rfl, E4.out⟩
    · have hmo : mo = false := by have h := M1.out; rw [h, Bool.eq_iff_iff]; simp <;> omega
      have hso : so = false := by have h := M2.out; rw [h, Bool.eq_iff_iff]; simp <;> omega
      subst hmo hso
      go_wp2_with fail
      have NB := two_news v7 xl xh yl yh
      unfold sO at NB
      have Fa := Lib.hid (SB.below Fa.out NB.out.2.2)
      have Fb := Lib.hid (SB.below Fb.out NB.out.2.2)
      have Fm := Lib.hid (SB.below Fm.out NB.out.2.2)
      have Fn := Lib.hid (SB.below Fn.out NB.out.2.2)
      have Fj := Lib.hid (SB.below Fj.out NB.out.2.2)
      have Fk := Lib.hid (SB.below Fk.out NB.out.2.2)
      have Fx := Lib.hid (SB.below Fx.out NB.out.2.2)
      have Fy := Lib.hid (SB.below Fy.out NB.out.2.2)
      have D7 := Lib.hid (Below.tr D7.out NB.out.2.2)
      have Fl := Lib.hid NB.out.1
      have Fg := Lib.hid NB.out.2.1
      clear NB
      generalize ((v7.alloc (.cells #[.int .i64 xl, .int .i64 xh] 24)).alloc (.cells #[.int .i64 yl, .int .i64 yh] 24)) = u7 at Fa Fb Fm Fn Fj Fk Fx Fy Fl Fg D7 ⊢
      refine (withinI_any _ _ _ _ _).mono ?_
      rw [W1.out]
      rintro e v8 ⟨rfl, hb⟩
      have Fa := Lib.hid (SB.below Fa.out hb)
      have Fb := Lib.hid (SB.below Fb.out hb)
      have Fm := Lib.hid (SB.below Fm.out hb)
      have Fn := Lib.hid (SB.below Fn.out hb)
      have Fj := Lib.hid (SB.below Fj.out hb)
      have Fk := Lib.hid (SB.below Fk.out hb)
      have Fx := Lib.hid (SB.below Fx.out hb)
      have Fy := Lib.hid (SB.below Fy.out hb)
      have Fl := Lib.hid (SB.below Fl.out hb)
      have Fg := Lib.hid (SB.below Fg.out hb)
      have D8 := Lib.hid (Below.tr D7.out hb)
      clear hb
      have ca := Fa.out.c0
      have da := Fa.out.c1
      have za := Fa.out.lt
      have cb := Fb.out.c0
      have db := Fb.out.c1
      have zb := Fb.out.lt
      have cj := Fj.out.c0
      have dj := Fj.out.c1
      have zj := Fj.out.lt
      go_wp2_with fail
      refine (withinI_any _ _ _ _ _).mono ?_
      rw [W2.out]
      rintro e v9 ⟨rfl, hb⟩
      have Fa := Lib.hid (SB.below Fa.out hb)
      have Fb := Lib.hid (SB.below Fb.out hb)
      have Fm := Lib.hid (SB.below Fm.out hb)
      have Fn := Lib.hid (SB.below Fn.out hb)
      have Fj := Lib.hid (SB.below Fj.out hb)
      have Fk := Lib.hid (SB.below Fk.out hb)
      have Fx := Lib.hid (SB.below Fx.out hb)
      have Fy := Lib.hid (SB.below Fy.out hb)
      have Fl := Lib.hid (SB.below Fl.out hb)
      have Fg := Lib.hid (SB.below Fg.out hb)
      have D9 := Lib.hid (Below.tr D8.out hb)
      clear hb
      have ca := Fa.out.c0
      have da := Fa.out.c1
      have za := Fa.out.lt
      have cb := Fb.out.c0
      have db := Fb.out.c1
      have zb := Fb.out.lt
      have cm := Fm.out.c0
      have dm := Fm.out.c1
      have zm := Fm.out.lt
      have cx := Fx.out.c0
      have dx := Fx.out.c1
      have zx := Fx.out.lt
      have cy := Fy.out.c0
      have dy := Fy.out.c1
      have zy := Fy.out.lt
      go_wp2_with fail
      have nz1 : ¬ (ah - al + 1 = 0) := by omega
      have nz2 : ¬ (bh - bl + 1 = 0) := by omega
      refine wp_region_held_drew (S := fun W => W.cell? ⟨v1.heap.size, 0, none⟩ = some (.int .i64 al) ∧ W.cell? ⟨v1.heap.size, 1, none⟩ = some (.int .i64 ah)) (by kernel_rfl) ?_ (fun hHeld => ?_)
      · exact ⟨Fa.out.c0, Fa.out.c1⟩
      refine wpAnyH_take (i := 0) (v := ?_) rfl (by kernel_rfl) (by kernel_rfl) (by kernel_rfl) (fun _ _ _ h => h) (Or.inl ⟨by rfl, ?_⟩) (by assumption) ?_
      rotate_left
      · intro W hSw
        try dsimp only at hSw
        go_simp
        try with_reducible rfl
      refine wpAnyH_take (i := 2) (v := ?_) rfl (by kernel_rfl) (by kernel_rfl) (by kernel_rfl) (fun _ _ _ h => h) (Or.inl ⟨by rfl, ?_⟩) (by assumption) ?_
      rotate_left
      · intro W hSw
        try dsimp only at hSw
        go_simp
        try with_reducible rfl
      refine wpAnyH_take (i := 4) (v := ?_) rfl (by kernel_rfl) (by kernel_rfl) (by kernel_rfl) (fun _ _ _ h => h) (Or.inl ⟨by rfl, ?_⟩) (by assumption) ?_
      rotate_left
      · intro W hSw
        try dsimp only at hSw
        go_simp
        try with_reducible rfl
      refine wpAnyH_take (i := 1) (v := ?_) rfl (by kernel_rfl) (by kernel_rfl) (by kernel_rfl) (fun _ _ _ h => h) (Or.inl ⟨by rfl, ?_⟩) (by assumption) ?_
      rotate_left
      · intro W hSw
        try dsimp only at hSw
        go_simp
        try with_reducible rfl
      refine wpAnyH_ready (rs := [3]) (by kernel_rfl) (by simp) ?_
      refine AllReadyH.cons rfl (fun K hK => ?_) AllReadyH.nil
      go_simp
      refine (number_any a1 len1 cap1 _ (Lib.hid (h1.out.below (Below.drew D9.out)))).mono ?_
      rintro e v9 ⟨⟨N1, rfl, hN1⟩, rfl⟩
      refine hK.out _ _ (by assumption) (fun hHeld2 => ?_)
      clear hK K
      refine wpAnyH_take (i := 5) (v := ?_) rfl (by kernel_rfl) (by kernel_rfl) (by kernel_rfl) (fun _ _ _ h => h) (Or.inl ⟨by rfl, ?_⟩) (by assumption) ?_
      rotate_left
      · intro W hSw
        try dsimp only at hSw
        go_simp
        try with_reducible rfl
      refine wpAnyH_take (i := 6) (v := ?_) rfl (by kernel_rfl) (by kernel_rfl) (by kernel_rfl) (fun _ _ _ h => h) (Or.inl ⟨by rfl, ?_⟩) (by assumption) ?_
      rotate_left
      · intro W hSw
        try dsimp only at hSw
        go_simp
        try with_reducible rfl
      refine wpAnyH_ready (rs := [7]) (by kernel_rfl) (by simp) ?_
      refine AllReadyH.cons rfl (fun K hK => ?_) AllReadyH.nil
      go_simp
      refine hK.out _ _ ⟨Fa.out.c0, Fa.out.c1⟩ (fun hHeld2 => ?_)
      clear hK K
      refine wpAnyH_done (by kernel_rfl) ?_ _
      go_upto_region 25 with fail
      have Fa : Hid (SB (World.drew v9) (v1.heap.size) al ah) := Fa
      have Fb : Hid (SB (World.drew v9) (v1.heap.size + 1) bl bh) := Fb
      have Fm : Hid (SB (World.drew v9) (v2.heap.size) ml mh) := Fm
      have Fn : Hid (SB (World.drew v9) (v3.heap.size) ml mh) := Fn
      have Fj : Hid (SB (World.drew v9) (v4.heap.size) jl jh) := Fj
      have Fk : Hid (SB (World.drew v9) (v5.heap.size) jl jh) := Fk
      have Fx : Hid (SB (World.drew v9) (v6.heap.size) xl xh) := Fx
      have Fy : Hid (SB (World.drew v9) (v6.heap.size + 1) yl yh) := Fy
      have Fl : Hid (SB (World.drew v9) (v7.heap.size) xl xh) := Fl
      have Fg : Hid (SB (World.drew v9) (v7.heap.size + 1) yl yh) := Fg
      have D9 : Hid (Below w.heap.size w (World.drew v9)) := Lib.hid (Below.drew D9.out)
      have ca := Fa.out.c0
      have da := Fa.out.c1
      have cb := Fb.out.c0
      have db := Fb.out.c1
      have cm := Fm.out.c0
      have dm := Fm.out.c1
      have cn := Fn.out.c0
      have dn := Fn.out.c1
      have cj := Fj.out.c0
      have dj := Fj.out.c1
      have ck := Fk.out.c0
      have dk := Fk.out.c1
      have cx := Fx.out.c0
      have dx := Fx.out.c1
      have cy := Fy.out.c0
      have dy := Fy.out.c1
      have cl := Fl.out.c0
      have dl := Fl.out.c1
      have cg := Fg.out.c0
      have dg := Fg.out.c1
      generalize World.drew v9 = v9d at Fa ca da Fb cb db Fm cm dm Fn cn dn Fj cj dj Fk ck dk Fx cx dx Fy cy dy Fl cl dl Fg cg dg D9 ⊢
      refine wp_region_held_drew (S := fun W => W.cell? ⟨v1.heap.size + 1, 0, none⟩ = some (.int .i64 bl) ∧ W.cell? ⟨v1.heap.size + 1, 1, none⟩ = some (.int .i64 bh)) (by kernel_rfl) ?_ (fun hHeld => ?_)
      · exact ⟨Fb.out.c0, Fb.out.c1⟩
      refine wpAnyH_take (i := 0) (v := ?_) rfl (by kernel_rfl) (by kernel_rfl) (by kernel_rfl) (fun _ _ _ h => h) (Or.inl ⟨by rfl, ?_⟩) (by assumption) ?_
      rotate_left
      · intro W hSw
        try dsimp only at hSw
        go_simp
        try with_reducible rfl
      refine wpAnyH_take (i := 2) (v := ?_) rfl (by kernel_rfl) (by kernel_rfl) (by kernel_rfl) (fun _ _ _ h => h) (Or.inl ⟨by rfl, ?_⟩) (by assumption) ?_
      rotate_left
      · intro W hSw
        try dsimp only at hSw
        go_simp
        try with_reducible rfl
      refine wpAnyH_take (i := 5) (v := ?_) rfl (by kernel_rfl) (by kernel_rfl) (by kernel_rfl) (fun _ _ _ h => h) (Or.inl ⟨by rfl, ?_⟩) (by assumption) ?_
      rotate_left
      · intro W hSw
        try dsimp only at hSw
        go_simp
        try with_reducible rfl
      refine wpAnyH_take (i := 1) (v := ?_) rfl (by kernel_rfl) (by kernel_rfl) (by kernel_rfl) (fun _ _ _ h => h) (Or.inl ⟨by rfl, ?_⟩) (by assumption) ?_
      rotate_left
      · intro W hSw
        try dsimp only at hSw
        go_simp
        try with_reducible rfl
      refine wpAnyH_ready (rs := [3]) (by kernel_rfl) (by simp) ?_
      refine AllReadyH.cons rfl (fun K hK => ?_) AllReadyH.nil
      go_simp
      refine (number_any a1 len1 cap1 _ (Lib.hid (h1.out.below (Below.drew D9.out)))).mono ?_
      rintro e v9 ⟨⟨N2, rfl, hN2⟩, rfl⟩
      refine hK.out _ _ (by assumption) (fun hHeld2 => ?_)
      clear hK K
      refine wpAnyH_take (i := 4) (v := ?_) rfl (by kernel_rfl) (by kernel_rfl) (by kernel_rfl) (fun _ _ _ h => h) (Or.inl ⟨by rfl, ?_⟩) (by assumption) ?_
      rotate_left
      · intro W hSw
        try dsimp only at hSw
        go_simp
        try with_reducible rfl
      refine wpAnyH_take (i := 6) (v := ?_) rfl (by kernel_rfl) (by kernel_rfl) (by kernel_rfl) (fun _ _ _ h => h) (Or.inl ⟨by rfl, ?_⟩) (by assumption) ?_
      rotate_left
      · intro W hSw
        try dsimp only at hSw
        go_simp
        try with_reducible rfl
      refine wpAnyH_take (i := 7) (v := ?_) rfl (by kernel_rfl) (by kernel_rfl) (by kernel_rfl) (fun _ _ _ h => h) (Or.inl ⟨by rfl, ?_⟩) (by assumption) ?_
      rotate_left
      · intro W hSw
        try dsimp only at hSw
        go_simp
        try with_reducible rfl
      refine wpAnyH_ready (rs := [8]) (by kernel_rfl) (by simp) ?_
      refine AllReadyH.cons rfl (fun K hK => ?_) AllReadyH.nil
      go_simp
      refine hK.out _ _ ⟨Fb.out.c0, Fb.out.c1⟩ (fun hHeld2 => ?_)
      clear hK K
      refine wpAnyH_done (by kernel_rfl) ?_ _
      go_upto_region 26 with fail
      have Fa : Hid (SB (World.drew v9d) (v1.heap.size) al ah) := Fa
      have Fb : Hid (SB (World.drew v9d) (v1.heap.size + 1) bl bh) := Fb
      have Fm : Hid (SB (World.drew v9d) (v2.heap.size) ml mh) := Fm
      have Fn : Hid (SB (World.drew v9d) (v3.heap.size) ml mh) := Fn
      have Fj : Hid (SB (World.drew v9d) (v4.heap.size) jl jh) := Fj
      have Fk : Hid (SB (World.drew v9d) (v5.heap.size) jl jh) := Fk
      have Fx : Hid (SB (World.drew v9d) (v6.heap.size) xl xh) := Fx
      have Fy : Hid (SB (World.drew v9d) (v6.heap.size + 1) yl yh) := Fy
      have Fl : Hid (SB (World.drew v9d) (v7.heap.size) xl xh) := Fl
      have Fg : Hid (SB (World.drew v9d) (v7.heap.size + 1) yl yh) := Fg
      have D9 : Hid (Below w.heap.size w (World.drew v9d)) := Lib.hid (Below.drew D9.out)
      have ca := Fa.out.c0
      have da := Fa.out.c1
      have cb := Fb.out.c0
      have db := Fb.out.c1
      have cm := Fm.out.c0
      have dm := Fm.out.c1
      have cn := Fn.out.c0
      have dn := Fn.out.c1
      have cj := Fj.out.c0
      have dj := Fj.out.c1
      have ck := Fk.out.c0
      have dk := Fk.out.c1
      have cx := Fx.out.c0
      have dx := Fx.out.c1
      have cy := Fy.out.c0
      have dy := Fy.out.c1
      have cl := Fl.out.c0
      have dl := Fl.out.c1
      have cg := Fg.out.c0
      have dg := Fg.out.c1
      generalize World.drew v9d = v9dd at Fa ca da Fb cb db Fm cm dm Fn cn dn Fj cj dj Fk ck dk Fx cx dx Fy cy dy Fl cl dl Fg cg dg D9 ⊢
      obtain ⟨u, hu, u1, u2⟩ := num_in N1 z1 z2 z3
      obtain ⟨vv, hv, y1, y2⟩ := num_in7 N2 hN2 z4 z5 z6
      rw [hu, hv]
      clear hu hv hN1 hN2
      have IU : inSt ⟨al, ah⟩ u = true := inSt_mk u1 u2
      have IV : inSt ⟨bl, bh⟩ vv = true := inSt_mk y1 y2
      rcases (show vv < u by omega) with huv
      · have e9 : (u == vv) = false := by simp; omega
        have e8 : ¬ u < vv := by omega
        clear IU IV
        go_wp2_with fail
        refine (drawWithinSt_any a1 len1 cap1 _ (Lib.hid (h1.out.below D9.out))).mono ?_
        rintro e t1 ⟨cl, ch, dl, dh, rfl, hb⟩
        have E1 := Lib.hid (Below.tr D9.out hb)
        clear hb
        obtain ⟨⟨q, r⟩, hq⟩ : ∃ q, withinR ⟨cl, ch⟩ ⟨dl, dh⟩ = q := ⟨_, rfl⟩
        have Qw := Lib.hid hq
        clear hq
        have eq1 : (q == q) = true := by simp
        have er1 : (r == r) = true := by simp
        go_wp2_with fail
        have NB := two_news t1 cl ch dl dh
        unfold sO at NB
        have Fc := Lib.hid NB.out.1
        have Fd := Lib.hid NB.out.2.1
        have E2 := Lib.hid (Below.tr E1.out NB.out.2.2)
        clear NB
        generalize ((t1.alloc (.cells #[.int .i64 cl, .int .i64 ch] 24)).alloc (.cells #[.int .i64 dl, .int .i64 dh] 24)) = t2 at Fc Fd E2 ⊢
        refine (withinI_any _ _ _ _ _).mono ?_
        rw [Qw.out]
        rintro e t3 ⟨rfl, hb⟩
        have cc := (SB.below Fc.out hb).c0
        have cd := (SB.below Fc.out hb).c1
        have dc := (SB.below Fd.out hb).c0
        have dd := (SB.below Fd.out hb).c1
        have E3 := Lib.hid (Below.tr E2.out hb)
        clear hb
        go_wp2_with fail
        refine (withinM_any _ _ _ _ _).mono ?_
        rw [Qw.out]
        rintro e t4 ⟨rfl, hb⟩
        have E4 := Lib.hid (Below.tr E3.out hb)
        clear hb
        go_wp2
        go_ret
        exact ⟨rfl, E4.out⟩
end Go.Proofs.Ytkffggnajoohfaa.Op
