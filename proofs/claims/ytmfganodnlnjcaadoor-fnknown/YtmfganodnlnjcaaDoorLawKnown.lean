/-
  The walk of the law FnKnown.
-/
import Derived.Test.YtmfganodnlnjcaaDoorKn10
import Derived.Test.YtmfganodnlnjcaaDoorKn12
import Derived.Test.YtmfganodnlnjcaaDoorKnD2
import Derived.Test.YtmfganodnlnjcaaDoorKnRes
namespace Go.Proofs.YtmfganodnlnjcaaDoor.Op
open Go.Proofs.YtmfganodnlnjcaaDoor
open Go.ChangeShapes Go.WideShapes Go.ChangeAt Go.RowKit

theorem gK_kn {v m : Int} (h : gK v m = true) : goodK (kn v m) = true ∧ v = ((kn v m).v : Int) ∧ m = ((kn v m).m : Int) := by
  obtain ⟨a, b, rfl, rfl, g⟩ := gK_open h
  exact ⟨g, rfl, rfl⟩
theorem waysA_kn {v m : Int} (h : gK v m = true) : waysA v m = ((waysN (kn v m) : Int), true) := by unfold waysA; rw [h]; rfl
theorem do_factsK {op al ah bl bh : Int} (hok : (doA op al ah bl bh).2 = true) : isOp op = true ∧ gK al ah = true ∧ gK bl bh = true ∧ (doA op al ah bl bh).1 = doK op (kn al ah) (kn bl bh) := by
  unfold doA at hok ⊢
  cases hg : (isOp op && gK al ah && gK bl bh)
  · rw [hg] at hok; simp at hok
  · simp only [Bool.and_eq_true] at hg
    exact ⟨hg.1.1, hg.1.2, hg.2, rfl⟩
/-- one round's answers -/
theorem round_factsK {op al ah bl bh SL SH : Int} {M i j : Nat} (ho : isOp op = true) (k1 : gK al ah = true) (k2 : gK bl bh = true) (hs1 : ((doK op (kn al ah) (kn bl bh)).v : Int) = SL) (hs2 : ((doK op (kn al ah) (kn bl bh)).m : Int) = SH) (hi : i < waysN (kn al ah)) (hj : j < waysN (kn bl bh)) (hjM : j < M) :
    ∃ x y z : Int, numA al ah i = (x, true) ∧ numA bl bh j = (y, true) ∧ opOf op x y = z ∧ isW x = true ∧ isW y = true ∧ mayA SL SH z = (true, true) ∧
      (i * M + j = 0 → ((LR op (kn al ah) (kn bl bh) M (i * M + j + 1)).v : Int) = z ∧ ((LR op (kn al ah) (kn bl bh) M (i * M + j + 1)).m : Int) = 0) ∧
      (0 < i * M + j → ∀ U V : Int, ((LR op (kn al ah) (kn bl bh) M (i * M + j)).v : Int) = U → ((LR op (kn al ah) (kn bl bh) M (i * M + j)).m : Int) = V →
        ∃ U' V' : Int, ((LR op (kn al ah) (kn bl bh) M (i * M + j + 1)).v : Int) = U' ∧ ((LR op (kn al ah) (kn bl bh) M (i * M + j + 1)).m : Int) = V' ∧ ((joinA U V z 0).1.v : Int) = U' ∧ ((joinA U V z 0).1.m : Int) = V' ∧ (joinA U V z 0).2 = true) := by
  obtain ⟨a, b, rfl, rfl, ga⟩ := gK_open k1
  obtain ⟨c, d, rfl, rfl, gb⟩ := gK_open k2
  rw [kn_nat, kn_nat] at *
  have hx := numAt_lt ga i
  have hy := numAt_lt gb j
  have hz := opN_lt (op := op) hx hy
  have er := res_at op ⟨a, b⟩ ⟨c, d⟩ (i := i) hjM
  have gd := doK_good (op := op) ga gb
  refine ⟨_, _, _, numA_yes ga hi, numA_yes gb hj, opOf_nat ho hx hy, isW_mk (by omega) (by omega), isW_mk (by omega) (by omega), ?_, ?_, ?_⟩
  · have := doK_may ho ga gb hx hy (numAt_may ga i) (numAt_may gb j)
    obtain ⟨⟨dv, dm⟩, hd⟩ : ∃ q, doK op ⟨a, b⟩ ⟨c, d⟩ = q := ⟨_, rfl⟩
    rw [hd] at this gd hs1 hs2
    simp only at hs1 hs2
    subst hs1 hs2
    rw [mayA_nat gd hz, this]
  · intro h0
    rw [h0] at er ⊢
    rw [LR_one, er]
    exact ⟨rfl, rfl⟩
  · intro h0 U V hU hV
    have g1 := LR_good (op := op) ga gb M (i * M + j)
    have e2 := LR_succ op ⟨a, b⟩ ⟨c, d⟩ M _ h0
    rw [er] at e2
    obtain ⟨⟨u, v⟩, hu⟩ : ∃ q, LR op ⟨a, b⟩ ⟨c, d⟩ M (i * M + j) = q := ⟨_, rfl⟩
    rw [hu] at g1 e2 hU hV
    simp only at hU hV
    subst hU hV
    have ej : joinA (u : Int) (v : Int) ((opN op (numAt ⟨a, b⟩ i) (numAt ⟨c, d⟩ j) : Nat) : Int) 0 = (joinK ⟨u, v⟩ ⟨opN op (numAt ⟨a, b⟩ i) (numAt ⟨c, d⟩ j), 0⟩, true) := ruleA_yes (f := joinK) (d := 0) g1 (known_good hz)
    rw [e2, ej]
    exact ⟨_, _, rfl, rfl, rfl, rfl, rfl⟩
/-- what the walk wants of the numbers of words -/
theorem min_facts {n : Nat} (h1 : 1 ≤ n) : ∃ N : Nat, 1 ≤ N ∧ N ≤ n ∧ N ≤ 64 ∧ (n ≤ 64 → N = n) ∧ (64 < n → N = 64) := by
  by_cases h : n ≤ 64
  · exact ⟨n, h1, by omega, h, fun _ => rfl, fun _ => by omega⟩
  · exact ⟨64, by omega, by omega, by omega, fun _ => by omega, fun _ => rfl⟩
theorem ways_bounds (k : Kn) : 1 ≤ waysN k ∧ waysN k ≤ 65536 := pow_small (pcF_le 16 k.m)
theorem kkK {x y : Nat} (hx : x ≤ 65536) (hy : y ≤ 65536) : x * y ≤ 4294967296 := Nat.mul_le_mul hx hy
set_option maxRecDepth 100000 in
set_option maxHeartbeats 64000000 in
theorem lawKnown (a0 : Option Addr) (len0 cap0 : Nat) (a1 : Option Addr) (len1 cap1 : Nat) (w : World) (h0 : Hid (Bytes w a0 len0)) (h1 : Hid (Bytes w a1 len1)) (HT : Hid (PowTab w)) (HN : Hid (NibTab w)) :
    Calls Tryd.prog 3 #[.slice a0 len0 cap0, .slice a1 len1 cap1] w fun e w' => e = .returned (.bool true) ∧ Below w.heap.size w w' := by
  by_cases hbig : (1048576 : Int) < wrap64 ((len0 : Int) + (len1 : Int))
  · go_enter Tryd.func3, Tryd.ntmps3
    go_wp2
    go_ret
    exact ⟨rfl, Below.refl _ _⟩
  have hdec : decide ((1048576 : Int) < wrap64 ((len0 : Int) + (len1 : Int))) = false := decide_eq_false hbig
  clear hbig
  go_enter Tryd.func3, Tryd.ntmps3
  go_wp2_with fail
  refine (drawDoK_any a0 len0 cap0 _ h0).mono ?_
  rintro e v1 ⟨op, al, ah, bl, bh, rfl, hb⟩
  have D1 := Lib.hid hb
  clear hb
  obtain ⟨sl, hsl⟩ : ∃ x : Int, ((doA op al ah bl bh).1.v : Int) = x := ⟨_, rfl⟩
  obtain ⟨sh, hsh⟩ : ∃ x : Int, ((doA op al ah bl bh).1.m : Int) = x := ⟨_, rfl⟩
  obtain ⟨ok, hok⟩ : ∃ x, (doA op al ah bl bh).2 = x := ⟨_, rfl⟩
  have Q1 := Lib.hid hsl
  have Q2 := Lib.hid hsh
  have Q3 := Lib.hid hok
  clear hsl hsh hok
  have q0 := neq_kn sl sh sl sh
  simp only [and_self, decide_true, Bool.not_true] at q0
  have eok : (ok != ok) = false := by simp
  obtain ⟨ga, hga⟩ : ∃ g, gK al ah = g := ⟨_, rfl⟩
  have GA := Lib.hid hga
  clear hga
  have ega : (ga != ga) = false := by simp
  go_wp2_with fail
  have NB := two_newk v1 al ah bl bh
  unfold kO at NB
  replace D1 := Lib.hid (Below.tr D1.out NB.out.2.2)
  have Fa := Lib.hid NB.out.1
  have Fb := Lib.hid NB.out.2.1
  clear NB
  generalize ((v1.alloc (.cells #[.int .i64 al, .int .i64 ah] 24)).alloc (.cells #[.int .i64 bl, .int .i64 bh] 24)) = u1 at Fa Fb D1 ⊢
  refine (doKI_any _ _ _ _ _ _ (Lib.hid (HT.out.bel D1.out))).mono ?_
  rw [Q1.out, Q2.out, Q3.out]
  rintro e v2 ⟨rfl, hb⟩
  replace Fa := Lib.hid (KB.below Fa.out hb)
  replace Fb := Lib.hid (KB.below Fb.out hb)
  have D2 := Lib.hid (Below.tr D1.out hb)
  clear hb D1
  have ca := Fa.out.c0
  have da := Fa.out.c1
  have za := Fa.out.lt
  have cb := Fb.out.c0
  have db := Fb.out.c1
  have zb := Fb.out.lt
  go_wp2_with fail
  have NB := one_newk v2 sl sh
  unfold kO at NB
  replace Fa := Lib.hid (KB.below Fa.out NB.out.2)
  replace Fb := Lib.hid (KB.below Fb.out NB.out.2)
  replace D2 := Lib.hid (Below.tr D2.out NB.out.2)
  have Fs := Lib.hid NB.out.1
  clear NB
  generalize (v2.alloc (.cells #[.int .i64 sl, .int .i64 sh] 24)) = u2 at Fa Fb Fs D2 ⊢
  refine (doKM_any _ _ _ _ _ _).mono ?_
  rw [Q1.out, Q2.out, Q3.out]
  rintro e v3 ⟨rfl, hb⟩
  replace Fa := Lib.hid (KB.below Fa.out hb)
  replace Fb := Lib.hid (KB.below Fb.out hb)
  replace Fs := Lib.hid (KB.below Fs.out hb)
  have D3 := Lib.hid (Below.tr D2.out hb)
  clear hb D2
  clear ca da za cb db zb
  have ca := Fa.out.c0
  have da := Fa.out.c1
  have za := Fa.out.lt
  have cb := Fb.out.c0
  have db := Fb.out.c1
  have zb := Fb.out.lt
  have cs := Fs.out.c0
  have ds := Fs.out.c1
  have zs := Fs.out.lt
  go_upto_region 6 with fail
  have NB := one_newk v3 sl sh
  unfold kO at NB
  replace Fa := Lib.hid (KB.below Fa.out NB.out.2)
  replace Fb := Lib.hid (KB.below Fb.out NB.out.2)
  replace Fs := Lib.hid (KB.below Fs.out NB.out.2)
  replace D3 := Lib.hid (Below.tr D3.out NB.out.2)
  have Ft := Lib.hid NB.out.1
  clear NB
  generalize (v3.alloc (.cells #[.int .i64 sl, .int .i64 sh] 24)) = u3 at Fa Fb Fs Ft D3 ⊢
  have Q0 := Lib.hid (Below.refl u3.heap.size u3)
  refine wp_region_held_drew (S := fun W => W.cell? ⟨v1.heap.size, 0, none⟩ = some (.int .i64 al) ∧ W.cell? ⟨v1.heap.size, 1, none⟩ = some (.int .i64 ah) ∧ W.cell? ⟨v2.heap.size, 0, none⟩ = some (.int .i64 sl) ∧ W.cell? ⟨v2.heap.size, 1, none⟩ = some (.int .i64 sh) ∧ W.cell? ⟨v3.heap.size, 0, none⟩ = some (.int .i64 sl) ∧ W.cell? ⟨v3.heap.size, 1, none⟩ = some (.int .i64 sh)) (by kernel_rfl) ?_ (fun hHeld => ?_)
  · exact ⟨(KB.below Fa.out Q0.out).c0, (KB.below Fa.out Q0.out).c1, (KB.below Fs.out Q0.out).c0, (KB.below Fs.out Q0.out).c1, (KB.below Ft.out Q0.out).c0, (KB.below Ft.out Q0.out).c1⟩
  refine wpAnyH_take (i := 0) (v := ?_) rfl (by kernel_rfl) (by kernel_rfl) (by kernel_rfl) (fun _ _ _ h => h) (Or.inl ⟨by rfl, ?_⟩) (by assumption) ?_
  rotate_left
  · intro W hSw
    try dsimp only at hSw
    go_simp
    try with_reducible rfl
  refine wpAnyH_take (i := 1) (v := ?_) rfl (by kernel_rfl) (by kernel_rfl) (by kernel_rfl) (fun _ _ _ h => h) (Or.inl ⟨by rfl, ?_⟩) (by assumption) ?_
  rotate_left
  · intro W hSw
    try dsimp only at hSw
    go_simp
    try with_reducible rfl
  refine wpAnyH_take (i := 2) (v := ?_) rfl (by kernel_rfl) (by kernel_rfl) (by kernel_rfl) (fun _ _ _ h => h) (Or.inl ⟨by rfl, ?_⟩) (by assumption) ?_
  rotate_left
  · intro W hSw
    try dsimp only at hSw
    go_simp
    try with_reducible rfl
  refine wpAnyH_take (i := 3) (v := ?_) rfl (by kernel_rfl) (by kernel_rfl) (by kernel_rfl) (fun _ _ _ h => h) (Or.inl ⟨by rfl, ?_⟩) (by assumption) ?_
  rotate_left
  · intro W hSw
    try dsimp only at hSw
    go_simp
    try with_reducible rfl
  refine wpAnyH_take (i := 4) (v := ?_) rfl (by kernel_rfl) (by kernel_rfl) (by kernel_rfl) (fun _ _ _ h => h) (Or.inl ⟨by kernel_rfl, ?_⟩) (by assumption) ?_
  rotate_left
  · intro W hSw
    try dsimp only at hSw
    go_simp
    try with_reducible rfl
  refine wpAnyH_take (i := 5) (v := ?_) rfl (by kernel_rfl) (by kernel_rfl) (by kernel_rfl) (fun _ _ _ h => h) (Or.inl ⟨by kernel_rfl, ?_⟩) (by assumption) ?_
  rotate_left
  · intro W hSw
    try dsimp only at hSw
    go_simp
    try with_reducible rfl
  refine wpAnyH_take (i := 6) (v := ?_) rfl (by kernel_rfl) (by kernel_rfl) (by kernel_rfl) (fun _ _ _ h => h) (Or.inl ⟨by kernel_rfl, ?_⟩) (by assumption) ?_
  rotate_left
  · intro W hSw
    try dsimp only at hSw
    go_simp
    try with_reducible rfl
  refine wpAnyH_take (i := 7) (v := ?_) rfl (by kernel_rfl) (by kernel_rfl) (by kernel_rfl) (fun _ _ _ h => h) (Or.inl ⟨by rfl, ?_⟩) (by assumption) ?_
  rotate_left
  · intro W hSw
    try dsimp only at hSw
    go_simp
    try with_reducible rfl
  refine wpAnyH_take (i := 8) (v := ?_) rfl (by kernel_rfl) (by kernel_rfl) (by kernel_rfl) (fun _ _ _ h => h) (Or.inl ⟨by rfl, ?_⟩) (by assumption) ?_
  rotate_left
  · intro W hSw
    try dsimp only at hSw
    go_simp
    try with_reducible rfl
  refine wpAnyH_take (i := 9) (v := ?_) rfl (by kernel_rfl) (by kernel_rfl) (by kernel_rfl) (fun _ _ _ h => h) (Or.inl ⟨by kernel_rfl, ?_⟩) (by assumption) ?_
  rotate_left
  · intro W hSw
    try dsimp only at hSw
    go_simp
    try with_reducible rfl
  refine wpAnyH_take (i := 11) (v := ?_) rfl (by kernel_rfl) (by kernel_rfl) (by kernel_rfl) (fun _ _ _ h => h) (Or.inl ⟨by kernel_rfl, ?_⟩) (by assumption) ?_
  rotate_left
  · intro W hSw
    try dsimp only at hSw
    go_simp
    try with_reducible rfl
  refine wpAnyH_ready (rs := [10]) (by kernel_rfl) (by simp) ?_
  refine AllReadyH.cons rfl (fun K hK => ?_) AllReadyH.nil
  rw [if_pos (by kernel_rfl)]
  go_simp
  refine (goodKI_any _ _ _).mono ?_
  rw [GA.out]
  rintro e y1 ⟨rfl, hb⟩
  have Y1 := Lib.hid (Below.tr (Below.drew Q0.out) hb)
  have Y1z := Y1.out.size
  clear hb
  refine hK.out _ _ ⟨(KB.below Fa.out Y1.out).c0, (KB.below Fa.out Y1.out).c1, (KB.below Fs.out Y1.out).c0, (KB.below Fs.out Y1.out).c1, (KB.below Ft.out Y1.out).c0, (KB.below Ft.out Y1.out).c1⟩ (fun hHeld2 => ?_)
  clear hK K
  refine wpAnyH_ready (rs := [12]) (by kernel_rfl) (by simp) ?_
  refine AllReadyH.cons rfl (fun K hK => ?_) AllReadyH.nil
  rw [if_pos (by kernel_rfl)]
  go_simp
  refine (goodKM_any _ _ _).mono ?_
  rw [GA.out]
  rintro e y2 ⟨rfl, hb⟩
  have Y2 := Lib.hid (Below.tr Y1.out hb)
  have Y2z := Y2.out.size
  clear hb
  refine hK.out _ _ ⟨(KB.below Fa.out Y2.out).c0, (KB.below Fa.out Y2.out).c1, (KB.below Fs.out Y2.out).c0, (KB.below Fs.out Y2.out).c1, (KB.below Ft.out Y2.out).c0, (KB.below Ft.out Y2.out).c1⟩ (fun hHeld2 => ?_)
  clear hK K
  refine wpAnyH_take (i := 13) (v := ?_) rfl (by kernel_rfl) (by kernel_rfl) (by kernel_rfl) (fun _ _ _ h => h) (Or.inl ⟨by kernel_rfl, ?_⟩) (by assumption) ?_
  rotate_left
  · intro W hSw
    try dsimp only at hSw
    go_simp
    try with_reducible rfl
  refine wpAnyH_take (i := 14) (v := ?_) rfl (by kernel_rfl) (by kernel_rfl) (by kernel_rfl) (fun _ _ _ h => h) (Or.inl ⟨by rfl, ?_⟩) (by assumption) ?_
  rotate_left
  · intro W hSw
    try dsimp only at hSw
    go_simp
    try with_reducible rfl
  refine wpAnyH_done (by kernel_rfl) ?_ _
  replace Fa := Lib.hid (KB.below Fa.out Y2.out)
  replace Fb := Lib.hid (KB.below Fb.out Y2.out)
  replace Fs := Lib.hid (KB.below Fs.out Y2.out)
  replace Ft := Lib.hid (KB.below Ft.out Y2.out)
  have D4 := Lib.hid (Below.tr D3.out Y2.out)
  clear hHeld hHeld2 Y1 Y1z Y2 Y2z Q0 D3 ca da za cb db zb cs ds zs
  have ca := Fa.out.c0
  have da := Fa.out.c1
  have cb := Fb.out.c0
  have db := Fb.out.c1
  have cs := Fs.out.c0
  have ds := Fs.out.c1
  have ct := Ft.out.c0
  have dt := Ft.out.c1
  cases ok
  · go_wp2_with fail
    refine (drawNumK_any a1 len1 cap1 _ (Lib.hid (h1.out.below D4.out))).mono ?_
    rintro e t1 ⟨cl, ch, nn, rfl, hb⟩
    have E := Lib.hid (Below.tr D4.out hb)
    clear hb
    obtain ⟨⟨x, rx⟩, hq⟩ : ∃ q, numA cl ch nn = q := ⟨_, rfl⟩
    have Qn := Lib.hid hq
    clear hq
    go_wp2_with fail
    have NB := one_newk t1 cl ch
    unfold kO at NB
    have Fc := Lib.hid NB.out.1
    have E := Lib.hid (Below.tr E.out NB.out.2)
    clear NB
    generalize (t1.alloc (.cells #[.int .i64 cl, .int .i64 ch] 24)) = t2 at Fc E ⊢
    refine (numI_any _ _ _ _ (Lib.hid (HN.out.bel E.out))).mono ?_
    rw [Qn.out]
    rintro e t3 ⟨rfl, hb⟩
    have Fc := Lib.hid (KB.below Fc.out hb)
    have cc := Fc.out.c0
    have dc := Fc.out.c1
    have E := Lib.hid (Below.tr E.out hb)
    clear hb
    go_wp2_with fail
    refine (numM_any _ _ _ _).mono ?_
    rw [Qn.out]
    rintro e t4 ⟨rfl, hb⟩
    have Fc := Lib.hid (KB.below Fc.out hb)
    have cc := Fc.out.c0
    have dc := Fc.out.c1
    have E := Lib.hid (Below.tr E.out hb)
    clear hb
    go_wp2_with fail
    refine (drawMayK_any a1 len1 cap1 _ (Lib.hid (h1.out.below E.out))).mono ?_
    rintro e t5 ⟨dl, dh, zz, rfl, hb⟩
    have E := Lib.hid (Below.tr E.out hb)
    clear hb
    obtain ⟨⟨y, ry⟩, hq⟩ : ∃ q, mayA dl dh zz = q := ⟨_, rfl⟩
    have Qm := Lib.hid hq
    clear hq
    obtain ⟨⟨z, rz⟩, hq⟩ : ∃ q, waysA dl dh = q := ⟨_, rfl⟩
    have Qw := Lib.hid hq
    clear hq
    go_wp2_with fail
    have NB := one_newk t5 dl dh
    unfold kO at NB
    have Fd := Lib.hid NB.out.1
    have E := Lib.hid (Below.tr E.out NB.out.2)
    clear NB
    generalize (t5.alloc (.cells #[.int .i64 dl, .int .i64 dh] 24)) = t6 at Fd E ⊢
    refine (mayI_any _ _ _ _).mono ?_
    rw [Qm.out]
    rintro e t7 ⟨rfl, hb⟩
    have Fd := Lib.hid (KB.below Fd.out hb)
    have cd := Fd.out.c0
    have dd := Fd.out.c1
    have E := Lib.hid (Below.tr E.out hb)
    clear hb
    go_wp2_with fail
    refine (mayM_any _ _ _ _).mono ?_
    rw [Qm.out]
    rintro e t8 ⟨rfl, hb⟩
    have Fd := Lib.hid (KB.below Fd.out hb)
    have cd := Fd.out.c0
    have dd := Fd.out.c1
    have E := Lib.hid (Below.tr E.out hb)
    clear hb
    go_wp2_with fail
    refine (waysI_any _ _ _ (Lib.hid (HN.out.bel E.out))).mono ?_
    rw [Qw.out]
    rintro e t9 ⟨rfl, hb⟩
    have Fd := Lib.hid (KB.below Fd.out hb)
    have cd := Fd.out.c0
    have dd := Fd.out.c1
    have E := Lib.hid (Below.tr E.out hb)
    clear hb
    go_wp2_with fail
    refine (waysM_any _ _ _).mono ?_
    rw [Qw.out]
    rintro e t10 ⟨rfl, hb⟩
    have Fd := Lib.hid (KB.below Fd.out hb)
    have cd := Fd.out.c0
    have dd := Fd.out.c1
    have E := Lib.hid (Below.tr E.out hb)
    clear hb
    have ex1 : (x == x) = true := by simp
    have erx1 : (rx == rx) = true := by simp
    have ey1 : (y == y) = true := by simp
    have ery1 : (ry == ry) = true := by simp
    have ez1 : (z == z) = true := by simp
    have erz1 : (rz == rz) = true := by simp
    go_wp2
    go_ret
    exact ⟨rfl, E.out⟩
  · obtain ⟨ho, g1, g2, hs⟩ := do_factsK Q3.out
    have hga : ga = true := by rw [← GA.out]; exact g1
    subst hga
    have G2 := gK_kn g1
    have G3 := gK_kn g2
    have HO := Lib.hid ho
    have HG2 := Lib.hid g2
    have HS1 : Hid (((doK op (kn al ah) (kn bl bh)).v : Int) = sl) := Lib.hid (by rw [← hs]; exact Q1.out)
    have HS2 : Hid (((doK op (kn al ah) (kn bl bh)).m : Int) = sh) := Lib.hid (by rw [← hs]; exact Q2.out)
    have W3 : Hid (gK sl sh = true) := Lib.hid (by rw [← HS1.out, ← HS2.out, gK_nat]; exact doK_good G2.1 G3.1)
    have GG1 := Lib.hid G2.1
    have GG2 := Lib.hid G3.1
    have ho' : 1 ≤ op ∧ op ≤ 10 := by simpa [isOp] using ho
    obtain ⟨nn, hnn⟩ : ∃ x, waysN (kn al ah) = x := ⟨_, rfl⟩
    obtain ⟨mm, hmm⟩ : ∃ x, waysN (kn bl bh) = x := ⟨_, rfl⟩
    have bn := ways_bounds (kn al ah)
    have bm := ways_bounds (kn bl bh)
    rw [hnn] at bn
    rw [hmm] at bm
    obtain ⟨NI, hNI⟩ : ∃ x : Int, (nn : Int) = x := ⟨_, rfl⟩
    obtain ⟨MI, hMI⟩ : ∃ x : Int, (mm : Int) = x := ⟨_, rfl⟩
    have W1 : Hid (waysA al ah = (NI, true)) := Lib.hid (by rw [waysA_kn g1, hnn, hNI])
    have W2 : Hid (waysA bl bh = (MI, true)) := Lib.hid (by rw [waysA_kn g2, hmm, hMI])
    have NN := Lib.hid hnn
    have MM := Lib.hid hmm
    have HNI := Lib.hid hNI
    have HMI := Lib.hid hMI
    obtain ⟨N, N1⟩ := min_facts bn.1
    obtain ⟨M, M1⟩ := min_facts bm.1
    have HN1 : Hid (1 ≤ N ∧ (N : Int) ≤ NI ∧ N ≤ 64 ∧ (NI ≤ 64 → (N : Int) = NI) ∧ (64 < NI → N = 64)) := Lib.hid (by omega)
    have HM1 : Hid (1 ≤ M ∧ (M : Int) ≤ MI ∧ M ≤ 64 ∧ (MI ≤ 64 → (M : Int) = MI) ∧ (64 < MI → M = 64)) := Lib.hid (by omega)
    have n1 : 1 ≤ NI := by omega
    have n2 : NI ≤ 65536 := by omega
    have m1 : 1 ≤ MI := by omega
    have m2 : MI ≤ 65536 := by omega
    have N64 : N ≤ 64 := N1.2.2.1
    have M64 : M ≤ 64 := M1.2.2.1
    obtain ⟨o1, o2⟩ := ho'
    have hnm := kkK bn.2 bm.2
    obtain ⟨pn, hpn⟩ : ∃ x, nn * mm = x := ⟨_, rfl⟩
    rw [hpn] at hnm
    have hpe : NI * MI = (pn : Int) := by rw [← hNI, ← hMI, ← Int.natCast_mul, hpn]
    obtain ⟨PN, hPN⟩ : ∃ x : Int, NI * MI = x := ⟨_, rfl⟩
    rw [hPN] at hpe
    have p1 : 0 ≤ PN := by omega
    have p2 : PN ≤ 4294967296 := by omega
    obtain ⟨qa, hqa⟩ : ∃ q, decide (PN ≤ 1024) = q := ⟨_, rfl⟩
    clear ho g1 g2 hs G2 G3 hnn hmm hNI hMI bn bm N1 M1 hnm hpn hpe
    go_wp2_with fail
    refine (waysI_any _ _ _ (Lib.hid (HN.out.bel D4.out))).mono ?_
    rw [W1.out]
    rintro e v5 ⟨rfl, hb⟩
    replace Fa := Lib.hid (KB.below Fa.out hb)
    replace Fb := Lib.hid (KB.below Fb.out hb)
    replace Fs := Lib.hid (KB.below Fs.out hb)
    replace Ft := Lib.hid (KB.below Ft.out hb)
    have D5 := Lib.hid (Below.tr D4.out hb)
    clear hb D4
    clear ca da cb db cs ds ct dt
    have ca := Fa.out.c0
    have da := Fa.out.c1
    have za := Fa.out.lt
    have cb := Fb.out.c0
    have db := Fb.out.c1
    have zb := Fb.out.lt
    have cs := Fs.out.c0
    have ds := Fs.out.c1
    have zs := Fs.out.lt
    go_wp2_with fail
    refine (waysI_any _ _ _ (Lib.hid (HN.out.bel D5.out))).mono ?_
    rw [W2.out]
    rintro e v6 ⟨rfl, hb⟩
    replace Fa := Lib.hid (KB.below Fa.out hb)
    replace Fb := Lib.hid (KB.below Fb.out hb)
    replace Fs := Lib.hid (KB.below Fs.out hb)
    replace Ft := Lib.hid (KB.below Ft.out hb)
    have D6 := Lib.hid (Below.tr D5.out hb)
    clear hb D5
    clear ca da za cb db zb cs ds zs
    have ca := Fa.out.c0
    have da := Fa.out.c1
    have za := Fa.out.lt
    have cb := Fb.out.c0
    have db := Fb.out.c1
    have zb := Fb.out.lt
    have cs := Fs.out.c0
    have ds := Fs.out.c1
    have zs := Fs.out.lt
    go_wp2_with fail
    refine (goodKI_any _ _ _).mono ?_
    rw [W3.out]
    rintro e v7 ⟨rfl, hb⟩
    replace Fa := Lib.hid (KB.below Fa.out hb)
    replace Fb := Lib.hid (KB.below Fb.out hb)
    replace Fs := Lib.hid (KB.below Fs.out hb)
    replace Ft := Lib.hid (KB.below Ft.out hb)
    have D7 := Lib.hid (Below.tr D6.out hb)
    clear hb D6
    clear ca da za cb db zb cs ds zs
    have ca := Fa.out.c0
    have da := Fa.out.c1
    have za := Fa.out.lt
    have cb := Fb.out.c0
    have db := Fb.out.c1
    have zb := Fb.out.lt
    have cs := Fs.out.c0
    have ds := Fs.out.c1
    have zs := Fs.out.lt
    go_wp2_with fail
    have NB := one_newk v7 0 0
    unfold kO at NB
    replace Fa := Lib.hid (KB.below Fa.out NB.out.2)
    replace Fb := Lib.hid (KB.below Fb.out NB.out.2)
    replace Fs := Lib.hid (KB.below Fs.out NB.out.2)
    have DL := Lib.hid (Below.tr D7.out NB.out.2)
    have FL := Lib.hid NB.out.1
    obtain ⟨gl, hgl⟩ : ∃ q, v7.heap.size = q := ⟨_, rfl⟩
    rw [hgl] at FL ⊢
    have ya : v1.heap.size ≠ gl := by have := za; omega
    have yb : v1.heap.size + 1 ≠ gl := by have := zb; omega
    have ys : v2.heap.size ≠ gl := by have := zs; omega
    have ygl : w.heap.size ≤ gl := by rw [← hgl]; exact D7.out.size
    clear NB hgl
    generalize (v7.alloc (.cells #[.int .i64 0, .int .i64 0] 24)) = vl at Fa Fb Fs FL DL ⊢
    clear ca da za cb db zb cs ds zs Ft D7 q0 eok ega
    go_loopw [17, 19] (fun f i wr => ∃ (k : Nat) (fb : Bool), k ≤ N ∧ i = .int .i64 k ∧ f = .bool fb ∧ fb = decide (k * M = 0) ∧ KB wr (v1.heap.size) al ah ∧ KB wr (v1.heap.size + 1) bl bh ∧ KB wr (v2.heap.size) sl sh ∧ KB wr gl ((LR op (kn al ah) (kn bl bh) M (k * M)).v : Int) ((LR op (kn al ah) (kn bl bh) M (k * M)).m : Int) ∧ Below w.heap.size w wr) (fun _ i _ => 64 - (intOf i).toNat)
    case atStart => exact ⟨0, true, by omega, rfl, rfl, by simp, Fa.out, Fb.out, Fs.out, by rw [Nat.zero_mul]; exact FL.out, DL.out⟩
    case round =>
      obtain ⟨k, fbo, hk, rfl, rfl, hfo, fa, fb, fs, fl, hd⟩ := hrel
      have HFO := Lib.hid hfo
      clear hfo
      have Ra := Lib.hid fa
      have Rb := Lib.hid fb
      have Rs := Lib.hid fs
      have RL := Lib.hid fl
      have RD := Lib.hid hd
      clear fa fb fs fl hd
      by_cases hlt : k < N
      · have hk64 : (k : Int) < 64 := by omega
        have HKN : Hid (k < waysN (kn al ah)) := Lib.hid (by rw [NN.out]; have := HN1.out.2.1; have := HNI.out; omega)
        have d1 : decide ((k : Int) < NI) = true := decide_eq_true (by have := HN1.out.2.1; omega)
        go_wp2_with fail
        go_loopw [17, 20] (fun f i wr => ∃ (l : Nat) (fb : Bool), l ≤ M ∧ i = .int .i64 l ∧ f = .bool fb ∧ fb = decide (k * M + l = 0) ∧ KB wr (v1.heap.size) al ah ∧ KB wr (v1.heap.size + 1) bl bh ∧ KB wr (v2.heap.size) sl sh ∧ KB wr gl ((LR op (kn al ah) (kn bl bh) M (k * M + l)).v : Int) ((LR op (kn al ah) (kn bl bh) M (k * M + l)).m : Int) ∧ Below w.heap.size w wr) (fun _ i _ => 64 - (intOf i).toNat)
        case atStart => exact ⟨0, fbo, by omega, rfl, rfl, by rw [HFO.out, Nat.add_zero], Ra.out, Rb.out, Rs.out, RL.out, RD.out⟩
        case round =>
          obtain ⟨l, fbi, hl, rfl, rfl, hfi, fa, fb, fs, fl, hd⟩ := hrel
          have HFI := Lib.hid hfi
          clear hfi
          have Ra := Lib.hid fa
          have Rb := Lib.hid fb
          have Rs := Lib.hid fs
          have RL := Lib.hid fl
          have RD := Lib.hid hd
          clear fa fb fs fl hd
          by_cases hlt2 : l < M
          · have HLM : Hid (l < waysN (kn bl bh)) := Lib.hid (by rw [MM.out]; have := HM1.out.2.1; have := HMI.out; omega)
            have hl64 : (l : Int) < 64 := by omega
            have e1 : decide ((l : Int) < MI) = true := decide_eq_true (by have := HM1.out.2.1; omega)
            obtain ⟨x, y, z, f1, f2, f3, f4, f5, f6, f7, f8⟩ := round_factsK (M := M) HO.out GA.out HG2.out HS1.out HS2.out HKN.out HLM.out hlt2
            have H1 := Lib.hid f1
            have H2 := Lib.hid f2
            have H3 := Lib.hid f3
            have H4 := Lib.hid f4
            have H5 := Lib.hid f5
            have H6 := Lib.hid f6
            have H7 := Lib.hid f7
            have H8 := Lib.hid f8
            clear f1 f2 f3 f4 f5 f6 f7 f8
            have HOK : Hid ((isOp op && isW x && isW y) = true) := Lib.hid (by rw [HO.out, H4.out, H5.out]; rfl)
            have y0a := Ra.out.c0
            have y1a := Ra.out.c1
            have y0b := Rb.out.c0
            have y1b := Rb.out.c1
            go_wp2_with fail
            refine (numI_any _ _ _ _ (Lib.hid (HN.out.bel RD.out))).mono ?_
            rw [H1.out]
            rintro e r1 ⟨rfl, hb⟩
            replace Ra := Lib.hid (KB.below Ra.out hb)
            replace Rb := Lib.hid (KB.below Rb.out hb)
            replace Rs := Lib.hid (KB.below Rs.out hb)
            replace RL := Lib.hid (KB.below RL.out hb)
            replace RD := Lib.hid (Below.tr RD.out hb)
            clear hb
            replace y0a := Ra.out.c0
            replace y1a := Ra.out.c1
            replace y0b := Rb.out.c0
            replace y1b := Rb.out.c1
            have y0s := Rs.out.c0
            have y1s := Rs.out.c1
            go_wp2_with fail
            refine (numI_any _ _ _ _ (Lib.hid (HN.out.bel RD.out))).mono ?_
            rw [H2.out]
            rintro e r2 ⟨rfl, hb⟩
            replace Ra := Lib.hid (KB.below Ra.out hb)
            replace Rb := Lib.hid (KB.below Rb.out hb)
            replace Rs := Lib.hid (KB.below Rs.out hb)
            replace RL := Lib.hid (KB.below RL.out hb)
            replace RD := Lib.hid (Below.tr RD.out hb)
            clear hb
            replace y0a := Ra.out.c0
            replace y1a := Ra.out.c1
            replace y0b := Rb.out.c0
            replace y1b := Rb.out.c1
            replace y0s := Rs.out.c0
            replace y1s := Rs.out.c1
            go_wp2_with fail
            refine (doOp_any _ _ _ _ (Lib.hid (HT.out.bel RD.out))).mono ?_
            rw [H3.out, HOK.out]
            rintro e v9 ⟨rfl, rfl⟩
            go_wp2_with fail
            refine (mayI_any _ _ _ _).mono ?_
            rw [H6.out]
            rintro e r3 ⟨rfl, hb⟩
            replace Ra := Lib.hid (KB.below Ra.out hb)
            replace Rb := Lib.hid (KB.below Rb.out hb)
            replace Rs := Lib.hid (KB.below Rs.out hb)
            replace RL := Lib.hid (KB.below RL.out hb)
            replace RD := Lib.hid (Below.tr RD.out hb)
            clear hb
            replace y0a := Ra.out.c0
            replace y1a := Ra.out.c1
            replace y0b := Rb.out.c0
            replace y1b := Rb.out.c1
            replace y0s := Rs.out.c0
            replace y1s := Rs.out.c1
            by_cases ht : k * M + l = 0
            · have dt : fbi = true := by rw [HFI.out]; exact decide_eq_true ht
              subst dt
              have HE := Lib.hid (H7.out ht)
              clear ht
              have zl := RL.out.lt
              have yf := RL.out.f 0
              have yg := RL.out.f 1
              have yc := RL.out.c0
              have yd := RL.out.c1
              have NB := one_newk r3 z 0
              unfold kO at NB
              go_wp2
              go_roundw
              case rel => exact ⟨l + 1, false, by omega, by go_num, rfl, by simp, (KB.far2 Ra.out ya).below (below1 _ _), (KB.far2 Rb.out yb).below (below1 _ _), (KB.far2 Rs.out ys).below (below1 _ _), by rw [← Nat.add_assoc, HE.out.1, HE.out.2]; exact (KB.set2 RL.out).below (below1 _ _), Below.tr (belowK2 RD.out ygl) (below1 _ _)⟩
              case measure => simp [intOf]; omega
            · have dt : fbi = false := by rw [HFI.out]; exact decide_eq_false ht
              subst dt
              have ht2 : 0 < k * M + l := Nat.pos_of_ne_zero ht
              clear ht
              obtain ⟨U, hU⟩ : ∃ x : Int, ((LR op (kn al ah) (kn bl bh) M (k * M + l)).v : Int) = x := ⟨_, rfl⟩
              obtain ⟨V, hV⟩ : ∃ x : Int, ((LR op (kn al ah) (kn bl bh) M (k * M + l)).m : Int) = x := ⟨_, rfl⟩
              obtain ⟨U', V', j1, j2, j3, j4, j5⟩ := H8.out ht2 U V hU hV
              have J1 := Lib.hid j1
              have J2 := Lib.hid j2
              have J3 := Lib.hid j3
              have J4 := Lib.hid j4
              have J5 := Lib.hid j5
              rw [hU, hV] at RL
              clear j1 j2 j3 j4 j5 hU hV ht2
              have zl := RL.out.lt
              have yc := RL.out.c0
              have yd := RL.out.c1
              go_wp2_with fail
              have NB := one_newk r3 z 0
              unfold kO at NB
              replace Ra := Lib.hid (KB.below Ra.out NB.out.2)
              replace Rb := Lib.hid (KB.below Rb.out NB.out.2)
              replace Rs := Lib.hid (KB.below Rs.out NB.out.2)
              replace RL := Lib.hid (KB.below RL.out NB.out.2)
              replace RD := Lib.hid (Below.tr RD.out NB.out.2)
              have RZ := Lib.hid NB.out.1
              clear NB
              obtain ⟨gz, hgz⟩ : ∃ q, r3.heap.size = q := ⟨_, rfl⟩
              rw [hgz] at RZ ⊢
              have qa : v1.heap.size ≠ gz := by have hh : v1.heap.size < r3.heap.size := World.block_lt_of_cell? r3 _ y0a; omega
              have qb : v1.heap.size + 1 ≠ gz := by have hh : v1.heap.size + 1 < r3.heap.size := World.block_lt_of_cell? r3 _ y0b; omega
              have qs : v2.heap.size ≠ gz := by have hh : v2.heap.size < r3.heap.size := World.block_lt_of_cell? r3 _ y0s; omega
              have qgl : gl ≠ gz := by omega
              have qgw : w.heap.size ≤ gz := by omega
              clear hgz
              generalize (r3.alloc (.cells #[.int .i64 z, .int .i64 0] 24)) = r4 at Ra Rb Rs RL RD RZ ⊢
              refine (joinI_any _ _ _ _ _).mono ?_
              rw [J3.out, J4.out, J5.out]
              rintro e r5 ⟨rfl, hb⟩
              replace Ra := Lib.hid (KB.below Ra.out hb)
              replace Rb := Lib.hid (KB.below Rb.out hb)
              replace Rs := Lib.hid (KB.below Rs.out hb)
              replace RL := Lib.hid (KB.below RL.out hb)
              replace RZ := Lib.hid (KB.below RZ.out hb)
              replace RD := Lib.hid (Below.tr RD.out hb)
              clear hb y0a y1a y0b y1b y0s y1s yc yd zl
              have kL0 := RL.out.c0
              have kL1 := RL.out.c1
              have kLf := RL.out.f 0
              have kLg := RL.out.f 1
              have kLl := RL.out.lt
              have kZ0 := RZ.out.c0
              have kZ1 := RZ.out.c1
              have kZf := RZ.out.f 0
              have kZg := RZ.out.f 1
              have kZl := RZ.out.lt
              go_wp2
              go_roundw
              case rel => exact ⟨l + 1, false, by omega, by go_num, rfl, by simp, (KB.far2 (KB.far2 Ra.out qa) ya).below (below1 _ _), (KB.far2 (KB.far2 Rb.out qb) yb).below (below1 _ _), (KB.far2 (KB.far2 Rs.out qs) ys).below (below1 _ _), by rw [← Nat.add_assoc, J1.out, J2.out]; exact (KB.set2 (KB.far2 RL.out qgl)).below (below1 _ _), Below.tr (belowK2 (belowK2 RD.out qgw) ygl) (below1 _ _)⟩
              case measure => simp [intOf]; omega
          · obtain rfl : l = M := by omega
            have HC : Hid (k * l + l = (k + 1) * l) := Lib.hid (by rw [Nat.add_mul, Nat.one_mul])
            have hpos : Hid (decide (k * l + l = 0) = decide ((k + 1) * l = 0)) := Lib.hid (by rw [HC.out])
            by_cases hm64 : MI ≤ 64
            · have e1 : decide ((l : Int) < MI) = false := decide_eq_false (by have := HM1.out.2.2.2.1 hm64; omega)
              clear hm64
              go_wp2
              go_roundw
              case rel => exact ⟨k + 1, fbi, by omega, by go_num, rfl, by rw [HFI.out, hpos.out], Ra.out, Rb.out, Rs.out, by rw [← HC.out]; exact RL.out, RD.out⟩
              case measure => simp [intOf]; omega
            · have e1 : decide ((l : Int) < MI) = true := decide_eq_true (by have := HM1.out.2.2.2.2 (by omega); omega)
              have e2 : decide ((l : Int) < 64) = false := decide_eq_false (by have := HM1.out.2.2.2.2 (by omega); omega)
              have e2' : ¬ (l < 64) := by have := HM1.out.2.2.2.2 (by omega); omega
              clear hm64
              go_wp2
              go_roundw
              case rel => exact ⟨k + 1, fbi, by omega, by go_num, rfl, by rw [HFI.out, hpos.out], Ra.out, Rb.out, Rs.out, by rw [← HC.out]; exact RL.out, RD.out⟩
              case measure => simp [intOf]; omega
      · obtain rfl : k = N := by omega
        have zl := RL.out.c0
        have zm := RL.out.c1
        have zs := Rs.out.c0
        have zt := Rs.out.c1
        by_cases hall : PN ≤ 1024 ∧ NI ≤ 64 ∧ MI ≤ 64 ∧ op ≤ 2
        · obtain ⟨w1, w2, w3, w4⟩ := hall
          have hqa2 : qa = true := by rw [← hqa]; exact decide_eq_true w1
          subst hqa2
          have hk := HN1.out.2.2.2.1 w2
          have hM := HM1.out.2.2.2.1 w3
          have e := LR_all (op := op) (a := kn al ah) (b := kn bl bh) (by omega) GG1.out GG2.out
          have hk2 : k = waysN (kn al ah) := by rw [NN.out]; have := HNI.out; omega
          have hM2 : M = waysN (kn bl bh) := by rw [MM.out]; have := HMI.out; omega
          rw [← hk2, ← hM2] at e
          rw [e, HS1.out] at zl
          rw [e, HS2.out] at zm
          have d0 : decide ((k : Int) < NI) = false := decide_eq_false (by omega)
          clear e hk2 hM2 hk hM
          go_wp2_with fail
          refine (drawNumK_any a1 len1 cap1 _ (Lib.hid (h1.out.below RD.out))).mono ?_
          rintro e t1 ⟨cl, ch, nn, rfl, hb⟩
          have E := Lib.hid (Below.tr RD.out hb)
          clear hb
          obtain ⟨⟨x, rx⟩, hq⟩ : ∃ q, numA cl ch nn = q := ⟨_, rfl⟩
          have Qn := Lib.hid hq
          clear hq
          go_wp2_with fail
          have NB := one_newk t1 cl ch
          unfold kO at NB
          have Fc := Lib.hid NB.out.1
          have E := Lib.hid (Below.tr E.out NB.out.2)
          clear NB
          generalize (t1.alloc (.cells #[.int .i64 cl, .int .i64 ch] 24)) = t2 at Fc E ⊢
          refine (numI_any _ _ _ _ (Lib.hid (HN.out.bel E.out))).mono ?_
          rw [Qn.out]
          rintro e t3 ⟨rfl, hb⟩
          have Fc := Lib.hid (KB.below Fc.out hb)
          have cc := Fc.out.c0
          have dc := Fc.out.c1
          have E := Lib.hid (Below.tr E.out hb)
          clear hb
          go_wp2_with fail
          refine (numM_any _ _ _ _).mono ?_
          rw [Qn.out]
          rintro e t4 ⟨rfl, hb⟩
          have Fc := Lib.hid (KB.below Fc.out hb)
          have cc := Fc.out.c0
          have dc := Fc.out.c1
          have E := Lib.hid (Below.tr E.out hb)
          clear hb
          go_wp2_with fail
          refine (drawMayK_any a1 len1 cap1 _ (Lib.hid (h1.out.below E.out))).mono ?_
          rintro e t5 ⟨dl, dh, zz, rfl, hb⟩
          have E := Lib.hid (Below.tr E.out hb)
          clear hb
          obtain ⟨⟨y, ry⟩, hq⟩ : ∃ q, mayA dl dh zz = q := ⟨_, rfl⟩
          have Qm := Lib.hid hq
          clear hq
          obtain ⟨⟨z, rz⟩, hq⟩ : ∃ q, waysA dl dh = q := ⟨_, rfl⟩
          have Qw := Lib.hid hq
          clear hq
          go_wp2_with fail
          have NB := one_newk t5 dl dh
          unfold kO at NB
          have Fd := Lib.hid NB.out.1
          have E := Lib.hid (Below.tr E.out NB.out.2)
          clear NB
          generalize (t5.alloc (.cells #[.int .i64 dl, .int .i64 dh] 24)) = t6 at Fd E ⊢
          refine (mayI_any _ _ _ _).mono ?_
          rw [Qm.out]
          rintro e t7 ⟨rfl, hb⟩
          have Fd := Lib.hid (KB.below Fd.out hb)
          have cd := Fd.out.c0
          have dd := Fd.out.c1
          have E := Lib.hid (Below.tr E.out hb)
          clear hb
          go_wp2_with fail
          refine (mayM_any _ _ _ _).mono ?_
          rw [Qm.out]
          rintro e t8 ⟨rfl, hb⟩
          have Fd := Lib.hid (KB.below Fd.out hb)
          have cd := Fd.out.c0
          have dd := Fd.out.c1
          have E := Lib.hid (Below.tr E.out hb)
          clear hb
          go_wp2_with fail
          refine (waysI_any _ _ _ (Lib.hid (HN.out.bel E.out))).mono ?_
          rw [Qw.out]
          rintro e t9 ⟨rfl, hb⟩
          have Fd := Lib.hid (KB.below Fd.out hb)
          have cd := Fd.out.c0
          have dd := Fd.out.c1
          have E := Lib.hid (Below.tr E.out hb)
          clear hb
          go_wp2_with fail
          refine (waysM_any _ _ _).mono ?_
          rw [Qw.out]
          rintro e t10 ⟨rfl, hb⟩
          have Fd := Lib.hid (KB.below Fd.out hb)
          have cd := Fd.out.c0
          have dd := Fd.out.c1
          have E := Lib.hid (Below.tr E.out hb)
          clear hb
          have ex1 : (x == x) = true := by simp
          have erx1 : (rx == rx) = true := by simp
          have ey1 : (y == y) = true := by simp
          have ery1 : (ry == ry) = true := by simp
          have ez1 : (z == z) = true := by simp
          have erz1 : (rz == rz) = true := by simp
          go_wp2
          go_ret
          exact ⟨rfl, E.out⟩
        · skip
          have qx := neq_kn ((LR op (kn al ah) (kn bl bh) M (k * M)).v : Int) ((LR op (kn al ah) (kn bl bh) M (k * M)).m : Int) sl sh
          have hcase : (64 < NI) ∨ (NI ≤ 64 ∧ qa = false) ∨ (NI ≤ 64 ∧ qa = true ∧ 64 < MI) ∨ (NI ≤ 64 ∧ qa = true ∧ MI ≤ 64 ∧ 2 < op) := by
            by_cases x1 : NI ≤ 64
            · by_cases x2 : PN ≤ 1024
              · by_cases x3 : MI ≤ 64
                · exact .inr (.inr (.inr ⟨x1, by rw [← hqa]; exact decide_eq_true x2, x3, by omega⟩))
                · exact .inr (.inr (.inl ⟨x1, by rw [← hqa]; exact decide_eq_true x2, by omega⟩))
              · exact .inr (.inl ⟨x1, by rw [← hqa]; exact decide_eq_false x2⟩)
            · exact .inl (by omega)
          clear hall
          rcases hcase with x1 | ⟨x1, rfl⟩ | ⟨x1, rfl, x3⟩ | ⟨x1, rfl, x3, x4⟩
          · have hk := HN1.out.2.2.2.2 x1
            have d0 : decide ((k : Int) < NI) = true := decide_eq_true (by omega)
            have d2 : decide ((k : Int) < 64) = false := decide_eq_false (by omega)
            have d2' : ¬ (k < 64) := by omega
            have d3 : decide (NI ≤ 64) = false := decide_eq_false (by omega)
            cases qa
            · go_wp2_with fail
              refine (drawNumK_any a1 len1 cap1 _ (Lib.hid (h1.out.below RD.out))).mono ?_
              rintro e t1 ⟨cl, ch, nn, rfl, hb⟩
              have E := Lib.hid (Below.tr RD.out hb)
              clear hb
              obtain ⟨⟨x, rx⟩, hq⟩ : ∃ q, numA cl ch nn = q := ⟨_, rfl⟩
              have Qn := Lib.hid hq
              clear hq
              go_wp2_with fail
              have NB := one_newk t1 cl ch
              unfold kO at NB
              have Fc := Lib.hid NB.out.1
              have E := Lib.hid (Below.tr E.out NB.out.2)
              clear NB
              generalize (t1.alloc (.cells #[.int .i64 cl, .int .i64 ch] 24)) = t2 at Fc E ⊢
              refine (numI_any _ _ _ _ (Lib.hid (HN.out.bel E.out))).mono ?_
              rw [Qn.out]
              rintro e t3 ⟨rfl, hb⟩
              have Fc := Lib.hid (KB.below Fc.out hb)
              have cc := Fc.out.c0
              have dc := Fc.out.c1
              have E := Lib.hid (Below.tr E.out hb)
              clear hb
              go_wp2_with fail
              refine (numM_any _ _ _ _).mono ?_
              rw [Qn.out]
              rintro e t4 ⟨rfl, hb⟩
              have Fc := Lib.hid (KB.below Fc.out hb)
              have cc := Fc.out.c0
              have dc := Fc.out.c1
              have E := Lib.hid (Below.tr E.out hb)
              clear hb
              go_wp2_with fail
              refine (drawMayK_any a1 len1 cap1 _ (Lib.hid (h1.out.below E.out))).mono ?_
              rintro e t5 ⟨dl, dh, zz, rfl, hb⟩
              have E := Lib.hid (Below.tr E.out hb)
              clear hb
              obtain ⟨⟨y, ry⟩, hq⟩ : ∃ q, mayA dl dh zz = q := ⟨_, rfl⟩
              have Qm := Lib.hid hq
              clear hq
              obtain ⟨⟨z, rz⟩, hq⟩ : ∃ q, waysA dl dh = q := ⟨_, rfl⟩
              have Qw := Lib.hid hq
              clear hq
              go_wp2_with fail
              have NB := one_newk t5 dl dh
              unfold kO at NB
              have Fd := Lib.hid NB.out.1
              have E := Lib.hid (Below.tr E.out NB.out.2)
              clear NB
              generalize (t5.alloc (.cells #[.int .i64 dl, .int .i64 dh] 24)) = t6 at Fd E ⊢
              refine (mayI_any _ _ _ _).mono ?_
              rw [Qm.out]
              rintro e t7 ⟨rfl, hb⟩
              have Fd := Lib.hid (KB.below Fd.out hb)
              have cd := Fd.out.c0
              have dd := Fd.out.c1
              have E := Lib.hid (Below.tr E.out hb)
              clear hb
              go_wp2_with fail
              refine (mayM_any _ _ _ _).mono ?_
              rw [Qm.out]
              rintro e t8 ⟨rfl, hb⟩
              have Fd := Lib.hid (KB.below Fd.out hb)
              have cd := Fd.out.c0
              have dd := Fd.out.c1
              have E := Lib.hid (Below.tr E.out hb)
              clear hb
              go_wp2_with fail
              refine (waysI_any _ _ _ (Lib.hid (HN.out.bel E.out))).mono ?_
              rw [Qw.out]
              rintro e t9 ⟨rfl, hb⟩
              have Fd := Lib.hid (KB.below Fd.out hb)
              have cd := Fd.out.c0
              have dd := Fd.out.c1
              have E := Lib.hid (Below.tr E.out hb)
              clear hb
              go_wp2_with fail
              refine (waysM_any _ _ _).mono ?_
              rw [Qw.out]
              rintro e t10 ⟨rfl, hb⟩
              have Fd := Lib.hid (KB.below Fd.out hb)
              have cd := Fd.out.c0
              have dd := Fd.out.c1
              have E := Lib.hid (Below.tr E.out hb)
              clear hb
              have ex1 : (x == x) = true := by simp
              have erx1 : (rx == rx) = true := by simp
              have ey1 : (y == y) = true := by simp
              have ery1 : (ry == ry) = true := by simp
              have ez1 : (z == z) = true := by simp
              have erz1 : (rz == rz) = true := by simp
              go_wp2
              go_ret
              exact ⟨rfl, E.out⟩
            · go_wp2_with fail
              refine (drawNumK_any a1 len1 cap1 _ (Lib.hid (h1.out.below RD.out))).mono ?_
              rintro e t1 ⟨cl, ch, nn, rfl, hb⟩
              have E := Lib.hid (Below.tr RD.out hb)
              clear hb
              obtain ⟨⟨x, rx⟩, hq⟩ : ∃ q, numA cl ch nn = q := ⟨_, rfl⟩
              have Qn := Lib.hid hq
              clear hq
              go_wp2_with fail
              have NB := one_newk t1 cl ch
              unfold kO at NB
              have Fc := Lib.hid NB.out.1
              have E := Lib.hid (Below.tr E.out NB.out.2)
              clear NB
              generalize (t1.alloc (.cells #[.int .i64 cl, .int .i64 ch] 24)) = t2 at Fc E ⊢
              refine (numI_any _ _ _ _ (Lib.hid (HN.out.bel E.out))).mono ?_
              rw [Qn.out]
              rintro e t3 ⟨rfl, hb⟩
              have Fc := Lib.hid (KB.below Fc.out hb)
              have cc := Fc.out.c0
              have dc := Fc.out.c1
              have E := Lib.hid (Below.tr E.out hb)
              clear hb
              go_wp2_with fail
              refine (numM_any _ _ _ _).mono ?_
              rw [Qn.out]
              rintro e t4 ⟨rfl, hb⟩
              have Fc := Lib.hid (KB.below Fc.out hb)
              have cc := Fc.out.c0
              have dc := Fc.out.c1
              have E := Lib.hid (Below.tr E.out hb)
              clear hb
              go_wp2_with fail
              refine (drawMayK_any a1 len1 cap1 _ (Lib.hid (h1.out.below E.out))).mono ?_
              rintro e t5 ⟨dl, dh, zz, rfl, hb⟩
              have E := Lib.hid (Below.tr E.out hb)
              clear hb
              obtain ⟨⟨y, ry⟩, hq⟩ : ∃ q, mayA dl dh zz = q := ⟨_, rfl⟩
              have Qm := Lib.hid hq
              clear hq
              obtain ⟨⟨z, rz⟩, hq⟩ : ∃ q, waysA dl dh = q := ⟨_, rfl⟩
              have Qw := Lib.hid hq
              clear hq
              go_wp2_with fail
              have NB := one_newk t5 dl dh
              unfold kO at NB
              have Fd := Lib.hid NB.out.1
              have E := Lib.hid (Below.tr E.out NB.out.2)
              clear NB
              generalize (t5.alloc (.cells #[.int .i64 dl, .int .i64 dh] 24)) = t6 at Fd E ⊢
              refine (mayI_any _ _ _ _).mono ?_
              rw [Qm.out]
              rintro e t7 ⟨rfl, hb⟩
              have Fd := Lib.hid (KB.below Fd.out hb)
              have cd := Fd.out.c0
              have dd := Fd.out.c1
              have E := Lib.hid (Below.tr E.out hb)
              clear hb
              go_wp2_with fail
              refine (mayM_any _ _ _ _).mono ?_
              rw [Qm.out]
              rintro e t8 ⟨rfl, hb⟩
              have Fd := Lib.hid (KB.below Fd.out hb)
              have cd := Fd.out.c0
              have dd := Fd.out.c1
              have E := Lib.hid (Below.tr E.out hb)
              clear hb
              go_wp2_with fail
              refine (waysI_any _ _ _ (Lib.hid (HN.out.bel E.out))).mono ?_
              rw [Qw.out]
              rintro e t9 ⟨rfl, hb⟩
              have Fd := Lib.hid (KB.below Fd.out hb)
              have cd := Fd.out.c0
              have dd := Fd.out.c1
              have E := Lib.hid (Below.tr E.out hb)
              clear hb
              go_wp2_with fail
              refine (waysM_any _ _ _).mono ?_
              rw [Qw.out]
              rintro e t10 ⟨rfl, hb⟩
              have Fd := Lib.hid (KB.below Fd.out hb)
              have cd := Fd.out.c0
              have dd := Fd.out.c1
              have E := Lib.hid (Below.tr E.out hb)
              clear hb
              have ex1 : (x == x) = true := by simp
              have erx1 : (rx == rx) = true := by simp
              have ey1 : (y == y) = true := by simp
              have ery1 : (ry == ry) = true := by simp
              have ez1 : (z == z) = true := by simp
              have erz1 : (rz == rz) = true := by simp
              go_wp2
              go_ret
              exact ⟨rfl, E.out⟩
          · have hk := HN1.out.2.2.2.1 x1
            have d0 : decide ((k : Int) < NI) = false := decide_eq_false (by omega)
            go_wp2_with fail
            refine (drawNumK_any a1 len1 cap1 _ (Lib.hid (h1.out.below RD.out))).mono ?_
            rintro e t1 ⟨cl, ch, nn, rfl, hb⟩
            have E := Lib.hid (Below.tr RD.out hb)
            clear hb
            obtain ⟨⟨x, rx⟩, hq⟩ : ∃ q, numA cl ch nn = q := ⟨_, rfl⟩
            have Qn := Lib.hid hq
            clear hq
            go_wp2_with fail
            have NB := one_newk t1 cl ch
            unfold kO at NB
            have Fc := Lib.hid NB.out.1
            have E := Lib.hid (Below.tr E.out NB.out.2)
            clear NB
            generalize (t1.alloc (.cells #[.int .i64 cl, .int .i64 ch] 24)) = t2 at Fc E ⊢
            refine (numI_any _ _ _ _ (Lib.hid (HN.out.bel E.out))).mono ?_
            rw [Qn.out]
            rintro e t3 ⟨rfl, hb⟩
            have Fc := Lib.hid (KB.below Fc.out hb)
            have cc := Fc.out.c0
            have dc := Fc.out.c1
            have E := Lib.hid (Below.tr E.out hb)
            clear hb
            go_wp2_with fail
            refine (numM_any _ _ _ _).mono ?_
            rw [Qn.out]
            rintro e t4 ⟨rfl, hb⟩
            have Fc := Lib.hid (KB.below Fc.out hb)
            have cc := Fc.out.c0
            have dc := Fc.out.c1
            have E := Lib.hid (Below.tr E.out hb)
            clear hb
            go_wp2_with fail
            refine (drawMayK_any a1 len1 cap1 _ (Lib.hid (h1.out.below E.out))).mono ?_
            rintro e t5 ⟨dl, dh, zz, rfl, hb⟩
            have E := Lib.hid (Below.tr E.out hb)
            clear hb
            obtain ⟨⟨y, ry⟩, hq⟩ : ∃ q, mayA dl dh zz = q := ⟨_, rfl⟩
            have Qm := Lib.hid hq
            clear hq
            obtain ⟨⟨z, rz⟩, hq⟩ : ∃ q, waysA dl dh = q := ⟨_, rfl⟩
            have Qw := Lib.hid hq
            clear hq
            go_wp2_with fail
            have NB := one_newk t5 dl dh
            unfold kO at NB
            have Fd := Lib.hid NB.out.1
            have E := Lib.hid (Below.tr E.out NB.out.2)
            clear NB
            generalize (t5.alloc (.cells #[.int .i64 dl, .int .i64 dh] 24)) = t6 at Fd E ⊢
            refine (mayI_any _ _ _ _).mono ?_
            rw [Qm.out]
            rintro e t7 ⟨rfl, hb⟩
            have Fd := Lib.hid (KB.below Fd.out hb)
            have cd := Fd.out.c0
            have dd := Fd.out.c1
            have E := Lib.hid (Below.tr E.out hb)
            clear hb
            go_wp2_with fail
            refine (mayM_any _ _ _ _).mono ?_
            rw [Qm.out]
            rintro e t8 ⟨rfl, hb⟩
            have Fd := Lib.hid (KB.below Fd.out hb)
            have cd := Fd.out.c0
            have dd := Fd.out.c1
            have E := Lib.hid (Below.tr E.out hb)
            clear hb
            go_wp2_with fail
            refine (waysI_any _ _ _ (Lib.hid (HN.out.bel E.out))).mono ?_
            rw [Qw.out]
            rintro e t9 ⟨rfl, hb⟩
            have Fd := Lib.hid (KB.below Fd.out hb)
            have cd := Fd.out.c0
            have dd := Fd.out.c1
            have E := Lib.hid (Below.tr E.out hb)
            clear hb
            go_wp2_with fail
            refine (waysM_any _ _ _).mono ?_
            rw [Qw.out]
            rintro e t10 ⟨rfl, hb⟩
            have Fd := Lib.hid (KB.below Fd.out hb)
            have cd := Fd.out.c0
            have dd := Fd.out.c1
            have E := Lib.hid (Below.tr E.out hb)
            clear hb
            have ex1 : (x == x) = true := by simp
            have erx1 : (rx == rx) = true := by simp
            have ey1 : (y == y) = true := by simp
            have ery1 : (ry == ry) = true := by simp
            have ez1 : (z == z) = true := by simp
            have erz1 : (rz == rz) = true := by simp
            go_wp2
            go_ret
            exact ⟨rfl, E.out⟩
          · have hk := HN1.out.2.2.2.1 x1
            have d0 : decide ((k : Int) < NI) = false := decide_eq_false (by omega)
            have d3 : decide (NI ≤ 64) = true := decide_eq_true (by omega)
            have d4 : decide (MI ≤ 64) = false := decide_eq_false (by omega)
            go_wp2_with fail
            refine (drawNumK_any a1 len1 cap1 _ (Lib.hid (h1.out.below RD.out))).mono ?_
            rintro e t1 ⟨cl, ch, nn, rfl, hb⟩
            have E := Lib.hid (Below.tr RD.out hb)
            clear hb
            obtain ⟨⟨x, rx⟩, hq⟩ : ∃ q, numA cl ch nn = q := ⟨_, rfl⟩
            have Qn := Lib.hid hq
            clear hq
            go_wp2_with fail
            have NB := one_newk t1 cl ch
            unfold kO at NB
            have Fc := Lib.hid NB.out.1
            have E := Lib.hid (Below.tr E.out NB.out.2)
            clear NB
            generalize (t1.alloc (.cells #[.int .i64 cl, .int .i64 ch] 24)) = t2 at Fc E ⊢
            refine (numI_any _ _ _ _ (Lib.hid (HN.out.bel E.out))).mono ?_
            rw [Qn.out]
            rintro e t3 ⟨rfl, hb⟩
            have Fc := Lib.hid (KB.below Fc.out hb)
            have cc := Fc.out.c0
            have dc := Fc.out.c1
            have E := Lib.hid (Below.tr E.out hb)
            clear hb
            go_wp2_with fail
            refine (numM_any _ _ _ _).mono ?_
            rw [Qn.out]
            rintro e t4 ⟨rfl, hb⟩
            have Fc := Lib.hid (KB.below Fc.out hb)
            have cc := Fc.out.c0
            have dc := Fc.out.c1
            have E := Lib.hid (Below.tr E.out hb)
            clear hb
            go_wp2_with fail
            refine (drawMayK_any a1 len1 cap1 _ (Lib.hid (h1.out.below E.out))).mono ?_
            rintro e t5 ⟨dl, dh, zz, rfl, hb⟩
            have E := Lib.hid (Below.tr E.out hb)
            clear hb
            obtain ⟨⟨y, ry⟩, hq⟩ : ∃ q, mayA dl dh zz = q := ⟨_, rfl⟩
            have Qm := Lib.hid hq
            clear hq
            obtain ⟨⟨z, rz⟩, hq⟩ : ∃ q, waysA dl dh = q := ⟨_, rfl⟩
            have Qw := Lib.hid hq
            clear hq
            go_wp2_with fail
            have NB := one_newk t5 dl dh
            unfold kO at NB
            have Fd := Lib.hid NB.out.1
            have E := Lib.hid (Below.tr E.out NB.out.2)
            clear NB
            generalize (t5.alloc (.cells #[.int .i64 dl, .int .i64 dh] 24)) = t6 at Fd E ⊢
            refine (mayI_any _ _ _ _).mono ?_
            rw [Qm.out]
            rintro e t7 ⟨rfl, hb⟩
            have Fd := Lib.hid (KB.below Fd.out hb)
            have cd := Fd.out.c0
            have dd := Fd.out.c1
            have E := Lib.hid (Below.tr E.out hb)
            clear hb
            go_wp2_with fail
            refine (mayM_any _ _ _ _).mono ?_
            rw [Qm.out]
            rintro e t8 ⟨rfl, hb⟩
            have Fd := Lib.hid (KB.below Fd.out hb)
            have cd := Fd.out.c0
            have dd := Fd.out.c1
            have E := Lib.hid (Below.tr E.out hb)
            clear hb
            go_wp2_with fail
            refine (waysI_any _ _ _ (Lib.hid (HN.out.bel E.out))).mono ?_
            rw [Qw.out]
            rintro e t9 ⟨rfl, hb⟩
            have Fd := Lib.hid (KB.below Fd.out hb)
            have cd := Fd.out.c0
            have dd := Fd.out.c1
            have E := Lib.hid (Below.tr E.out hb)
            clear hb
            go_wp2_with fail
            refine (waysM_any _ _ _).mono ?_
            rw [Qw.out]
            rintro e t10 ⟨rfl, hb⟩
            have Fd := Lib.hid (KB.below Fd.out hb)
            have cd := Fd.out.c0
            have dd := Fd.out.c1
            have E := Lib.hid (Below.tr E.out hb)
            clear hb
            have ex1 : (x == x) = true := by simp
            have erx1 : (rx == rx) = true := by simp
            have ey1 : (y == y) = true := by simp
            have ery1 : (ry == ry) = true := by simp
            have ez1 : (z == z) = true := by simp
            have erz1 : (rz == rz) = true := by simp
            go_wp2
            go_ret
            exact ⟨rfl, E.out⟩
          · have hk := HN1.out.2.2.2.1 x1
            have d0 : decide ((k : Int) < NI) = false := decide_eq_false (by omega)
            have d3 : decide (NI ≤ 64) = true := decide_eq_true (by omega)
            have d4 : decide (MI ≤ 64) = true := decide_eq_true (by omega)
            go_wp2_with fail
            refine (drawNumK_any a1 len1 cap1 _ (Lib.hid (h1.out.below RD.out))).mono ?_
            rintro e t1 ⟨cl, ch, nn, rfl, hb⟩
            have E := Lib.hid (Below.tr RD.out hb)
            clear hb
            obtain ⟨⟨x, rx⟩, hq⟩ : ∃ q, numA cl ch nn = q := ⟨_, rfl⟩
            have Qn := Lib.hid hq
            clear hq
            go_wp2_with fail
            have NB := one_newk t1 cl ch
            unfold kO at NB
            have Fc := Lib.hid NB.out.1
            have E := Lib.hid (Below.tr E.out NB.out.2)
            clear NB
            generalize (t1.alloc (.cells #[.int .i64 cl, .int .i64 ch] 24)) = t2 at Fc E ⊢
            refine (numI_any _ _ _ _ (Lib.hid (HN.out.bel E.out))).mono ?_
            rw [Qn.out]
            rintro e t3 ⟨rfl, hb⟩
            have Fc := Lib.hid (KB.below Fc.out hb)
            have cc := Fc.out.c0
            have dc := Fc.out.c1
            have E := Lib.hid (Below.tr E.out hb)
            clear hb
            go_wp2_with fail
            refine (numM_any _ _ _ _).mono ?_
            rw [Qn.out]
            rintro e t4 ⟨rfl, hb⟩
            have Fc := Lib.hid (KB.below Fc.out hb)
            have cc := Fc.out.c0
            have dc := Fc.out.c1
            have E := Lib.hid (Below.tr E.out hb)
            clear hb
            go_wp2_with fail
            refine (drawMayK_any a1 len1 cap1 _ (Lib.hid (h1.out.below E.out))).mono ?_
            rintro e t5 ⟨dl, dh, zz, rfl, hb⟩
            have E := Lib.hid (Below.tr E.out hb)
            clear hb
            obtain ⟨⟨y, ry⟩, hq⟩ : ∃ q, mayA dl dh zz = q := ⟨_, rfl⟩
            have Qm := Lib.hid hq
            clear hq
            obtain ⟨⟨z, rz⟩, hq⟩ : ∃ q, waysA dl dh = q := ⟨_, rfl⟩
            have Qw := Lib.hid hq
            clear hq
            go_wp2_with fail
            have NB := one_newk t5 dl dh
            unfold kO at NB
            have Fd := Lib.hid NB.out.1
            have E := Lib.hid (Below.tr E.out NB.out.2)
            clear NB
            generalize (t5.alloc (.cells #[.int .i64 dl, .int .i64 dh] 24)) = t6 at Fd E ⊢
            refine (mayI_any _ _ _ _).mono ?_
            rw [Qm.out]
            rintro e t7 ⟨rfl, hb⟩
            have Fd := Lib.hid (KB.below Fd.out hb)
            have cd := Fd.out.c0
            have dd := Fd.out.c1
            have E := Lib.hid (Below.tr E.out hb)
            clear hb
            go_wp2_with fail
            refine (mayM_any _ _ _ _).mono ?_
            rw [Qm.out]
            rintro e t8 ⟨rfl, hb⟩
            have Fd := Lib.hid (KB.below Fd.out hb)
            have cd := Fd.out.c0
            have dd := Fd.out.c1
            have E := Lib.hid (Below.tr E.out hb)
            clear hb
            go_wp2_with fail
            refine (waysI_any _ _ _ (Lib.hid (HN.out.bel E.out))).mono ?_
            rw [Qw.out]
            rintro e t9 ⟨rfl, hb⟩
            have Fd := Lib.hid (KB.below Fd.out hb)
            have cd := Fd.out.c0
            have dd := Fd.out.c1
            have E := Lib.hid (Below.tr E.out hb)
            clear hb
            go_wp2_with fail
            refine (waysM_any _ _ _).mono ?_
            rw [Qw.out]
            rintro e t10 ⟨rfl, hb⟩
            have Fd := Lib.hid (KB.below Fd.out hb)
            have cd := Fd.out.c0
            have dd := Fd.out.c1
            have E := Lib.hid (Below.tr E.out hb)
            clear hb
            have ex1 : (x == x) = true := by simp
            have erx1 : (rx == rx) = true := by simp
            have ey1 : (y == y) = true := by simp
            have ery1 : (ry == ry) = true := by simp
            have ez1 : (z == z) = true := by simp
            have erz1 : (rz == rz) = true := by simp
            go_wp2
            go_ret
            exact ⟨rfl, E.out⟩
end Go.Proofs.YtmfganodnlnjcaaDoor.Op
