/-
  The values of gates: the model's.
-/
import Derived.Test.YtklcfbjaodildaaGi2
namespace Go.Proofs.Ytklcfbjaodildaa
open Go.ChangeShapes Go.WideShapes Go.ChangeAt Go.RowKit

set_option maxRecDepth 100000 in
set_option maxHeartbeats 8000000 in
theorem evalS_any (A B : Option Addr) (n m cap c2 : Nat) (xs : List Gt) (ins : List Bool) (w : World) (hl : Hid (GLies w A xs)) (HX : Hid (xs.length = n)) (hn : n ≤ 12) (HG : Hid (goodGB xs = true)) (hl2 : Hid (BLies w B ins)) (HY : Hid (ins.length = m)) (HM : Hid (m = (inpN xs n).length)) :
    Calls Try.prog 102 #[.slice A n cap, .slice B m c2] w (GaveBL w (evK xs ins n)) := by
  obtain ⟨i0, hi0, hz0, hz1, hz2⟩ := info_parts info_bool
  go_enter Try.func102, Try.ntmps102
  go_wp2_with fail
  go_loopw [5, 6, 11] (fun v c i wr => ∃ k : Nat, k ≤ n ∧ i = .int .i64 k ∧ c = .int .i64 ((inpN xs k).length : Nat) ∧ (∃ A2 cp, v = .slice A2 k cp ∧ wr.ownsRow w.heap.size 4 1 (.slice A2 k cp) k ((evK xs ins k).map Value.bool)) ∧ Below w.heap.size w wr) (fun _ _ i _ => n - (intOf i).toNat)
  case atStart => exact ⟨0, Nat.zero_le _, rfl, rfl, ⟨none, 0, rfl, World.ownsRow_nil _ _ _ _⟩, Below.refl _ _⟩
  case round =>
    obtain ⟨k, hk, rfl, rfl, ⟨A2, cp, rfl, hown⟩, hbw⟩ := hrel
    have O2 := Lib.hid hown
    have B2 := Lib.hid hbw
    have KL := Lib.hid (evK_len xs ins k)
    have AL := Lib.hid (own_blies (by have h := hown; rw [← KL.out] at h; rw [KL.out] at h; exact h : wr.ownsRow w.heap.size 4 1 (.slice A2 k cp) k ((evK xs ins k).map Value.bool)))
    clear hown hbw
    by_cases hlt : k < n
    · obtain ⟨x, hx⟩ : ∃ x, xs[k]? = some x := ⟨_, List.getElem?_eq_getElem (by have := HX.out; omega)⟩
      obtain ⟨b, off, rfl, hbl, ha⟩ := (hl.out.below B2.out) k x hx
      have I2 := Lib.hid (hl2.out.below B2.out)
      have HXK := Lib.hid hx
      have hgk := gateB_kind (goodG_at HG.out hx)
      clear hx
      obtain ⟨e0, e1, e2⟩ := ha
      have hik := inpN_le xs k
      obtain ⟨q, hq⟩ : ∃ q, (inpN xs k).length = q := ⟨_, rfl⟩
      rw [hq] at hik ⊢
      have HQ := Lib.hid hq
      clear hq
      rcases hgk with ⟨hk1, z1, z2⟩ | ⟨hk1, ha0, ha1, z2⟩ | ⟨hk3, ha0, ha1, hb0, hb1⟩
      · clear z1 z2
        obtain ⟨bb, hbb⟩ := inpN_room (ins := ins) HXK.out hk1 HX.out (HY.out.trans HM.out)
        have E : Hid (evK xs ins (k + 1) = evK xs ins k ++ [bb]) := Lib.hid (evK_some HXK.out (by rw [valG_1 hk1, hbb]; rfl))
        have EN : Hid ((inpN xs (k + 1)).length = q + 1) := Lib.hid (by rw [inpN_yes HXK.out hk1, List.length_append, HQ.out]; rfl)
        rw [HQ.out] at hbb
        have hqm : q < m := by have := (List.getElem?_eq_some_iff.1 hbb).1; have := HY.out; omega
        obtain ⟨b5, off5, rfl, hbl5, c5⟩ := I2.out q _ hbb
        clear hbb
        have q1 : (x.k == 1) = true := by rw [hk1]; rfl
        have q2 : (x.k == 2) = false := by rw [hk1]; rfl
        have q3 : (x.k == 3) = false := by rw [hk1]; rfl
        have q4 : (x.k == 4) = false := by rw [hk1]; rfl
        have B3 := Lib.hid (Below.tr B2.out (below1 wr (.cells #[.int .i64 x.k, .int .i64 x.a, .int .i64 x.b] 120)))
        have O3 := Lib.hid (own_below O2.out (below1 wr (.cells #[.int .i64 x.k, .int .i64 x.a, .int .i64 x.b] 120)))
        clear hk1
        go_wp2_with (at_builtin; (refine wpList_append_lies _ rfl _ _ 49 rfl w.heap.size 4 i0 (.bool false) 1 1 Try.underlying49 hi0 hz0 hz1 hz2 rfl (by omega) _ k _ rfl ((O2.out.alloc _).alloc _) ⟨wr.heap.size + 1, 0, none⟩ 1 1 [.bool bb] rfl rfl (by exact one_newG wr _ _ _) (by intro u hu; rw [List.mem_singleton.1 hu]; rfl) (by omega) (by unfold maxLen; omega) (by omega) (by have := B2.out.size; first | omega | (simp; omega)) (wr.heap.size + 1 + 1) (by first | rfl | simp) ?_; intro g3 cap3 w4 hown3 hg3 hat3 hlt3; have H3 := Lib.hid (appB O3.out hown3 hg3 B3.out (Nat.le_refl _)); clear hown3 hg3 hat3 hlt3))
        go_roundw
        case rel => exact ⟨k + 1, by omega, by go_num, by rw [EN.out]; go_num, ⟨some ⟨g3, 0, none⟩, cap3, rfl, by rw [E.out]; exact H3.out.1⟩, H3.out.2⟩
        case measure => simp [intOf]; omega
      · clear z2
        obtain ⟨ia, hia, hian, hax⟩ := bt_at (l := evK xs ins k) (a := x.a) (n := k) (by omega) (by omega) KL.out
        obtain ⟨b1, off1, hA2, hbl1, c1⟩ := AL.out ia _ hax
        subst hA2
        obtain ⟨va, hva⟩ : ∃ v, bt (evK xs ins k) x.a = v := ⟨_, rfl⟩
        have E : Hid (evK xs ins (k + 1) = evK xs ins k ++ [!va]) := Lib.hid (evK_some HXK.out (by rw [valG_2 hk1, hva]))
        have EN : Hid ((inpN xs (k + 1)).length = q) := Lib.hid (by rw [inpN_no HXK.out (by omega), HQ.out])
        rw [hva] at c1
        rw [hia] at e1
        have q1 : (x.k == 1) = false := by rw [hk1]; rfl
        have q2 : (x.k == 2) = true := by rw [hk1]; rfl
        have q3 : (x.k == 3) = false := by rw [hk1]; rfl
        have q4 : (x.k == 4) = false := by rw [hk1]; rfl
        have B3 := Lib.hid (Below.tr B2.out (below1 wr (.cells #[.int .i64 x.k, .int .i64 ia, .int .i64 x.b] 120)))
        have O3 := Lib.hid (own_below O2.out (below1 wr (.cells #[.int .i64 x.k, .int .i64 ia, .int .i64 x.b] 120)))
        clear hk1
        clear hia hva hax
        go_wp2_with (at_builtin; (refine wpList_append_lies _ rfl _ _ 49 rfl w.heap.size 4 i0 (.bool false) 1 1 Try.underlying49 hi0 hz0 hz1 hz2 rfl (by omega) _ k _ rfl ((O2.out.alloc _).alloc _) ⟨wr.heap.size + 1, 0, none⟩ 1 1 [.bool (!va)] rfl rfl (by exact one_newG wr _ _ _) (by intro u hu; rw [List.mem_singleton.1 hu]; rfl) (by omega) (by unfold maxLen; omega) (by omega) (by have := B2.out.size; first | omega | (simp; omega)) (wr.heap.size + 1 + 1) (by first | rfl | simp) ?_; intro g3 cap3 w4 hown3 hg3 hat3 hlt3; have H3 := Lib.hid (appB O3.out hown3 hg3 B3.out (Nat.le_refl _)); clear hown3 hg3 hat3 hlt3))
        go_roundw
        case rel => exact ⟨k + 1, by omega, by go_num, by rw [EN.out], ⟨some ⟨g3, 0, none⟩, cap3, rfl, by rw [E.out]; exact H3.out.1⟩, H3.out.2⟩
        case measure => simp [intOf]; omega
      rcases hk3 with hk1 | hk1 | hk1
      · obtain ⟨ia, hia, hian, hax⟩ := bt_at (l := evK xs ins k) (a := x.a) (n := k) (by omega) (by omega) KL.out
        obtain ⟨b1, off1, hA2, hbl1, c1⟩ := AL.out ia _ hax
        obtain ⟨ib, hib, hibn, hbx⟩ := bt_at (l := evK xs ins k) (a := x.b) (n := k) (by omega) (by omega) KL.out
        obtain ⟨b2, off2, hB2, _, c2⟩ := AL.out ib _ hbx
        rw [hA2] at hB2
        simp only [Option.some.injEq, Addr.mk.injEq, and_true] at hB2
        obtain ⟨rfl, rfl⟩ := hB2
        subst hA2
        obtain ⟨va, hva⟩ : ∃ v, bt (evK xs ins k) x.a = v := ⟨_, rfl⟩
        obtain ⟨vb, hvb⟩ : ∃ v, bt (evK xs ins k) x.b = v := ⟨_, rfl⟩
        have E : Hid (evK xs ins (k + 1) = evK xs ins k ++ [va && vb]) := Lib.hid (evK_some HXK.out (by rw [valG_3 hk1, hva, hvb]))
        have EN : Hid ((inpN xs (k + 1)).length = q) := Lib.hid (by rw [inpN_no HXK.out (by omega), HQ.out])
        rw [hva] at c1
        rw [hvb] at c2
        rw [hia] at e1
        rw [hib] at e2
        have q1 : (x.k == 1) = false := by rw [hk1]; rfl
        have q2 : (x.k == 2) = false := by rw [hk1]; rfl
        have q3 : (x.k == 3) = true := by rw [hk1]; rfl
        have q4 : (x.k == 4) = false := by rw [hk1]; rfl
        have B3 := Lib.hid (Below.tr B2.out (below1 wr (.cells #[.int .i64 x.k, .int .i64 ia, .int .i64 ib] 120)))
        have O3 := Lib.hid (own_below O2.out (below1 wr (.cells #[.int .i64 x.k, .int .i64 ia, .int .i64 ib] 120)))
        clear hk1
        clear hia hva hax hib hvb hbx
        cases va
        · go_wp2_with (at_builtin; (refine wpList_append_lies _ rfl _ _ 49 rfl w.heap.size 4 i0 (.bool false) 1 1 Try.underlying49 hi0 hz0 hz1 hz2 rfl (by omega) _ k _ rfl ((O2.out.alloc _).alloc _) ⟨wr.heap.size + 1, 0, none⟩ 1 1 [.bool false] rfl rfl (by exact one_newG wr _ _ _) (by intro u hu; rw [List.mem_singleton.1 hu]; rfl) (by omega) (by unfold maxLen; omega) (by omega) (by have := B2.out.size; first | omega | (simp; omega)) (wr.heap.size + 1 + 1) (by first | rfl | simp) ?_; intro g3 cap3 w4 hown3 hg3 hat3 hlt3; have H3 := Lib.hid (appB O3.out hown3 hg3 B3.out (Nat.le_refl _)); clear hown3 hg3 hat3 hlt3))
          go_roundw
          case rel => exact ⟨k + 1, by omega, by go_num, by rw [EN.out], ⟨some ⟨g3, 0, none⟩, cap3, rfl, by rw [E.out]; exact H3.out.1⟩, H3.out.2⟩
          case measure => simp [intOf]; omega
        · go_wp2_with (at_builtin; (refine wpList_append_lies _ rfl _ _ 49 rfl w.heap.size 4 i0 (.bool false) 1 1 Try.underlying49 hi0 hz0 hz1 hz2 rfl (by omega) _ k _ rfl ((O2.out.alloc _).alloc _) ⟨wr.heap.size + 1, 0, none⟩ 1 1 [.bool vb] rfl rfl (by exact one_newG wr _ _ _) (by intro u hu; rw [List.mem_singleton.1 hu]; rfl) (by omega) (by unfold maxLen; omega) (by omega) (by have := B2.out.size; first | omega | (simp; omega)) (wr.heap.size + 1 + 1) (by first | rfl | simp) ?_; intro g3 cap3 w4 hown3 hg3 hat3 hlt3; have H3 := Lib.hid (appB O3.out hown3 hg3 B3.out (Nat.le_refl _)); clear hown3 hg3 hat3 hlt3))
          go_roundw
          case rel => exact ⟨k + 1, by omega, by go_num, by rw [EN.out], ⟨some ⟨g3, 0, none⟩, cap3, rfl, by rw [E.out]; exact H3.out.1⟩, H3.out.2⟩
          case measure => simp [intOf]; omega
      · obtain ⟨ia, hia, hian, hax⟩ := bt_at (l := evK xs ins k) (a := x.a) (n := k) (by omega) (by omega) KL.out
        obtain ⟨b1, off1, hA2, hbl1, c1⟩ := AL.out ia _ hax
        obtain ⟨ib, hib, hibn, hbx⟩ := bt_at (l := evK xs ins k) (a := x.b) (n := k) (by omega) (by omega) KL.out
        obtain ⟨b2, off2, hB2, _, c2⟩ := AL.out ib _ hbx
        rw [hA2] at hB2
        simp only [Option.some.injEq, Addr.mk.injEq, and_true] at hB2
        obtain ⟨rfl, rfl⟩ := hB2
        subst hA2
        obtain ⟨va, hva⟩ : ∃ v, bt (evK xs ins k) x.a = v := ⟨_, rfl⟩
        obtain ⟨vb, hvb⟩ : ∃ v, bt (evK xs ins k) x.b = v := ⟨_, rfl⟩
        have E : Hid (evK xs ins (k + 1) = evK xs ins k ++ [va || vb]) := Lib.hid (evK_some HXK.out (by rw [valG_4 hk1, hva, hvb]))
        have EN : Hid ((inpN xs (k + 1)).length = q) := Lib.hid (by rw [inpN_no HXK.out (by omega), HQ.out])
        rw [hva] at c1
        rw [hvb] at c2
        rw [hia] at e1
        rw [hib] at e2
        have q1 : (x.k == 1) = false := by rw [hk1]; rfl
        have q2 : (x.k == 2) = false := by rw [hk1]; rfl
        have q3 : (x.k == 3) = false := by rw [hk1]; rfl
        have q4 : (x.k == 4) = true := by rw [hk1]; rfl
        have B3 := Lib.hid (Below.tr B2.out (below1 wr (.cells #[.int .i64 x.k, .int .i64 ia, .int .i64 ib] 120)))
        have O3 := Lib.hid (own_below O2.out (below1 wr (.cells #[.int .i64 x.k, .int .i64 ia, .int .i64 ib] 120)))
        clear hk1
        clear hia hva hax hib hvb hbx
        cases va
        · go_wp2_with (at_builtin; (refine wpList_append_lies _ rfl _ _ 49 rfl w.heap.size 4 i0 (.bool false) 1 1 Try.underlying49 hi0 hz0 hz1 hz2 rfl (by omega) _ k _ rfl ((O2.out.alloc _).alloc _) ⟨wr.heap.size + 1, 0, none⟩ 1 1 [.bool vb] rfl rfl (by exact one_newG wr _ _ _) (by intro u hu; rw [List.mem_singleton.1 hu]; rfl) (by omega) (by unfold maxLen; omega) (by omega) (by have := B2.out.size; first | omega | (simp; omega)) (wr.heap.size + 1 + 1) (by first | rfl | simp) ?_; intro g3 cap3 w4 hown3 hg3 hat3 hlt3; have H3 := Lib.hid (appB O3.out hown3 hg3 B3.out (Nat.le_refl _)); clear hown3 hg3 hat3 hlt3))
          go_roundw
          case rel => exact ⟨k + 1, by omega, by go_num, by rw [EN.out], ⟨some ⟨g3, 0, none⟩, cap3, rfl, by rw [E.out]; exact H3.out.1⟩, H3.out.2⟩
          case measure => simp [intOf]; omega
        · go_wp2_with (at_builtin; (refine wpList_append_lies _ rfl _ _ 49 rfl w.heap.size 4 i0 (.bool false) 1 1 Try.underlying49 hi0 hz0 hz1 hz2 rfl (by omega) _ k _ rfl ((O2.out.alloc _).alloc _) ⟨wr.heap.size + 1, 0, none⟩ 1 1 [.bool true] rfl rfl (by exact one_newG wr _ _ _) (by intro u hu; rw [List.mem_singleton.1 hu]; rfl) (by omega) (by unfold maxLen; omega) (by omega) (by have := B2.out.size; first | omega | (simp; omega)) (wr.heap.size + 1 + 1) (by first | rfl | simp) ?_; intro g3 cap3 w4 hown3 hg3 hat3 hlt3; have H3 := Lib.hid (appB O3.out hown3 hg3 B3.out (Nat.le_refl _)); clear hown3 hg3 hat3 hlt3))
          go_roundw
          case rel => exact ⟨k + 1, by omega, by go_num, by rw [EN.out], ⟨some ⟨g3, 0, none⟩, cap3, rfl, by rw [E.out]; exact H3.out.1⟩, H3.out.2⟩
          case measure => simp [intOf]; omega
      · obtain ⟨ia, hia, hian, hax⟩ := bt_at (l := evK xs ins k) (a := x.a) (n := k) (by omega) (by omega) KL.out
        obtain ⟨b1, off1, hA2, hbl1, c1⟩ := AL.out ia _ hax
        obtain ⟨ib, hib, hibn, hbx⟩ := bt_at (l := evK xs ins k) (a := x.b) (n := k) (by omega) (by omega) KL.out
        obtain ⟨b2, off2, hB2, _, c2⟩ := AL.out ib _ hbx
        rw [hA2] at hB2
        simp only [Option.some.injEq, Addr.mk.injEq, and_true] at hB2
        obtain ⟨rfl, rfl⟩ := hB2
        subst hA2
        obtain ⟨va, hva⟩ : ∃ v, bt (evK xs ins k) x.a = v := ⟨_, rfl⟩
        obtain ⟨vb, hvb⟩ : ∃ v, bt (evK xs ins k) x.b = v := ⟨_, rfl⟩
        have E : Hid (evK xs ins (k + 1) = evK xs ins k ++ [va != vb]) := Lib.hid (evK_some HXK.out (by rw [valG_5 hk1, hva, hvb]))
        have EN : Hid ((inpN xs (k + 1)).length = q) := Lib.hid (by rw [inpN_no HXK.out (by omega), HQ.out])
        rw [hva] at c1
        rw [hvb] at c2
        rw [hia] at e1
        rw [hib] at e2
        have q1 : (x.k == 1) = false := by rw [hk1]; rfl
        have q2 : (x.k == 2) = false := by rw [hk1]; rfl
        have q3 : (x.k == 3) = false := by rw [hk1]; rfl
        have q4 : (x.k == 4) = false := by rw [hk1]; rfl
        have B3 := Lib.hid (Below.tr B2.out (below1 wr (.cells #[.int .i64 x.k, .int .i64 ia, .int .i64 ib] 120)))
        have O3 := Lib.hid (own_below O2.out (below1 wr (.cells #[.int .i64 x.k, .int .i64 ia, .int .i64 ib] 120)))
        clear hk1
        clear hia hva hax hib hvb hbx
        clear B3 O3
        go_wp2_with fail
        refine wp_region_any (by kernel_rfl) ?_
        change wpAny _ _ _ _ _ _ _ (World.drew _)
        obtain ⟨w1, hw1⟩ : ∃ W, W = World.drew (wr.alloc (.cells #[.int .i64 x.k, .int .i64 ia, .int .i64 ib] 120)) := ⟨_, rfl⟩
        rw [← hw1]
        have hb1 : Below wr.heap.size wr w1 := by rw [hw1]; exact (below1 _ _).drew
        have hk1 : Blk w1 wr.heap.size 120 [.int .i64 x.k, .int .i64 ia, .int .i64 ib] := by rw [hw1]; exact heap_alloc_new wr (.cells #[.int .i64 x.k, .int .i64 ia, .int .i64 ib] 120)
        have t1 := hk1.cell 1
        have t2 := hk1.cell 2
        have s1 := ((bcell hb1).1 b1 _ hbl1).trans c1
        have s2 := ((bcell hb1).1 b1 _ hbl1).trans c2
        have hl1 := hk1.lt
        have B3 := Lib.hid (Below.tr B2.out hb1)
        have O3 := Lib.hid (own_below O2.out hb1)
        clear hw1 hb1 hk1 c1 c2
        refine wpAny_take (i := 0) (v := ?_) rfl (by kernel_rfl) (by kernel_rfl) (by kernel_rfl) (fun _ _ _ h => h) (Or.inl ⟨by rfl, ?_⟩) ?_
        rotate_left
        · intro w
          go_simp
          try with_reducible rfl
        simp only [Act.put, List.setIfInBounds_toArray]
        refine wpAny_take (i := 1) (v := ?_) rfl (by kernel_rfl) (by kernel_rfl) (by kernel_rfl) (fun _ _ _ h => h) (Or.inl ⟨by rfl, ?_⟩) ?_
        rotate_left
        · intro w
          go_simp
          try with_reducible rfl
        simp only [Act.put]
        refine wpAny_take (i := 2) (v := ?_) rfl (by kernel_rfl) (by kernel_rfl) (by kernel_rfl) (fun _ _ _ h => h) (Or.inl ⟨by rfl, ?_⟩) ?_
        rotate_left
        · intro w
          go_simp
          try with_reducible rfl
        simp only [Act.put]
        refine wpAny_take (i := 6) (v := ?_) rfl (by kernel_rfl) (by kernel_rfl) (by kernel_rfl) (fun _ _ _ h => h) (Or.inl ⟨by rfl, ?_⟩) ?_
        rotate_left
        · intro w
          go_simp
          try with_reducible rfl
        simp only [Act.put]
        refine wpAny_take (i := 7) (v := ?_) rfl (by kernel_rfl) (by kernel_rfl) (by kernel_rfl) (fun _ _ _ h => h) (Or.inl ⟨by rfl, ?_⟩) ?_
        rotate_left
        · intro w
          go_simp
          try with_reducible rfl
        simp only [Act.put]
        refine wpAny_ready (rs := [3, 8]) (by kernel_rfl) (by simp) ?_
        refine AllReady.cons rfl (fun K hK => ?_) (AllReady.cons rfl (fun K hK => ?_) AllReady.nil)
        · go_simp
          refine hK _ _ ?_
          clear hK K
          refine wpAny_take (i := 4) (v := ?_) rfl (by kernel_rfl) (by kernel_rfl) (by kernel_rfl) (fun _ _ _ h => h) (Or.inl ⟨by rfl, ?_⟩) ?_
          rotate_left
          · intro w
            go_simp
            try with_reducible rfl
          simp only [Act.put, List.setIfInBounds_toArray]
          refine wpAny_ready (rs := [5, 8]) (by kernel_rfl) (by simp) ?_
          refine AllReady.cons rfl (fun K hK => ?_) (AllReady.cons rfl (fun K hK => ?_) AllReady.nil)
          · go_simp
            refine hK _ _ ?_
            clear hK K
            refine wpAny_ready (rs := [8]) (by kernel_rfl) (by simp) ?_
            refine AllReady.cons rfl (fun K hK => ?_) AllReady.nil
            go_simp
            refine hK _ _ ?_
            clear hK K
            refine wpAny_take (i := 9) (v := ?_) rfl (by kernel_rfl) (by kernel_rfl) (by kernel_rfl) (fun _ _ _ h => h) (Or.inl ⟨by rfl, ?_⟩) ?_
            rotate_left
            · intro w
              go_simp
              try with_reducible rfl
            simp only [Act.put, List.setIfInBounds_toArray]
            refine wpAny_ready (rs := [10]) (by kernel_rfl) (by simp) ?_
            refine AllReady.cons rfl (fun K hK => ?_) AllReady.nil
            go_simp
            refine hK _ _ ?_
            clear hK K
            refine wpAny_take (i := 11) (v := ?_) rfl (by kernel_rfl) (by kernel_rfl) (by kernel_rfl) (fun _ _ _ h => h) (Or.inl ⟨by rfl, ?_⟩) ?_
            rotate_left
            · intro w
              go_simp
              try with_reducible rfl
            simp only [Act.put, List.setIfInBounds_toArray]
            refine wpAny_ready (rs := [12]) (by kernel_rfl) (by simp) ?_
            refine AllReady.cons rfl (fun K hK => ?_) AllReady.nil
            go_simp
            refine hK _ _ ?_
            clear hK K
            refine wpAny_ready (rs := [13]) (by kernel_rfl) (by simp) ?_
            refine AllReady.cons rfl (fun K hK => ?_) AllReady.nil
            refine step_append_lies _ rfl _ _ 49 rfl w.heap.size 4 i0 (.bool false) 1 1 Try.underlying49 hi0 hz0 hz1 hz2 rfl (by omega) _ k _ rfl (O3.out.alloc _) ⟨w1.heap.size, 0, none⟩ 1 1 [.bool (va != vb)] rfl rfl (one_new1 w1 _ _) (by intro u hu; rw [List.mem_singleton.1 hu]; rfl) (by omega) (by unfold maxLen; omega) (by omega) (by have := B3.out.size; first | omega | (simp; omega)) (w1.heap.size + 1) (by first | rfl | simp) ?_
            intro g3 cap3 w4 hown3 hg3 hat3 hlt3
            have H3 := Lib.hid (appB O3.out hown3 hg3 B3.out (Nat.le_refl _))
            clear hown3 hg3 hat3 hlt3
            refine hK _ _ ?_
            clear hK K
            refine wpAny_ready (rs := [14]) (by kernel_rfl) (by simp) ?_
            refine AllReady.cons rfl (fun K hK => ?_) AllReady.nil
            go_simp
            refine hK _ _ ?_
            clear hK K
            refine wpAny_done (by kernel_rfl) ?_ _
            go_wp2
            go_roundw
            case rel => exact ⟨k + 1, by omega, by go_num, by rw [EN.out], ⟨some ⟨g3, 0, none⟩, cap3, rfl, by rw [E.out]; exact H3.out.1⟩, H3.out.2⟩
            case measure => simp [intOf]; omega
          · go_simp
            refine hK _ _ ?_
            clear hK K
            refine wpAny_take (i := 9) (v := ?_) rfl (by kernel_rfl) (by kernel_rfl) (by kernel_rfl) (fun _ _ _ h => h) (Or.inl ⟨by rfl, ?_⟩) ?_
            rotate_left
            · intro w
              go_simp
              try with_reducible rfl
            simp only [Act.put, List.setIfInBounds_toArray]
            refine wpAny_ready (rs := [5, 10]) (by kernel_rfl) (by simp) ?_
            refine AllReady.cons rfl (fun K hK => ?_) (AllReady.cons rfl (fun K hK => ?_) AllReady.nil)
            · go_simp
              refine hK _ _ ?_
              clear hK K
              refine wpAny_ready (rs := [10]) (by kernel_rfl) (by simp) ?_
              refine AllReady.cons rfl (fun K hK => ?_) AllReady.nil
              go_simp
              refine hK _ _ ?_
              clear hK K
              refine wpAny_take (i := 11) (v := ?_) rfl (by kernel_rfl) (by kernel_rfl) (by kernel_rfl) (fun _ _ _ h => h) (Or.inl ⟨by rfl, ?_⟩) ?_
              rotate_left
              · intro w
                go_simp
                try with_reducible rfl
              simp only [Act.put, List.setIfInBounds_toArray]
              refine wpAny_ready (rs := [12]) (by kernel_rfl) (by simp) ?_
              refine AllReady.cons rfl (fun K hK => ?_) AllReady.nil
              go_simp
              refine hK _ _ ?_
              clear hK K
              refine wpAny_ready (rs := [13]) (by kernel_rfl) (by simp) ?_
              refine AllReady.cons rfl (fun K hK => ?_) AllReady.nil
              refine step_append_lies _ rfl _ _ 49 rfl w.heap.size 4 i0 (.bool false) 1 1 Try.underlying49 hi0 hz0 hz1 hz2 rfl (by omega) _ k _ rfl (O3.out.alloc _) ⟨w1.heap.size, 0, none⟩ 1 1 [.bool (va != vb)] rfl rfl (one_new1 w1 _ _) (by intro u hu; rw [List.mem_singleton.1 hu]; rfl) (by omega) (by unfold maxLen; omega) (by omega) (by have := B3.out.size; first | omega | (simp; omega)) (w1.heap.size + 1) (by first | rfl | simp) ?_
              intro g3 cap3 w4 hown3 hg3 hat3 hlt3
              have H3 := Lib.hid (appB O3.out hown3 hg3 B3.out (Nat.le_refl _))
              clear hown3 hg3 hat3 hlt3
              refine hK _ _ ?_
              clear hK K
              refine wpAny_ready (rs := [14]) (by kernel_rfl) (by simp) ?_
              refine AllReady.cons rfl (fun K hK => ?_) AllReady.nil
              go_simp
              refine hK _ _ ?_
              clear hK K
              refine wpAny_done (by kernel_rfl) ?_ _
              go_wp2
              go_roundw
              case rel => exact ⟨k + 1, by omega, by go_num, by rw [EN.out], ⟨some ⟨g3, 0, none⟩, cap3, rfl, by rw [E.out]; exact H3.out.1⟩, H3.out.2⟩
              case measure => simp [intOf]; omega
            · go_simp
              refine hK _ _ ?_
              clear hK K
              refine wpAny_ready (rs := [5]) (by kernel_rfl) (by simp) ?_
              refine AllReady.cons rfl (fun K hK => ?_) AllReady.nil
              go_simp
              refine hK _ _ ?_
              clear hK K
              refine wpAny_take (i := 11) (v := ?_) rfl (by kernel_rfl) (by kernel_rfl) (by kernel_rfl) (fun _ _ _ h => h) (Or.inl ⟨by rfl, ?_⟩) ?_
              rotate_left
              · intro w
                go_simp
                try with_reducible rfl
              simp only [Act.put, List.setIfInBounds_toArray]
              refine wpAny_ready (rs := [12]) (by kernel_rfl) (by simp) ?_
              refine AllReady.cons rfl (fun K hK => ?_) AllReady.nil
              go_simp
              refine hK _ _ ?_
              clear hK K
              refine wpAny_ready (rs := [13]) (by kernel_rfl) (by simp) ?_
              refine AllReady.cons rfl (fun K hK => ?_) AllReady.nil
              refine step_append_lies _ rfl _ _ 49 rfl w.heap.size 4 i0 (.bool false) 1 1 Try.underlying49 hi0 hz0 hz1 hz2 rfl (by omega) _ k _ rfl (O3.out.alloc _) ⟨w1.heap.size, 0, none⟩ 1 1 [.bool (va != vb)] rfl rfl (one_new1 w1 _ _) (by intro u hu; rw [List.mem_singleton.1 hu]; rfl) (by omega) (by unfold maxLen; omega) (by omega) (by have := B3.out.size; first | omega | (simp; omega)) (w1.heap.size + 1) (by first | rfl | simp) ?_
              intro g3 cap3 w4 hown3 hg3 hat3 hlt3
              have H3 := Lib.hid (appB O3.out hown3 hg3 B3.out (Nat.le_refl _))
              clear hown3 hg3 hat3 hlt3
              refine hK _ _ ?_
              clear hK K
              refine wpAny_ready (rs := [14]) (by kernel_rfl) (by simp) ?_
              refine AllReady.cons rfl (fun K hK => ?_) AllReady.nil
              go_simp
              refine hK _ _ ?_
              clear hK K
              refine wpAny_done (by kernel_rfl) ?_ _
              go_wp2
              go_roundw
              case rel => exact ⟨k + 1, by omega, by go_num, by rw [EN.out], ⟨some ⟨g3, 0, none⟩, cap3, rfl, by rw [E.out]; exact H3.out.1⟩, H3.out.2⟩
              case measure => simp [intOf]; omega
        · go_simp
          refine hK _ _ ?_
          clear hK K
          refine wpAny_take (i := 9) (v := ?_) rfl (by kernel_rfl) (by kernel_rfl) (by kernel_rfl) (fun _ _ _ h => h) (Or.inl ⟨by rfl, ?_⟩) ?_
          rotate_left
          · intro w
            go_simp
            try with_reducible rfl
          simp only [Act.put, List.setIfInBounds_toArray]
          refine wpAny_ready (rs := [3, 10]) (by kernel_rfl) (by simp) ?_
          refine AllReady.cons rfl (fun K hK => ?_) (AllReady.cons rfl (fun K hK => ?_) AllReady.nil)
          · go_simp
            refine hK _ _ ?_
            clear hK K
            refine wpAny_take (i := 4) (v := ?_) rfl (by kernel_rfl) (by kernel_rfl) (by kernel_rfl) (fun _ _ _ h => h) (Or.inl ⟨by rfl, ?_⟩) ?_
            rotate_left
            · intro w
              go_simp
              try with_reducible rfl
            simp only [Act.put, List.setIfInBounds_toArray]
            refine wpAny_ready (rs := [5, 10]) (by kernel_rfl) (by simp) ?_
            refine AllReady.cons rfl (fun K hK => ?_) (AllReady.cons rfl (fun K hK => ?_) AllReady.nil)
            · go_simp
              refine hK _ _ ?_
              clear hK K
              refine wpAny_ready (rs := [10]) (by kernel_rfl) (by simp) ?_
              refine AllReady.cons rfl (fun K hK => ?_) AllReady.nil
              go_simp
              refine hK _ _ ?_
              clear hK K
              refine wpAny_take (i := 11) (v := ?_) rfl (by kernel_rfl) (by kernel_rfl) (by kernel_rfl) (fun _ _ _ h => h) (Or.inl ⟨by rfl, ?_⟩) ?_
              rotate_left
              · intro w
                go_simp
                try with_reducible rfl
              simp only [Act.put, List.setIfInBounds_toArray]
              refine wpAny_ready (rs := [12]) (by kernel_rfl) (by simp) ?_
              refine AllReady.cons rfl (fun K hK => ?_) AllReady.nil
              go_simp
              refine hK _ _ ?_
              clear hK K
              refine wpAny_ready (rs := [13]) (by kernel_rfl) (by simp) ?_
              refine AllReady.cons rfl (fun K hK => ?_) AllReady.nil
              refine step_append_lies _ rfl _ _ 49 rfl w.heap.size 4 i0 (.bool false) 1 1 Try.underlying49 hi0 hz0 hz1 hz2 rfl (by omega) _ k _ rfl (O3.out.alloc _) ⟨w1.heap.size, 0, none⟩ 1 1 [.bool (va != vb)] rfl rfl (one_new1 w1 _ _) (by intro u hu; rw [List.mem_singleton.1 hu]; rfl) (by omega) (by unfold maxLen; omega) (by omega) (by have := B3.out.size; first | omega | (simp; omega)) (w1.heap.size + 1) (by first | rfl | simp) ?_
              intro g3 cap3 w4 hown3 hg3 hat3 hlt3
              have H3 := Lib.hid (appB O3.out hown3 hg3 B3.out (Nat.le_refl _))
              clear hown3 hg3 hat3 hlt3
              refine hK _ _ ?_
              clear hK K
              refine wpAny_ready (rs := [14]) (by kernel_rfl) (by simp) ?_
              refine AllReady.cons rfl (fun K hK => ?_) AllReady.nil
              go_simp
              refine hK _ _ ?_
              clear hK K
              refine wpAny_done (by kernel_rfl) ?_ _
              go_wp2
              go_roundw
              case rel => exact ⟨k + 1, by omega, by go_num, by rw [EN.out], ⟨some ⟨g3, 0, none⟩, cap3, rfl, by rw [E.out]; exact H3.out.1⟩, H3.out.2⟩
              case measure => simp [intOf]; omega
            · go_simp
              refine hK _ _ ?_
              clear hK K
              refine wpAny_ready (rs := [5]) (by kernel_rfl) (by simp) ?_
              refine AllReady.cons rfl (fun K hK => ?_) AllReady.nil
              go_simp
              refine hK _ _ ?_
              clear hK K
              refine wpAny_take (i := 11) (v := ?_) rfl (by kernel_rfl) (by kernel_rfl) (by kernel_rfl) (fun _ _ _ h => h) (Or.inl ⟨by rfl, ?_⟩) ?_
              rotate_left
              · intro w
                go_simp
                try with_reducible rfl
              simp only [Act.put, List.setIfInBounds_toArray]
              refine wpAny_ready (rs := [12]) (by kernel_rfl) (by simp) ?_
              refine AllReady.cons rfl (fun K hK => ?_) AllReady.nil
              go_simp
              refine hK _ _ ?_
              clear hK K
              refine wpAny_ready (rs := [13]) (by kernel_rfl) (by simp) ?_
              refine AllReady.cons rfl (fun K hK => ?_) AllReady.nil
              refine step_append_lies _ rfl _ _ 49 rfl w.heap.size 4 i0 (.bool false) 1 1 Try.underlying49 hi0 hz0 hz1 hz2 rfl (by omega) _ k _ rfl (O3.out.alloc _) ⟨w1.heap.size, 0, none⟩ 1 1 [.bool (va != vb)] rfl rfl (one_new1 w1 _ _) (by intro u hu; rw [List.mem_singleton.1 hu]; rfl) (by omega) (by unfold maxLen; omega) (by omega) (by have := B3.out.size; first | omega | (simp; omega)) (w1.heap.size + 1) (by first | rfl | simp) ?_
              intro g3 cap3 w4 hown3 hg3 hat3 hlt3
              have H3 := Lib.hid (appB O3.out hown3 hg3 B3.out (Nat.le_refl _))
              clear hown3 hg3 hat3 hlt3
              refine hK _ _ ?_
              clear hK K
              refine wpAny_ready (rs := [14]) (by kernel_rfl) (by simp) ?_
              refine AllReady.cons rfl (fun K hK => ?_) AllReady.nil
              go_simp
              refine hK _ _ ?_
              clear hK K
              refine wpAny_done (by kernel_rfl) ?_ _
              go_wp2
              go_roundw
              case rel => exact ⟨k + 1, by omega, by go_num, by rw [EN.out], ⟨some ⟨g3, 0, none⟩, cap3, rfl, by rw [E.out]; exact H3.out.1⟩, H3.out.2⟩
              case measure => simp [intOf]; omega
          · go_simp
            refine hK _ _ ?_
            clear hK K
            refine wpAny_ready (rs := [3]) (by kernel_rfl) (by simp) ?_
            refine AllReady.cons rfl (fun K hK => ?_) AllReady.nil
            go_simp
            refine hK _ _ ?_
            clear hK K
            refine wpAny_take (i := 4) (v := ?_) rfl (by kernel_rfl) (by kernel_rfl) (by kernel_rfl) (fun _ _ _ h => h) (Or.inl ⟨by rfl, ?_⟩) ?_
            rotate_left
            · intro w
              go_simp
              try with_reducible rfl
            simp only [Act.put, List.setIfInBounds_toArray]
            refine wpAny_ready (rs := [5]) (by kernel_rfl) (by simp) ?_
            refine AllReady.cons rfl (fun K hK => ?_) AllReady.nil
            go_simp
            refine hK _ _ ?_
            clear hK K
            refine wpAny_take (i := 11) (v := ?_) rfl (by kernel_rfl) (by kernel_rfl) (by kernel_rfl) (fun _ _ _ h => h) (Or.inl ⟨by rfl, ?_⟩) ?_
            rotate_left
            · intro w
              go_simp
              try with_reducible rfl
            simp only [Act.put, List.setIfInBounds_toArray]
            refine wpAny_ready (rs := [12]) (by kernel_rfl) (by simp) ?_
            refine AllReady.cons rfl (fun K hK => ?_) AllReady.nil
            go_simp
            refine hK _ _ ?_
            clear hK K
            refine wpAny_ready (rs := [13]) (by kernel_rfl) (by simp) ?_
            refine AllReady.cons rfl (fun K hK => ?_) AllReady.nil
            refine step_append_lies _ rfl _ _ 49 rfl w.heap.size 4 i0 (.bool false) 1 1 Try.underlying49 hi0 hz0 hz1 hz2 rfl (by omega) _ k _ rfl (O3.out.alloc _) ⟨w1.heap.size, 0, none⟩ 1 1 [.bool (va != vb)] rfl rfl (one_new1 w1 _ _) (by intro u hu; rw [List.mem_singleton.1 hu]; rfl) (by omega) (by unfold maxLen; omega) (by omega) (by have := B3.out.size; first | omega | (simp; omega)) (w1.heap.size + 1) (by first | rfl | simp) ?_
            intro g3 cap3 w4 hown3 hg3 hat3 hlt3
            have H3 := Lib.hid (appB O3.out hown3 hg3 B3.out (Nat.le_refl _))
            clear hown3 hg3 hat3 hlt3
            refine hK _ _ ?_
            clear hK K
            refine wpAny_ready (rs := [14]) (by kernel_rfl) (by simp) ?_
            refine AllReady.cons rfl (fun K hK => ?_) AllReady.nil
            go_simp
            refine hK _ _ ?_
            clear hK K
            refine wpAny_done (by kernel_rfl) ?_ _
            go_wp2
            go_roundw
            case rel => exact ⟨k + 1, by omega, by go_num, by rw [EN.out], ⟨some ⟨g3, 0, none⟩, cap3, rfl, by rw [E.out]; exact H3.out.1⟩, H3.out.2⟩
            case measure => simp [intOf]; omega
    · obtain rfl : k = n := by omega
      go_wp2
      go_ret
      exact ⟨A2, cp, by rw [KL.out]; rfl, by rw [KL.out]; exact O2.out, B2.out⟩
end Go.Proofs.Ytklcfbjaodildaa
