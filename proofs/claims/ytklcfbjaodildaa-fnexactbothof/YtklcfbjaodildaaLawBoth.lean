/-
  The walk of the law of Both.
-/
import Derived.Test.YtklcfbjaodildaaSp7
import Derived.Test.YtklcfbjaodildaaDLen
import Derived.Test.YtklcfbjaodildaaDOpen
namespace Go.Proofs.Ytklcfbjaodildaa
open Go.ChangeShapes Go.WideShapes Go.ChangeAt Go.RowKit

theorem lb_set3 {W : World} {b : Nat} {v0 v1 v2 : Value} (h : Blk W b 28 [v0, v1, v2]) (u0 u1 u2 : Value) : Blk (((W.setCell ⟨b, 0, none⟩ u0).setCell ⟨b, 1, none⟩ u1).setCell ⟨b, 2, none⟩ u2) b 28 [u0, u1, u2] :=
  ((h.set 0 u0).set 1 u1).set 2 u2
theorem lb_kept3 (W : World) (b : Nat) (u0 u1 u2 : Value) : Kept W (((W.setCell ⟨b, 0, none⟩ u0).setCell ⟨b, 1, none⟩ u1).setCell ⟨b, 2, none⟩ u2) (fun g => g = b) :=
  (Kept.set.trans Kept.set).trans Kept.set
set_option maxRecDepth 100000 in
set_option maxHeartbeats 64000000 in
theorem lawBoth (d0 d2 : Int) (Ad : Option Addr) (capd : Nat) (d : List Nd) (b0 b2 : Int) (Ab : Option Addr) (capb : Nat) (b : List Nd) (w : World) (hnd : d.length ≤ 9223372036854775807) (hld : NLies w Ad d) (hnb : b.length ≤ 9223372036854775807) (hlb : NLies w Ab b) :
    Calls Try.prog 6 #[.agg #[.int .i64 d0, .slice Ad d.length capd, .int .i64 d2], .agg #[.int .i64 b0, .slice Ab b.length capb, .int .i64 b2]] w fun e w' => e = .returned (.bool true) ∧ Below w.heap.size w w' := by
  obtain ⟨nd, hxd⟩ : ∃ n, d.length = n := ⟨_, rfl⟩
  rw [hxd] at hnd ⊢
  have HXd := Lib.hid hxd
  have HLd := Lib.hid hld
  clear hxd hld
  obtain ⟨nb, hxb⟩ : ∃ n, b.length = n := ⟨_, rfl⟩
  rw [hxb] at hnb ⊢
  have HXb := Lib.hid hxb
  have HLb := Lib.hid hlb
  clear hxb hlb
  go_enter Try.func6, Try.ntmps6
  go_wp2_with fail
  obtain ⟨w1, hw1⟩ : ∃ W, W = w.alloc (.cells #[.int .i64 d0, .slice Ad nd capd, .int .i64 d2] 79) := ⟨_, rfl⟩
  have hb : Below w.heap.size w w1 := by rw [hw1]; exact below1 _ _
  have hx : Blk w1 w.heap.size 79 [.int .i64 d0, .slice Ad nd capd, .int .i64 d2] := by rw [hw1]; exact heap_alloc_new _ _
  have hsz : w1.heap.size = w.heap.size + 1 := by rw [hw1]; simp
  rw [← hw1]
  clear hw1
  have S1 := Lib.hid (hb.size)
  have SE1 := Lib.hid hsz
  have B1 := Lib.hid (Below.tr (Below.refl _ _) hb)
  have Xad_1 := Lib.hid hx
  clear hb hx hsz
  obtain ⟨w2, hw2⟩ : ∃ W, W = w1.alloc (.cells #[.int .i64 b0, .slice Ab nb capb, .int .i64 b2] 79) := ⟨_, rfl⟩
  have hb : Below w1.heap.size w1 w2 := by rw [hw2]; exact below1 _ _
  have hx : Blk w2 w1.heap.size 79 [.int .i64 b0, .slice Ab nb capb, .int .i64 b2] := by rw [hw2]; exact heap_alloc_new _ _
  have hsz : w2.heap.size = w1.heap.size + 1 := by rw [hw2]; simp
  rw [← hw2]
  clear hw2
  have S2 := Lib.hid (hb.size)
  have SE2 := Lib.hid hsz
  have B2 := Lib.hid (Below.tr B1.out hb)
  have Xad_2 := Lib.hid (Xad_1.out.below hb)
  clear Xad_1
  rw [SE1.out] at hx
  have Xab_2 := Lib.hid hx
  clear hb hx hsz
  refine (szDiagram_any d0 d2 Ad nd capd 1048576 _ hnd (by omega) (by omega)).mono ?_
  rintro e w3 ⟨rfl, hb⟩
  have S3 := Lib.hid (hb.size)
  have B3 := Lib.hid (Below.tr B2.out hb)
  have Xad_3 := Lib.hid (Xad_2.out.below hb)
  clear Xad_2
  have Xab_3 := Lib.hid (Xab_2.out.below hb)
  clear Xab_2
  clear hb
  by_cases hnegd : 1048576 - (nd : Int) < 0
  · have hszd : szF 1048576 nd = -1 := if_pos (by omega)
    rw [hszd]
    go_wp2
    go_ret
    exact ⟨rfl, B3.out⟩
  have hszd : szF 1048576 nd = 1048576 - nd := if_neg (by omega)
  rw [hszd]
  clear hszd
  have hsd : nd ≤ 1048576 := by omega
  obtain ⟨zad0, zad1, zad2, _, _, _, zadl⟩ := blk_cells Xad_3.out
  obtain ⟨zab0, zab1, zab2, _, _, _, zabl⟩ := blk_cells Xab_3.out
  go_wp2_with fail
  clear zad0 zad1 zad2 zadl
  clear zab0 zab1 zab2 zabl
  refine (szDiagram_any b0 b2 Ab nb capb (1048576 - (nd : Int)) _ hnb (by omega) (by omega)).mono ?_
  rintro e w4 ⟨rfl, hb⟩
  have S4 := Lib.hid (hb.size)
  have B4 := Lib.hid (Below.tr B3.out hb)
  have Xad_4 := Lib.hid (Xad_3.out.below hb)
  clear Xad_3
  have Xab_4 := Lib.hid (Xab_3.out.below hb)
  clear Xab_3
  clear hb
  by_cases hnegb : (1048576 - (nd : Int)) - (nb : Int) < 0
  · have hszb : szF (1048576 - (nd : Int)) nb = -1 := if_pos (by omega)
    rw [hszb]
    go_wp2
    go_ret
    exact ⟨rfl, B4.out⟩
  have hszb : szF (1048576 - (nd : Int)) nb = (1048576 - (nd : Int)) - nb := if_neg (by omega)
  rw [hszb]
  clear hszb
  have hsb : nb ≤ 1048576 := by omega
  obtain ⟨⟨⟨r0a, r0, r0b⟩, r1⟩, hr⟩ : ∃ x, rBoth d0 d d2 b0 b b2 = x := ⟨_, rfl⟩
  have hrl : r0.length ≤ 64 := rBoth_len hr
  have HR := Lib.hid hr
  clear hr
  obtain ⟨zad0, zad1, zad2, _, _, _, zadl⟩ := blk_cells Xad_4.out
  obtain ⟨zab0, zab1, zab2, _, _, _, zabl⟩ := blk_cells Xab_4.out
  go_wp2_with fail
  clear zad0 zad1 zad2 zadl
  clear zab0 zab1 zab2 zabl
  rename Act → World → Prop => K1
  rename (∀ (a : Act) (w : World), _ → K1 a w) => hK1
  suffices key : ∀ (wZ : World) (gsd gsb qw : Nat) (Aw0 : Option Addr) (cw0 : Nat), Hid (w4.heap.size ≤ wZ.heap.size) → Hid (Below w.heap.size w wZ) → Hid (∀ g, (.slice Aw0 r0.length cw0 : Value).ownBlock = some g → w4.heap.size ≤ g ∧ g < wZ.heap.size) → Hid (wZ.ownsRow w4.heap.size 43 3 (.slice Aw0 r0.length cw0) r0.length (ncells r0)) → Hid (Blk wZ (w.heap.size) 79 [.int .i64 d0, .slice Ad nd capd, .int .i64 d2]) → Hid (Blk wZ (w.heap.size + 1) 79 [.int .i64 b0, .slice Ab nb capb, .int .i64 b2]) → Hid (Blk wZ qw 28 [.int .i64 r0a, .slice Aw0 r0.length cw0, .int .i64 r0b]) → K1 { tmps := #[Value.agg #[Value.int IntKind.i64 d0, Value.slice Ad nd capd, Value.int IntKind.i64 d2], Value.agg #[Value.int IntKind.i64 b0, Value.slice Ab nb capb, Value.int IntKind.i64 b2], Value.pointer (some { block := w.heap.size, off := 0 }), Value.pointer (some { block := w.heap.size + 1, off := 0 }), Value.bool false, Value.int IntKind.i64 (1048576 - (nd : Int) - (nb : Int)), Value.pointer (some { block := qw, off := 0 }), Value.bool r1, undef, undef, undef, undef, undef, undef, undef, undef, undef, Value.agg #[Value.int IntKind.i64 d0, Value.slice Ad nd capd, Value.int IntKind.i64 d2], Value.int IntKind.i64 1048576, Value.int IntKind.i64 (1048576 - (nd : Int)), Value.int IntKind.i64 (1048576 - (nd : Int)), Value.bool (decide (1048576 - (nd : Int) < 0)), Value.agg #[Value.int IntKind.i64 b0, Value.slice Ab nb capb, Value.int IntKind.i64 b2], Value.int IntKind.i64 (1048576 - (nd : Int)), Value.int IntKind.i64 (1048576 - (nd : Int) - (nb : Int)), Value.int IntKind.i64 (1048576 - (nd : Int) - (nb : Int)), Value.bool (decide (1048576 - (nd : Int) - (nb : Int) < 0)), Value.tuple #[Value.agg #[Value.int IntKind.i64 r0a, Value.slice Aw0 r0.length cw0, Value.int IntKind.i64 r0b], Value.bool r1], Value.agg #[Value.int IntKind.i64 d0, Value.slice Ad nd capd, Value.int IntKind.i64 d2], Value.agg #[Value.int IntKind.i64 d0, Value.slice (some { block := gsd, off := 0 }) nd nd, Value.int IntKind.i64 d2], Value.agg #[Value.int IntKind.i64 b0, Value.slice Ab nb capb, Value.int IntKind.i64 b2], Value.agg #[Value.int IntKind.i64 b0, Value.slice (some { block := gsb, off := 0 }) nb nb, Value.int IntKind.i64 b2], Value.tuple #[Value.agg #[Value.int IntKind.i64 r0a, Value.slice Aw0 r0.length cw0, Value.int IntKind.i64 r0b], Value.bool r1], Value.agg #[Value.int IntKind.i64 r0a, Value.slice Aw0 r0.length cw0, Value.int IntKind.i64 r0b], Value.bool r1, undef, undef, undef, undef, undef, undef, undef, undef, undef, undef, undef, undef, undef, undef, undef, undef, undef, undef, undef, undef, undef, undef, undef, undef, undef, undef, undef, undef, undef, undef, undef, undef, undef, undef, undef, undef, undef, undef, undef, undef, undef, undef, undef, undef, undef, undef, undef, undef, undef, undef, undef, undef, undef, undef, undef, undef, undef, undef, undef, undef, undef, undef, undef, undef, undef, undef, undef, undef, undef, undef, undef, undef, undef, undef, undef, undef, undef, undef, undef, undef, undef, undef, undef, undef], defers := [] } wZ by
    obtain ⟨zad0, zad1, zad2, _, _, _, zadl⟩ := blk_cells Xad_4.out
    obtain ⟨zab0, zab1, zab2, _, _, _, zabl⟩ := blk_cells Xab_4.out
    refine wp_region_held_drew (S := fun W => W.cell? ⟨w.heap.size, 0, none⟩ = some (.int .i64 d0) ∧ W.cell? ⟨w.heap.size, 1, none⟩ = some (.slice Ad nd capd) ∧ W.cell? ⟨w.heap.size, 2, none⟩ = some (.int .i64 d2) ∧ W.cell? ⟨w.heap.size + 1, 0, none⟩ = some (.int .i64 b0) ∧ W.cell? ⟨w.heap.size + 1, 1, none⟩ = some (.slice Ab nb capb) ∧ W.cell? ⟨w.heap.size + 1, 2, none⟩ = some (.int .i64 b2)) (by kernel_rfl) ?_ (fun hHeld => ?_)
    · exact ⟨zad0, zad1, zad2, zab0, zab1, zab2⟩
    clear zad0 zad1 zad2 zadl
    clear zab0 zab1 zab2 zabl
    obtain ⟨w5, hw5⟩ : ∃ W, W = w4.drew := ⟨_, rfl⟩
    have hb : Below w4.heap.size w4 w5 := by rw [hw5]; exact (Below.refl _ _).drew
    rw [← hw5] at hHeld ⊢
    clear hw5
    have S5 := Lib.hid (hb.size)
    have B5 := Lib.hid (Below.tr B4.out hb)
    have Xad_5 := Lib.hid (Xad_4.out.below hb)
    clear Xad_4
    have Xab_5 := Lib.hid (Xab_4.out.below hb)
    clear Xab_4
    clear hb
    refine wpAnyH_take (i := 0) (v := ?_) rfl (by kernel_rfl) (by kernel_rfl) (by kernel_rfl) (fun _ _ _ h => h) (Or.inl ⟨by rfl, ?_⟩) (by assumption) ?_
    rotate_left
    · intro W hSw
      try dsimp only at hSw
      go_simp
      try with_reducible rfl
    simp only [Act.put, List.setIfInBounds_toArray]
    refine wpAnyH_take (i := 2) (v := ?_) rfl (by kernel_rfl) (by kernel_rfl) (by kernel_rfl) (fun _ _ _ h => h) (Or.inl ⟨by rfl, ?_⟩) (by assumption) ?_
    rotate_left
    · intro W hSw
      try dsimp only at hSw
      go_simp
      try with_reducible rfl
    simp only [Act.put]
    refine wpAnyH_ready (rs := [1, 8]) (by kernel_rfl) (by simp) ?_
    refine AllReadyH.cons rfl (fun K hK => ?_) (AllReadyH.cons rfl (fun K hK => ?_) AllReadyH.nil)
    ·
      go_simp
      refine (toDiagram_any d0 d2 _ _ _ d _ (Lib.hid (HLd.out.below B5.out)) HXd hsd).mono ?_
      rintro e w6 ⟨gsd, rfl, hge, kk, hb⟩
      have S6 := Lib.hid (hb.size)
      have B6 := Lib.hid (Below.tr B5.out hb)
      have Xad_6 := Lib.hid (Xad_5.out.below hb)
      clear Xad_5
      have Xab_6 := Lib.hid (Xab_5.out.below hb)
      clear Xab_5
      have Fsd_6 := Lib.hid (own_baseN (own_of_nblk kk HXd.out hsd) hge)
      have Psd : Hid (∀ g, (.slice (some ⟨gsd, 0, none⟩) nd nd : Value).ownBlock = some g → w5.heap.size ≤ g ∧ g < w6.heap.size) := Lib.hid (fun g h => Fsd_6.out.lt g h)
      clear kk hb hge
      obtain ⟨zad0, zad1, zad2, _, _, _, zadl⟩ := blk_cells Xad_6.out
      obtain ⟨zab0, zab1, zab2, _, _, _, zabl⟩ := blk_cells Xab_6.out
      refine hK.out _ _ ⟨zad0, zad1, zad2, zab0, zab1, zab2⟩ (fun hH1 => ?_)
      clear hK K hHeld
      try simp only [Act.put, List.setIfInBounds_toArray, List.set_cons_zero, List.set_cons_succ]
      clear zad0 zad1 zad2 zadl
      clear zab0 zab1 zab2 zabl
      refine wpAnyH_ready (rs := [3, 8]) (by kernel_rfl) (by simp) ?_
      refine AllReadyH.cons rfl (fun K hK => ?_) (AllReadyH.cons rfl (fun K hK => ?_) AllReadyH.nil)
      ·
        go_simp
        refine (toDiagram_any b0 b2 _ _ _ b _ (Lib.hid (HLb.out.below B6.out)) HXb hsb).mono ?_
        rintro e w7 ⟨gsb, rfl, hge, kk, hb⟩
        have S7 := Lib.hid (hb.size)
        have B7 := Lib.hid (Below.tr B6.out hb)
        have Fsd_7 := Lib.hid (own_below Fsd_6.out hb)
        clear Fsd_6
        have Xad_7 := Lib.hid (Xad_6.out.below hb)
        clear Xad_6
        have Xab_7 := Lib.hid (Xab_6.out.below hb)
        clear Xab_6
        have Fsb_7 := Lib.hid (own_baseN (own_of_nblk kk HXb.out hsb) hge)
        have Psb : Hid (∀ g, (.slice (some ⟨gsb, 0, none⟩) nb nb : Value).ownBlock = some g → w6.heap.size ≤ g ∧ g < w7.heap.size) := Lib.hid (fun g h => Fsb_7.out.lt g h)
        clear kk hb hge
        obtain ⟨zad0, zad1, zad2, _, _, _, zadl⟩ := blk_cells Xad_7.out
        obtain ⟨zab0, zab1, zab2, _, _, _, zabl⟩ := blk_cells Xab_7.out
        refine hK.out _ _ ⟨zad0, zad1, zad2, zab0, zab1, zab2⟩ (fun hH2 => ?_)
        clear hK K hH1
        try simp only [Act.put, List.setIfInBounds_toArray, List.set_cons_zero, List.set_cons_succ]
        clear zad0 zad1 zad2 zadl
        clear zab0 zab1 zab2 zabl
        refine wpAnyH_ready (rs := [4, 8]) (by kernel_rfl) (by simp) ?_
        refine AllReadyH.cons rfl (fun K hK => ?_) (AllReadyH.cons rfl (fun K hK => ?_) AllReadyH.nil)
        ·
          go_simp
          refine (specBoth_any d0 d2 b0 b2 _ _ _ _ _ _ d b _ r0a r0 r0b r1 HR (Lib.hid (own_nlies HXd.out Fsd_7.out)) HXd hsd (Lib.hid (own_nlies HXb.out Fsb_7.out)) HXb hsb).mono ?_
          rintro e w8 ⟨Aw0, cw0, rfl, ho0, hb⟩
          have S8 := Lib.hid (hb.size)
          have B8 := Lib.hid (Below.tr B7.out hb)
          have Fsd_8 := Lib.hid (own_below Fsd_7.out hb)
          clear Fsd_7
          have Fsb_8 := Lib.hid (own_below Fsb_7.out hb)
          clear Fsb_7
          have Xad_8 := Lib.hid (Xad_7.out.below hb)
          clear Xad_7
          have Xab_8 := Lib.hid (Xab_7.out.below hb)
          clear Xab_7
          have Fw0_8 := Lib.hid (ho0)
          have Pw0 : Hid (∀ g, (.slice Aw0 r0.length cw0 : Value).ownBlock = some g → w7.heap.size ≤ g ∧ g < w8.heap.size) := Lib.hid (fun g h => Fw0_8.out.lt g h)
          clear hb ho0
          obtain ⟨zad0, zad1, zad2, _, _, _, zadl⟩ := blk_cells Xad_8.out
          obtain ⟨zab0, zab1, zab2, _, _, _, zabl⟩ := blk_cells Xab_8.out
          refine hK.out _ _ ⟨zad0, zad1, zad2, zab0, zab1, zab2⟩ (fun hH3 => ?_)
          clear hK K hH2
          try simp only [Act.put, List.setIfInBounds_toArray, List.set_cons_zero, List.set_cons_succ]
          clear zad0 zad1 zad2 zadl
          clear zab0 zab1 zab2 zabl
          refine wpAnyH_take (i := 5) (v := ?_) rfl (by kernel_rfl) (by kernel_rfl) (by kernel_rfl) (fun _ _ _ h => h) (Or.inl ⟨by rfl, ?_⟩) (by assumption) ?_
          rotate_left
          · intro W hSw
            try dsimp only at hSw
            go_simp
            try with_reducible rfl
          simp only [Act.put, List.setIfInBounds_toArray]
          refine wpAnyH_take (i := 6) (v := ?_) rfl (by kernel_rfl) (by kernel_rfl) (by kernel_rfl) (fun _ _ _ h => h) (Or.inl ⟨by rfl, ?_⟩) (by assumption) ?_
          rotate_left
          · intro W hSw
            try dsimp only at hSw
            go_simp
            try with_reducible rfl
          simp only [Act.put]
          refine wpAnyH_take (i := 7) (v := ?_) rfl (by kernel_rfl) (by kernel_rfl) (by kernel_rfl) (fun _ _ _ h => h) (Or.inl ⟨by rfl, ?_⟩) (by assumption) ?_
          rotate_left
          · intro W hSw
            try dsimp only at hSw
            go_simp
            try with_reducible rfl
          simp only [Act.put]
          refine wpAnyH_ready (rs := [8]) (by kernel_rfl) (by simp) ?_
          refine AllReadyH.cons rfl (fun K hK => ?_) AllReadyH.nil
          go_simp
          obtain ⟨w9, hw9⟩ : ∃ W, W = w8.alloc (.cells #[.int .i64 0, .slice none 0 0, .int .i64 0] 28) := ⟨_, rfl⟩
          have hb : Below w8.heap.size w8 w9 := by rw [hw9]; exact below1 _ _
          have hx : Blk w9 w8.heap.size 28 [.int .i64 0, .slice none 0 0, .int .i64 0] := by rw [hw9]; exact heap_alloc_new _ _
          have hsz : w9.heap.size = w8.heap.size + 1 := by rw [hw9]; simp
          rw [← hw9]
          clear hw9
          have S9 := Lib.hid (hb.size)
          have SE9 := Lib.hid hsz
          have B9 := Lib.hid (Below.tr B8.out hb)
          have Fsd_9 := Lib.hid (own_below Fsd_8.out hb)
          clear Fsd_8
          have Fsb_9 := Lib.hid (own_below Fsb_8.out hb)
          clear Fsb_8
          have Fw0_9 := Lib.hid (own_below Fw0_8.out hb)
          clear Fw0_8
          have Xad_9 := Lib.hid (Xad_8.out.below hb)
          clear Xad_8
          have Xab_9 := Lib.hid (Xab_8.out.below hb)
          clear Xab_8
          have Xw0_9 := Lib.hid hx
          clear hb hx hsz
          obtain ⟨qw, hq⟩ : ∃ q, w8.heap.size = q := ⟨_, rfl⟩
          have SQw : Hid (w8.heap.size = qw) := Lib.hid hq
          rw [hq] at Xw0_9 ⊢
          clear hq
          obtain ⟨zad0, zad1, zad2, _, _, _, zadl⟩ := blk_cells Xad_9.out
          obtain ⟨zab0, zab1, zab2, _, _, _, zabl⟩ := blk_cells Xab_9.out
          obtain ⟨zw00, zw01, zw02, _, _, _, zw0l⟩ := blk_cells Xw0_9.out
          refine hK.out _ _ ⟨zad0, zad1, zad2, zab0, zab1, zab2⟩ (fun hH3a => ?_)
          clear hK K hH3
          try simp only [Act.put, List.setIfInBounds_toArray, List.set_cons_zero, List.set_cons_succ]
          clear zad0 zad1 zad2 zadl
          clear zab0 zab1 zab2 zabl
          clear zw00 zw01 zw02 zw0l
          obtain ⟨zad0, zad1, zad2, _, _, _, zadl⟩ := blk_cells Xad_9.out
          obtain ⟨zab0, zab1, zab2, _, _, _, zabl⟩ := blk_cells Xab_9.out
          obtain ⟨zw00, zw01, zw02, _, _, _, zw0l⟩ := blk_cells Xw0_9.out
          refine wpAnyH_ready (rs := [9]) (by kernel_rfl) (by simp) ?_
          refine AllReadyH.cons rfl (fun K hK => ?_) AllReadyH.nil
          go_simp
          clear zad0 zad1 zad2 zadl
          clear zab0 zab1 zab2 zabl
          clear zw00 zw01 zw02 zw0l
          obtain ⟨w10, hw10⟩ : ∃ W, W = (((w9.setCell ⟨qw, 0, none⟩ (.int .i64 r0a)).setCell ⟨qw, 1, none⟩ (.slice Aw0 r0.length cw0)).setCell ⟨qw, 2, none⟩ (.int .i64 r0b)) := ⟨_, rfl⟩
          have hk : Kept w9 w10 (fun g => g = qw) := by rw [hw10]; exact lb_kept3 _ _ _ _ _
          have hx : Blk w10 qw 28 [.int .i64 r0a, .slice Aw0 r0.length cw0, .int .i64 r0b] := by rw [hw10]; exact lb_set3 Xw0_9.out _ _ _
          rw [← hw10]
          clear hw10
          have S10 := Lib.hid (hk.size)
          have B10 := Lib.hid (hk.below B9.out B9.out.size (fun i hi => by have : i = _ := hi; have := S1.out; have := SE1.out; have := S2.out; have := SE2.out; have := S3.out; have := S4.out; have := S5.out; have := S6.out; have := S7.out; have := S8.out; have := S9.out; have := SE9.out; have := SQw.out; have := S10.out; omega))
          have Fsd_10 := Lib.hid (hk.own3 Fsd_9.out (fun g h q => by have : g = _ := q; have := Psd.out g h; have := S1.out; have := SE1.out; have := S2.out; have := SE2.out; have := S3.out; have := S4.out; have := S5.out; have := S6.out; have := S7.out; have := S8.out; have := S9.out; have := SE9.out; have := SQw.out; have := S10.out; omega))
          clear Fsd_9
          have Fsb_10 := Lib.hid (hk.own3 Fsb_9.out (fun g h q => by have : g = _ := q; have := Psb.out g h; have := S1.out; have := SE1.out; have := S2.out; have := SE2.out; have := S3.out; have := S4.out; have := S5.out; have := S6.out; have := S7.out; have := S8.out; have := S9.out; have := SE9.out; have := SQw.out; have := S10.out; omega))
          clear Fsb_9
          have Fw0_10 := Lib.hid (hk.own3 Fw0_9.out (fun g h q => by have : g = _ := q; have := Pw0.out g h; have := S1.out; have := SE1.out; have := S2.out; have := SE2.out; have := S3.out; have := S4.out; have := S5.out; have := S6.out; have := S7.out; have := S8.out; have := S9.out; have := SE9.out; have := SQw.out; have := S10.out; omega))
          clear Fw0_9
          have Xad_10 := Lib.hid (hk.blk Xad_9.out (fun q => by have : _ = qw := q; have := Xad_9.out.lt; have := S1.out; have := SE1.out; have := S2.out; have := SE2.out; have := S3.out; have := S4.out; have := S5.out; have := S6.out; have := S7.out; have := S8.out; have := S9.out; have := SE9.out; have := SQw.out; have := S10.out; omega))
          clear Xad_9
          have Xab_10 := Lib.hid (hk.blk Xab_9.out (fun q => by have : _ = qw := q; have := Xab_9.out.lt; have := S1.out; have := SE1.out; have := S2.out; have := SE2.out; have := S3.out; have := S4.out; have := S5.out; have := S6.out; have := S7.out; have := S8.out; have := S9.out; have := SE9.out; have := SQw.out; have := S10.out; omega))
          clear Xab_9
          clear Xw0_9
          have Xw0_10 := Lib.hid hx
          clear hx hk
          obtain ⟨zad0, zad1, zad2, _, _, _, zadl⟩ := blk_cells Xad_10.out
          obtain ⟨zab0, zab1, zab2, _, _, _, zabl⟩ := blk_cells Xab_10.out
          obtain ⟨zw00, zw01, zw02, _, _, _, zw0l⟩ := blk_cells Xw0_10.out
          refine hK.out _ _ ⟨zad0, zad1, zad2, zab0, zab1, zab2⟩ (fun hH9 => ?_)
          clear hK K hH3a
          try simp only [Act.put, List.setIfInBounds_toArray, List.set_cons_zero, List.set_cons_succ]
          clear zad0 zad1 zad2 zadl
          clear zab0 zab1 zab2 zabl
          clear zw00 zw01 zw02 zw0l
          refine wpAnyH_take (i := 10) (v := ?_) rfl (by kernel_rfl) (by kernel_rfl) (by kernel_rfl) (fun _ _ _ h => h) (Or.inl ⟨by kernel_rfl, ?_⟩) (by assumption) ?_
          rotate_left
          · intro W hSw
            try dsimp only at hSw
            go_simp
            try with_reducible rfl
          simp only [Act.put, List.setIfInBounds_toArray]
          refine wpAnyH_done (by kernel_rfl) ?_ _
          clear hH9
          clear hK1
          go_simp
          exact key w10 gsd gsb qw Aw0 cw0 (Lib.hid (by have := S1.out; have := SE1.out; have := S2.out; have := SE2.out; have := S3.out; have := S4.out; have := S5.out; have := S6.out; have := S7.out; have := S8.out; have := S9.out; have := SE9.out; have := SQw.out; have := S10.out; omega)) B10 (Lib.hid (fun g h => by have := Pw0.out g h; have := S1.out; have := SE1.out; have := S2.out; have := SE2.out; have := S3.out; have := S4.out; have := S5.out; have := S6.out; have := S7.out; have := S8.out; have := S9.out; have := SE9.out; have := SQw.out; have := S10.out; omega)) (Lib.hid (own_baseN Fw0_10.out (by have := S1.out; have := SE1.out; have := S2.out; have := SE2.out; have := S3.out; have := S4.out; have := S5.out; have := S6.out; have := S7.out; have := S8.out; have := S9.out; have := SE9.out; have := SQw.out; have := S10.out; omega))) Xad_10 Xab_10 Xw0_10
        ·
          go_simp
          obtain ⟨w8, hw8⟩ : ∃ W, W = w7.alloc (.cells #[.int .i64 0, .slice none 0 0, .int .i64 0] 28) := ⟨_, rfl⟩
          have hb : Below w7.heap.size w7 w8 := by rw [hw8]; exact below1 _ _
          have hx : Blk w8 w7.heap.size 28 [.int .i64 0, .slice none 0 0, .int .i64 0] := by rw [hw8]; exact heap_alloc_new _ _
          have hsz : w8.heap.size = w7.heap.size + 1 := by rw [hw8]; simp
          rw [← hw8]
          clear hw8
          have S8 := Lib.hid (hb.size)
          have SE8 := Lib.hid hsz
          have B8 := Lib.hid (Below.tr B7.out hb)
          have Fsd_8 := Lib.hid (own_below Fsd_7.out hb)
          clear Fsd_7
          have Fsb_8 := Lib.hid (own_below Fsb_7.out hb)
          clear Fsb_7
          have Xad_8 := Lib.hid (Xad_7.out.below hb)
          clear Xad_7
          have Xab_8 := Lib.hid (Xab_7.out.below hb)
          clear Xab_7
          have Xw0_8 := Lib.hid hx
          clear hb hx hsz
          obtain ⟨qw, hq⟩ : ∃ q, w7.heap.size = q := ⟨_, rfl⟩
          have SQw : Hid (w7.heap.size = qw) := Lib.hid hq
          rw [hq] at Xw0_8 ⊢
          clear hq
          obtain ⟨zad0, zad1, zad2, _, _, _, zadl⟩ := blk_cells Xad_8.out
          obtain ⟨zab0, zab1, zab2, _, _, _, zabl⟩ := blk_cells Xab_8.out
          obtain ⟨zw00, zw01, zw02, _, _, _, zw0l⟩ := blk_cells Xw0_8.out
          refine hK.out _ _ ⟨zad0, zad1, zad2, zab0, zab1, zab2⟩ (fun hH2a => ?_)
          clear hK K hH2
          try simp only [Act.put, List.setIfInBounds_toArray, List.set_cons_zero, List.set_cons_succ]
          clear zad0 zad1 zad2 zadl
          clear zab0 zab1 zab2 zabl
          clear zw00 zw01 zw02 zw0l
          refine wpAnyH_ready (rs := [4]) (by kernel_rfl) (by simp) ?_
          refine AllReadyH.cons rfl (fun K hK => ?_) AllReadyH.nil
          go_simp
          refine (specBoth_any d0 d2 b0 b2 _ _ _ _ _ _ d b _ r0a r0 r0b r1 HR (Lib.hid (own_nlies HXd.out Fsd_8.out)) HXd hsd (Lib.hid (own_nlies HXb.out Fsb_8.out)) HXb hsb).mono ?_
          rintro e w9 ⟨Aw0, cw0, rfl, ho0, hb⟩
          have S9 := Lib.hid (hb.size)
          have B9 := Lib.hid (Below.tr B8.out hb)
          have Fsd_9 := Lib.hid (own_below Fsd_8.out hb)
          clear Fsd_8
          have Fsb_9 := Lib.hid (own_below Fsb_8.out hb)
          clear Fsb_8
          have Xad_9 := Lib.hid (Xad_8.out.below hb)
          clear Xad_8
          have Xab_9 := Lib.hid (Xab_8.out.below hb)
          clear Xab_8
          have Xw0_9 := Lib.hid (Xw0_8.out.below hb)
          clear Xw0_8
          have Fw0_9 := Lib.hid (ho0)
          have Pw0 : Hid (∀ g, (.slice Aw0 r0.length cw0 : Value).ownBlock = some g → w8.heap.size ≤ g ∧ g < w9.heap.size) := Lib.hid (fun g h => Fw0_9.out.lt g h)
          clear hb ho0
          obtain ⟨zad0, zad1, zad2, _, _, _, zadl⟩ := blk_cells Xad_9.out
          obtain ⟨zab0, zab1, zab2, _, _, _, zabl⟩ := blk_cells Xab_9.out
          obtain ⟨zw00, zw01, zw02, _, _, _, zw0l⟩ := blk_cells Xw0_9.out
          refine hK.out _ _ ⟨zad0, zad1, zad2, zab0, zab1, zab2⟩ (fun hH3a => ?_)
          clear hK K hH2a
          try simp only [Act.put, List.setIfInBounds_toArray, List.set_cons_zero, List.set_cons_succ]
          clear zad0 zad1 zad2 zadl
          clear zab0 zab1 zab2 zabl
          clear zw00 zw01 zw02 zw0l
          refine wpAnyH_take (i := 5) (v := ?_) rfl (by kernel_rfl) (by kernel_rfl) (by kernel_rfl) (fun _ _ _ h => h) (Or.inl ⟨by rfl, ?_⟩) (by assumption) ?_
          rotate_left
          · intro W hSw
            try dsimp only at hSw
            go_simp
            try with_reducible rfl
          simp only [Act.put, List.setIfInBounds_toArray]
          refine wpAnyH_take (i := 6) (v := ?_) rfl (by kernel_rfl) (by kernel_rfl) (by kernel_rfl) (fun _ _ _ h => h) (Or.inl ⟨by rfl, ?_⟩) (by assumption) ?_
          rotate_left
          · intro W hSw
            try dsimp only at hSw
            go_simp
            try with_reducible rfl
          simp only [Act.put]
          refine wpAnyH_take (i := 7) (v := ?_) rfl (by kernel_rfl) (by kernel_rfl) (by kernel_rfl) (fun _ _ _ h => h) (Or.inl ⟨by rfl, ?_⟩) (by assumption) ?_
          rotate_left
          · intro W hSw
            try dsimp only at hSw
            go_simp
            try with_reducible rfl
          simp only [Act.put]
          obtain ⟨zad0, zad1, zad2, _, _, _, zadl⟩ := blk_cells Xad_9.out
          obtain ⟨zab0, zab1, zab2, _, _, _, zabl⟩ := blk_cells Xab_9.out
          obtain ⟨zw00, zw01, zw02, _, _, _, zw0l⟩ := blk_cells Xw0_9.out
          refine wpAnyH_ready (rs := [9]) (by kernel_rfl) (by simp) ?_
          refine AllReadyH.cons rfl (fun K hK => ?_) AllReadyH.nil
          go_simp
          clear zad0 zad1 zad2 zadl
          clear zab0 zab1 zab2 zabl
          clear zw00 zw01 zw02 zw0l
          obtain ⟨w10, hw10⟩ : ∃ W, W = (((w9.setCell ⟨qw, 0, none⟩ (.int .i64 r0a)).setCell ⟨qw, 1, none⟩ (.slice Aw0 r0.length cw0)).setCell ⟨qw, 2, none⟩ (.int .i64 r0b)) := ⟨_, rfl⟩
          have hk : Kept w9 w10 (fun g => g = qw) := by rw [hw10]; exact lb_kept3 _ _ _ _ _
          have hx : Blk w10 qw 28 [.int .i64 r0a, .slice Aw0 r0.length cw0, .int .i64 r0b] := by rw [hw10]; exact lb_set3 Xw0_9.out _ _ _
          rw [← hw10]
          clear hw10
          have S10 := Lib.hid (hk.size)
          have B10 := Lib.hid (hk.below B9.out B9.out.size (fun i hi => by have : i = _ := hi; have := S1.out; have := SE1.out; have := S2.out; have := SE2.out; have := S3.out; have := S4.out; have := S5.out; have := S6.out; have := S7.out; have := S8.out; have := SE8.out; have := SQw.out; have := S9.out; have := S10.out; omega))
          have Fsd_10 := Lib.hid (hk.own3 Fsd_9.out (fun g h q => by have : g = _ := q; have := Psd.out g h; have := S1.out; have := SE1.out; have := S2.out; have := SE2.out; have := S3.out; have := S4.out; have := S5.out; have := S6.out; have := S7.out; have := S8.out; have := SE8.out; have := SQw.out; have := S9.out; have := S10.out; omega))
          clear Fsd_9
          have Fsb_10 := Lib.hid (hk.own3 Fsb_9.out (fun g h q => by have : g = _ := q; have := Psb.out g h; have := S1.out; have := SE1.out; have := S2.out; have := SE2.out; have := S3.out; have := S4.out; have := S5.out; have := S6.out; have := S7.out; have := S8.out; have := SE8.out; have := SQw.out; have := S9.out; have := S10.out; omega))
          clear Fsb_9
          have Fw0_10 := Lib.hid (hk.own3 Fw0_9.out (fun g h q => by have : g = _ := q; have := Pw0.out g h; have := S1.out; have := SE1.out; have := S2.out; have := SE2.out; have := S3.out; have := S4.out; have := S5.out; have := S6.out; have := S7.out; have := S8.out; have := SE8.out; have := SQw.out; have := S9.out; have := S10.out; omega))
          clear Fw0_9
          have Xad_10 := Lib.hid (hk.blk Xad_9.out (fun q => by have : _ = qw := q; have := Xad_9.out.lt; have := S1.out; have := SE1.out; have := S2.out; have := SE2.out; have := S3.out; have := S4.out; have := S5.out; have := S6.out; have := S7.out; have := S8.out; have := SE8.out; have := SQw.out; have := S9.out; have := S10.out; omega))
          clear Xad_9
          have Xab_10 := Lib.hid (hk.blk Xab_9.out (fun q => by have : _ = qw := q; have := Xab_9.out.lt; have := S1.out; have := SE1.out; have := S2.out; have := SE2.out; have := S3.out; have := S4.out; have := S5.out; have := S6.out; have := S7.out; have := S8.out; have := SE8.out; have := SQw.out; have := S9.out; have := S10.out; omega))
          clear Xab_9
          clear Xw0_9
          have Xw0_10 := Lib.hid hx
          clear hx hk
          obtain ⟨zad0, zad1, zad2, _, _, _, zadl⟩ := blk_cells Xad_10.out
          obtain ⟨zab0, zab1, zab2, _, _, _, zabl⟩ := blk_cells Xab_10.out
          obtain ⟨zw00, zw01, zw02, _, _, _, zw0l⟩ := blk_cells Xw0_10.out
          refine hK.out _ _ ⟨zad0, zad1, zad2, zab0, zab1, zab2⟩ (fun hH9 => ?_)
          clear hK K hH3a
          try simp only [Act.put, List.setIfInBounds_toArray, List.set_cons_zero, List.set_cons_succ]
          clear zad0 zad1 zad2 zadl
          clear zab0 zab1 zab2 zabl
          clear zw00 zw01 zw02 zw0l
          refine wpAnyH_take (i := 10) (v := ?_) rfl (by kernel_rfl) (by kernel_rfl) (by kernel_rfl) (fun _ _ _ h => h) (Or.inl ⟨by kernel_rfl, ?_⟩) (by assumption) ?_
          rotate_left
          · intro W hSw
            try dsimp only at hSw
            go_simp
            try with_reducible rfl
          simp only [Act.put, List.setIfInBounds_toArray]
          refine wpAnyH_done (by kernel_rfl) ?_ _
          clear hH9
          clear hK1
          go_simp
          exact key w10 gsd gsb qw Aw0 cw0 (Lib.hid (by have := S1.out; have := SE1.out; have := S2.out; have := SE2.out; have := S3.out; have := S4.out; have := S5.out; have := S6.out; have := S7.out; have := S8.out; have := SE8.out; have := SQw.out; have := S9.out; have := S10.out; omega)) B10 (Lib.hid (fun g h => by have := Pw0.out g h; have := S1.out; have := SE1.out; have := S2.out; have := SE2.out; have := S3.out; have := S4.out; have := S5.out; have := S6.out; have := S7.out; have := S8.out; have := SE8.out; have := SQw.out; have := S9.out; have := S10.out; omega)) (Lib.hid (own_baseN Fw0_10.out (by have := S1.out; have := SE1.out; have := S2.out; have := SE2.out; have := S3.out; have := S4.out; have := S5.out; have := S6.out; have := S7.out; have := S8.out; have := SE8.out; have := SQw.out; have := S9.out; have := S10.out; omega))) Xad_10 Xab_10 Xw0_10
      ·
        go_simp
        obtain ⟨w7, hw7⟩ : ∃ W, W = w6.alloc (.cells #[.int .i64 0, .slice none 0 0, .int .i64 0] 28) := ⟨_, rfl⟩
        have hb : Below w6.heap.size w6 w7 := by rw [hw7]; exact below1 _ _
        have hx : Blk w7 w6.heap.size 28 [.int .i64 0, .slice none 0 0, .int .i64 0] := by rw [hw7]; exact heap_alloc_new _ _
        have hsz : w7.heap.size = w6.heap.size + 1 := by rw [hw7]; simp
        rw [← hw7]
        clear hw7
        have S7 := Lib.hid (hb.size)
        have SE7 := Lib.hid hsz
        have B7 := Lib.hid (Below.tr B6.out hb)
        have Fsd_7 := Lib.hid (own_below Fsd_6.out hb)
        clear Fsd_6
        have Xad_7 := Lib.hid (Xad_6.out.below hb)
        clear Xad_6
        have Xab_7 := Lib.hid (Xab_6.out.below hb)
        clear Xab_6
        have Xw0_7 := Lib.hid hx
        clear hb hx hsz
        obtain ⟨qw, hq⟩ : ∃ q, w6.heap.size = q := ⟨_, rfl⟩
        have SQw : Hid (w6.heap.size = qw) := Lib.hid hq
        rw [hq] at Xw0_7 ⊢
        clear hq
        obtain ⟨zad0, zad1, zad2, _, _, _, zadl⟩ := blk_cells Xad_7.out
        obtain ⟨zab0, zab1, zab2, _, _, _, zabl⟩ := blk_cells Xab_7.out
        obtain ⟨zw00, zw01, zw02, _, _, _, zw0l⟩ := blk_cells Xw0_7.out
        refine hK.out _ _ ⟨zad0, zad1, zad2, zab0, zab1, zab2⟩ (fun hH1a => ?_)
        clear hK K hH1
        try simp only [Act.put, List.setIfInBounds_toArray, List.set_cons_zero, List.set_cons_succ]
        clear zad0 zad1 zad2 zadl
        clear zab0 zab1 zab2 zabl
        clear zw00 zw01 zw02 zw0l
        refine wpAnyH_ready (rs := [3]) (by kernel_rfl) (by simp) ?_
        refine AllReadyH.cons rfl (fun K hK => ?_) AllReadyH.nil
        go_simp
        refine (toDiagram_any b0 b2 _ _ _ b _ (Lib.hid (HLb.out.below B7.out)) HXb hsb).mono ?_
        rintro e w8 ⟨gsb, rfl, hge, kk, hb⟩
        have S8 := Lib.hid (hb.size)
        have B8 := Lib.hid (Below.tr B7.out hb)
        have Fsd_8 := Lib.hid (own_below Fsd_7.out hb)
        clear Fsd_7
        have Xad_8 := Lib.hid (Xad_7.out.below hb)
        clear Xad_7
        have Xab_8 := Lib.hid (Xab_7.out.below hb)
        clear Xab_7
        have Xw0_8 := Lib.hid (Xw0_7.out.below hb)
        clear Xw0_7
        have Fsb_8 := Lib.hid (own_baseN (own_of_nblk kk HXb.out hsb) hge)
        have Psb : Hid (∀ g, (.slice (some ⟨gsb, 0, none⟩) nb nb : Value).ownBlock = some g → w7.heap.size ≤ g ∧ g < w8.heap.size) := Lib.hid (fun g h => Fsb_8.out.lt g h)
        clear kk hb hge
        obtain ⟨zad0, zad1, zad2, _, _, _, zadl⟩ := blk_cells Xad_8.out
        obtain ⟨zab0, zab1, zab2, _, _, _, zabl⟩ := blk_cells Xab_8.out
        obtain ⟨zw00, zw01, zw02, _, _, _, zw0l⟩ := blk_cells Xw0_8.out
        refine hK.out _ _ ⟨zad0, zad1, zad2, zab0, zab1, zab2⟩ (fun hH2a => ?_)
        clear hK K hH1a
        try simp only [Act.put, List.setIfInBounds_toArray, List.set_cons_zero, List.set_cons_succ]
        clear zad0 zad1 zad2 zadl
        clear zab0 zab1 zab2 zabl
        clear zw00 zw01 zw02 zw0l
        refine wpAnyH_ready (rs := [4]) (by kernel_rfl) (by simp) ?_
        refine AllReadyH.cons rfl (fun K hK => ?_) AllReadyH.nil
        go_simp
        refine (specBoth_any d0 d2 b0 b2 _ _ _ _ _ _ d b _ r0a r0 r0b r1 HR (Lib.hid (own_nlies HXd.out Fsd_8.out)) HXd hsd (Lib.hid (own_nlies HXb.out Fsb_8.out)) HXb hsb).mono ?_
        rintro e w9 ⟨Aw0, cw0, rfl, ho0, hb⟩
        have S9 := Lib.hid (hb.size)
        have B9 := Lib.hid (Below.tr B8.out hb)
        have Fsd_9 := Lib.hid (own_below Fsd_8.out hb)
        clear Fsd_8
        have Fsb_9 := Lib.hid (own_below Fsb_8.out hb)
        clear Fsb_8
        have Xad_9 := Lib.hid (Xad_8.out.below hb)
        clear Xad_8
        have Xab_9 := Lib.hid (Xab_8.out.below hb)
        clear Xab_8
        have Xw0_9 := Lib.hid (Xw0_8.out.below hb)
        clear Xw0_8
        have Fw0_9 := Lib.hid (ho0)
        have Pw0 : Hid (∀ g, (.slice Aw0 r0.length cw0 : Value).ownBlock = some g → w8.heap.size ≤ g ∧ g < w9.heap.size) := Lib.hid (fun g h => Fw0_9.out.lt g h)
        clear hb ho0
        obtain ⟨zad0, zad1, zad2, _, _, _, zadl⟩ := blk_cells Xad_9.out
        obtain ⟨zab0, zab1, zab2, _, _, _, zabl⟩ := blk_cells Xab_9.out
        obtain ⟨zw00, zw01, zw02, _, _, _, zw0l⟩ := blk_cells Xw0_9.out
        refine hK.out _ _ ⟨zad0, zad1, zad2, zab0, zab1, zab2⟩ (fun hH3a => ?_)
        clear hK K hH2a
        try simp only [Act.put, List.setIfInBounds_toArray, List.set_cons_zero, List.set_cons_succ]
        clear zad0 zad1 zad2 zadl
        clear zab0 zab1 zab2 zabl
        clear zw00 zw01 zw02 zw0l
        refine wpAnyH_take (i := 5) (v := ?_) rfl (by kernel_rfl) (by kernel_rfl) (by kernel_rfl) (fun _ _ _ h => h) (Or.inl ⟨by rfl, ?_⟩) (by assumption) ?_
        rotate_left
        · intro W hSw
          try dsimp only at hSw
          go_simp
          try with_reducible rfl
        simp only [Act.put, List.setIfInBounds_toArray]
        refine wpAnyH_take (i := 6) (v := ?_) rfl (by kernel_rfl) (by kernel_rfl) (by kernel_rfl) (fun _ _ _ h => h) (Or.inl ⟨by rfl, ?_⟩) (by assumption) ?_
        rotate_left
        · intro W hSw
          try dsimp only at hSw
          go_simp
          try with_reducible rfl
        simp only [Act.put]
        refine wpAnyH_take (i := 7) (v := ?_) rfl (by kernel_rfl) (by kernel_rfl) (by kernel_rfl) (fun _ _ _ h => h) (Or.inl ⟨by rfl, ?_⟩) (by assumption) ?_
        rotate_left
        · intro W hSw
          try dsimp only at hSw
          go_simp
          try with_reducible rfl
        simp only [Act.put]
        obtain ⟨zad0, zad1, zad2, _, _, _, zadl⟩ := blk_cells Xad_9.out
        obtain ⟨zab0, zab1, zab2, _, _, _, zabl⟩ := blk_cells Xab_9.out
        obtain ⟨zw00, zw01, zw02, _, _, _, zw0l⟩ := blk_cells Xw0_9.out
        refine wpAnyH_ready (rs := [9]) (by kernel_rfl) (by simp) ?_
        refine AllReadyH.cons rfl (fun K hK => ?_) AllReadyH.nil
        go_simp
        clear zad0 zad1 zad2 zadl
        clear zab0 zab1 zab2 zabl
        clear zw00 zw01 zw02 zw0l
        obtain ⟨w10, hw10⟩ : ∃ W, W = (((w9.setCell ⟨qw, 0, none⟩ (.int .i64 r0a)).setCell ⟨qw, 1, none⟩ (.slice Aw0 r0.length cw0)).setCell ⟨qw, 2, none⟩ (.int .i64 r0b)) := ⟨_, rfl⟩
        have hk : Kept w9 w10 (fun g => g = qw) := by rw [hw10]; exact lb_kept3 _ _ _ _ _
        have hx : Blk w10 qw 28 [.int .i64 r0a, .slice Aw0 r0.length cw0, .int .i64 r0b] := by rw [hw10]; exact lb_set3 Xw0_9.out _ _ _
        rw [← hw10]
        clear hw10
        have S10 := Lib.hid (hk.size)
        have B10 := Lib.hid (hk.below B9.out B9.out.size (fun i hi => by have : i = _ := hi; have := S1.out; have := SE1.out; have := S2.out; have := SE2.out; have := S3.out; have := S4.out; have := S5.out; have := S6.out; have := S7.out; have := SE7.out; have := SQw.out; have := S8.out; have := S9.out; have := S10.out; omega))
        have Fsd_10 := Lib.hid (hk.own3 Fsd_9.out (fun g h q => by have : g = _ := q; have := Psd.out g h; have := S1.out; have := SE1.out; have := S2.out; have := SE2.out; have := S3.out; have := S4.out; have := S5.out; have := S6.out; have := S7.out; have := SE7.out; have := SQw.out; have := S8.out; have := S9.out; have := S10.out; omega))
        clear Fsd_9
        have Fsb_10 := Lib.hid (hk.own3 Fsb_9.out (fun g h q => by have : g = _ := q; have := Psb.out g h; have := S1.out; have := SE1.out; have := S2.out; have := SE2.out; have := S3.out; have := S4.out; have := S5.out; have := S6.out; have := S7.out; have := SE7.out; have := SQw.out; have := S8.out; have := S9.out; have := S10.out; omega))
        clear Fsb_9
        have Fw0_10 := Lib.hid (hk.own3 Fw0_9.out (fun g h q => by have : g = _ := q; have := Pw0.out g h; have := S1.out; have := SE1.out; have := S2.out; have := SE2.out; have := S3.out; have := S4.out; have := S5.out; have := S6.out; have := S7.out; have := SE7.out; have := SQw.out; have := S8.out; have := S9.out; have := S10.out; omega))
        clear Fw0_9
        have Xad_10 := Lib.hid (hk.blk Xad_9.out (fun q => by have : _ = qw := q; have := Xad_9.out.lt; have := S1.out; have := SE1.out; have := S2.out; have := SE2.out; have := S3.out; have := S4.out; have := S5.out; have := S6.out; have := S7.out; have := SE7.out; have := SQw.out; have := S8.out; have := S9.out; have := S10.out; omega))
        clear Xad_9
        have Xab_10 := Lib.hid (hk.blk Xab_9.out (fun q => by have : _ = qw := q; have := Xab_9.out.lt; have := S1.out; have := SE1.out; have := S2.out; have := SE2.out; have := S3.out; have := S4.out; have := S5.out; have := S6.out; have := S7.out; have := SE7.out; have := SQw.out; have := S8.out; have := S9.out; have := S10.out; omega))
        clear Xab_9
        clear Xw0_9
        have Xw0_10 := Lib.hid hx
        clear hx hk
        obtain ⟨zad0, zad1, zad2, _, _, _, zadl⟩ := blk_cells Xad_10.out
        obtain ⟨zab0, zab1, zab2, _, _, _, zabl⟩ := blk_cells Xab_10.out
        obtain ⟨zw00, zw01, zw02, _, _, _, zw0l⟩ := blk_cells Xw0_10.out
        refine hK.out _ _ ⟨zad0, zad1, zad2, zab0, zab1, zab2⟩ (fun hH9 => ?_)
        clear hK K hH3a
        try simp only [Act.put, List.setIfInBounds_toArray, List.set_cons_zero, List.set_cons_succ]
        clear zad0 zad1 zad2 zadl
        clear zab0 zab1 zab2 zabl
        clear zw00 zw01 zw02 zw0l
        refine wpAnyH_take (i := 10) (v := ?_) rfl (by kernel_rfl) (by kernel_rfl) (by kernel_rfl) (fun _ _ _ h => h) (Or.inl ⟨by kernel_rfl, ?_⟩) (by assumption) ?_
        rotate_left
        · intro W hSw
          try dsimp only at hSw
          go_simp
          try with_reducible rfl
        simp only [Act.put, List.setIfInBounds_toArray]
        refine wpAnyH_done (by kernel_rfl) ?_ _
        clear hH9
        clear hK1
        go_simp
        exact key w10 gsd gsb qw Aw0 cw0 (Lib.hid (by have := S1.out; have := SE1.out; have := S2.out; have := SE2.out; have := S3.out; have := S4.out; have := S5.out; have := S6.out; have := S7.out; have := SE7.out; have := SQw.out; have := S8.out; have := S9.out; have := S10.out; omega)) B10 (Lib.hid (fun g h => by have := Pw0.out g h; have := S1.out; have := SE1.out; have := S2.out; have := SE2.out; have := S3.out; have := S4.out; have := S5.out; have := S6.out; have := S7.out; have := SE7.out; have := SQw.out; have := S8.out; have := S9.out; have := S10.out; omega)) (Lib.hid (own_baseN Fw0_10.out (by have := S1.out; have := SE1.out; have := S2.out; have := SE2.out; have := S3.out; have := S4.out; have := S5.out; have := S6.out; have := S7.out; have := SE7.out; have := SQw.out; have := S8.out; have := S9.out; have := S10.out; omega))) Xad_10 Xab_10 Xw0_10
    ·
      go_simp
      obtain ⟨w6, hw6⟩ : ∃ W, W = w5.alloc (.cells #[.int .i64 0, .slice none 0 0, .int .i64 0] 28) := ⟨_, rfl⟩
      have hb : Below w5.heap.size w5 w6 := by rw [hw6]; exact below1 _ _
      have hx : Blk w6 w5.heap.size 28 [.int .i64 0, .slice none 0 0, .int .i64 0] := by rw [hw6]; exact heap_alloc_new _ _
      have hsz : w6.heap.size = w5.heap.size + 1 := by rw [hw6]; simp
      rw [← hw6]
      clear hw6
      have S6 := Lib.hid (hb.size)
      have SE6 := Lib.hid hsz
      have B6 := Lib.hid (Below.tr B5.out hb)
      have Xad_6 := Lib.hid (Xad_5.out.below hb)
      clear Xad_5
      have Xab_6 := Lib.hid (Xab_5.out.below hb)
      clear Xab_5
      have Xw0_6 := Lib.hid hx
      clear hb hx hsz
      obtain ⟨qw, hq⟩ : ∃ q, w5.heap.size = q := ⟨_, rfl⟩
      have SQw : Hid (w5.heap.size = qw) := Lib.hid hq
      rw [hq] at Xw0_6 ⊢
      clear hq
      obtain ⟨zad0, zad1, zad2, _, _, _, zadl⟩ := blk_cells Xad_6.out
      obtain ⟨zab0, zab1, zab2, _, _, _, zabl⟩ := blk_cells Xab_6.out
      obtain ⟨zw00, zw01, zw02, _, _, _, zw0l⟩ := blk_cells Xw0_6.out
      refine hK.out _ _ ⟨zad0, zad1, zad2, zab0, zab1, zab2⟩ (fun hH0a => ?_)
      clear hK K hHeld
      try simp only [Act.put, List.setIfInBounds_toArray, List.set_cons_zero, List.set_cons_succ]
      clear zad0 zad1 zad2 zadl
      clear zab0 zab1 zab2 zabl
      clear zw00 zw01 zw02 zw0l
      refine wpAnyH_ready (rs := [1]) (by kernel_rfl) (by simp) ?_
      refine AllReadyH.cons rfl (fun K hK => ?_) AllReadyH.nil
      go_simp
      refine (toDiagram_any d0 d2 _ _ _ d _ (Lib.hid (HLd.out.below B6.out)) HXd hsd).mono ?_
      rintro e w7 ⟨gsd, rfl, hge, kk, hb⟩
      have S7 := Lib.hid (hb.size)
      have B7 := Lib.hid (Below.tr B6.out hb)
      have Xad_7 := Lib.hid (Xad_6.out.below hb)
      clear Xad_6
      have Xab_7 := Lib.hid (Xab_6.out.below hb)
      clear Xab_6
      have Xw0_7 := Lib.hid (Xw0_6.out.below hb)
      clear Xw0_6
      have Fsd_7 := Lib.hid (own_baseN (own_of_nblk kk HXd.out hsd) hge)
      have Psd : Hid (∀ g, (.slice (some ⟨gsd, 0, none⟩) nd nd : Value).ownBlock = some g → w6.heap.size ≤ g ∧ g < w7.heap.size) := Lib.hid (fun g h => Fsd_7.out.lt g h)
      clear kk hb hge
      obtain ⟨zad0, zad1, zad2, _, _, _, zadl⟩ := blk_cells Xad_7.out
      obtain ⟨zab0, zab1, zab2, _, _, _, zabl⟩ := blk_cells Xab_7.out
      obtain ⟨zw00, zw01, zw02, _, _, _, zw0l⟩ := blk_cells Xw0_7.out
      refine hK.out _ _ ⟨zad0, zad1, zad2, zab0, zab1, zab2⟩ (fun hH1a => ?_)
      clear hK K hH0a
      try simp only [Act.put, List.setIfInBounds_toArray, List.set_cons_zero, List.set_cons_succ]
      clear zad0 zad1 zad2 zadl
      clear zab0 zab1 zab2 zabl
      clear zw00 zw01 zw02 zw0l
      refine wpAnyH_ready (rs := [3]) (by kernel_rfl) (by simp) ?_
      refine AllReadyH.cons rfl (fun K hK => ?_) AllReadyH.nil
      go_simp
      refine (toDiagram_any b0 b2 _ _ _ b _ (Lib.hid (HLb.out.below B7.out)) HXb hsb).mono ?_
      rintro e w8 ⟨gsb, rfl, hge, kk, hb⟩
      have S8 := Lib.hid (hb.size)
      have B8 := Lib.hid (Below.tr B7.out hb)
      have Fsd_8 := Lib.hid (own_below Fsd_7.out hb)
      clear Fsd_7
      have Xad_8 := Lib.hid (Xad_7.out.below hb)
      clear Xad_7
      have Xab_8 := Lib.hid (Xab_7.out.below hb)
      clear Xab_7
      have Xw0_8 := Lib.hid (Xw0_7.out.below hb)
      clear Xw0_7
      have Fsb_8 := Lib.hid (own_baseN (own_of_nblk kk HXb.out hsb) hge)
      have Psb : Hid (∀ g, (.slice (some ⟨gsb, 0, none⟩) nb nb : Value).ownBlock = some g → w7.heap.size ≤ g ∧ g < w8.heap.size) := Lib.hid (fun g h => Fsb_8.out.lt g h)
      clear kk hb hge
      obtain ⟨zad0, zad1, zad2, _, _, _, zadl⟩ := blk_cells Xad_8.out
      obtain ⟨zab0, zab1, zab2, _, _, _, zabl⟩ := blk_cells Xab_8.out
      obtain ⟨zw00, zw01, zw02, _, _, _, zw0l⟩ := blk_cells Xw0_8.out
      refine hK.out _ _ ⟨zad0, zad1, zad2, zab0, zab1, zab2⟩ (fun hH2a => ?_)
      clear hK K hH1a
      try simp only [Act.put, List.setIfInBounds_toArray, List.set_cons_zero, List.set_cons_succ]
      clear zad0 zad1 zad2 zadl
      clear zab0 zab1 zab2 zabl
      clear zw00 zw01 zw02 zw0l
      refine wpAnyH_ready (rs := [4]) (by kernel_rfl) (by simp) ?_
      refine AllReadyH.cons rfl (fun K hK => ?_) AllReadyH.nil
      go_simp
      refine (specBoth_any d0 d2 b0 b2 _ _ _ _ _ _ d b _ r0a r0 r0b r1 HR (Lib.hid (own_nlies HXd.out Fsd_8.out)) HXd hsd (Lib.hid (own_nlies HXb.out Fsb_8.out)) HXb hsb).mono ?_
      rintro e w9 ⟨Aw0, cw0, rfl, ho0, hb⟩
      have S9 := Lib.hid (hb.size)
      have B9 := Lib.hid (Below.tr B8.out hb)
      have Fsd_9 := Lib.hid (own_below Fsd_8.out hb)
      clear Fsd_8
      have Fsb_9 := Lib.hid (own_below Fsb_8.out hb)
      clear Fsb_8
      have Xad_9 := Lib.hid (Xad_8.out.below hb)
      clear Xad_8
      have Xab_9 := Lib.hid (Xab_8.out.below hb)
      clear Xab_8
      have Xw0_9 := Lib.hid (Xw0_8.out.below hb)
      clear Xw0_8
      have Fw0_9 := Lib.hid (ho0)
      have Pw0 : Hid (∀ g, (.slice Aw0 r0.length cw0 : Value).ownBlock = some g → w8.heap.size ≤ g ∧ g < w9.heap.size) := Lib.hid (fun g h => Fw0_9.out.lt g h)
      clear hb ho0
      obtain ⟨zad0, zad1, zad2, _, _, _, zadl⟩ := blk_cells Xad_9.out
      obtain ⟨zab0, zab1, zab2, _, _, _, zabl⟩ := blk_cells Xab_9.out
      obtain ⟨zw00, zw01, zw02, _, _, _, zw0l⟩ := blk_cells Xw0_9.out
      refine hK.out _ _ ⟨zad0, zad1, zad2, zab0, zab1, zab2⟩ (fun hH3a => ?_)
      clear hK K hH2a
      try simp only [Act.put, List.setIfInBounds_toArray, List.set_cons_zero, List.set_cons_succ]
      clear zad0 zad1 zad2 zadl
      clear zab0 zab1 zab2 zabl
      clear zw00 zw01 zw02 zw0l
      refine wpAnyH_take (i := 5) (v := ?_) rfl (by kernel_rfl) (by kernel_rfl) (by kernel_rfl) (fun _ _ _ h => h) (Or.inl ⟨by rfl, ?_⟩) (by assumption) ?_
      rotate_left
      · intro W hSw
        try dsimp only at hSw
        go_simp
        try with_reducible rfl
      simp only [Act.put, List.setIfInBounds_toArray]
      refine wpAnyH_take (i := 6) (v := ?_) rfl (by kernel_rfl) (by kernel_rfl) (by kernel_rfl) (fun _ _ _ h => h) (Or.inl ⟨by rfl, ?_⟩) (by assumption) ?_
      rotate_left
      · intro W hSw
        try dsimp only at hSw
        go_simp
        try with_reducible rfl
      simp only [Act.put]
      refine wpAnyH_take (i := 7) (v := ?_) rfl (by kernel_rfl) (by kernel_rfl) (by kernel_rfl) (fun _ _ _ h => h) (Or.inl ⟨by rfl, ?_⟩) (by assumption) ?_
      rotate_left
      · intro W hSw
        try dsimp only at hSw
        go_simp
        try with_reducible rfl
      simp only [Act.put]
      obtain ⟨zad0, zad1, zad2, _, _, _, zadl⟩ := blk_cells Xad_9.out
      obtain ⟨zab0, zab1, zab2, _, _, _, zabl⟩ := blk_cells Xab_9.out
      obtain ⟨zw00, zw01, zw02, _, _, _, zw0l⟩ := blk_cells Xw0_9.out
      refine wpAnyH_ready (rs := [9]) (by kernel_rfl) (by simp) ?_
      refine AllReadyH.cons rfl (fun K hK => ?_) AllReadyH.nil
      go_simp
      clear zad0 zad1 zad2 zadl
      clear zab0 zab1 zab2 zabl
      clear zw00 zw01 zw02 zw0l
      obtain ⟨w10, hw10⟩ : ∃ W, W = (((w9.setCell ⟨qw, 0, none⟩ (.int .i64 r0a)).setCell ⟨qw, 1, none⟩ (.slice Aw0 r0.length cw0)).setCell ⟨qw, 2, none⟩ (.int .i64 r0b)) := ⟨_, rfl⟩
      have hk : Kept w9 w10 (fun g => g = qw) := by rw [hw10]; exact lb_kept3 _ _ _ _ _
      have hx : Blk w10 qw 28 [.int .i64 r0a, .slice Aw0 r0.length cw0, .int .i64 r0b] := by rw [hw10]; exact lb_set3 Xw0_9.out _ _ _
      rw [← hw10]
      clear hw10
      have S10 := Lib.hid (hk.size)
      have B10 := Lib.hid (hk.below B9.out B9.out.size (fun i hi => by have : i = _ := hi; have := S1.out; have := SE1.out; have := S2.out; have := SE2.out; have := S3.out; have := S4.out; have := S5.out; have := S6.out; have := SE6.out; have := SQw.out; have := S7.out; have := S8.out; have := S9.out; have := S10.out; omega))
      have Fsd_10 := Lib.hid (hk.own3 Fsd_9.out (fun g h q => by have : g = _ := q; have := Psd.out g h; have := S1.out; have := SE1.out; have := S2.out; have := SE2.out; have := S3.out; have := S4.out; have := S5.out; have := S6.out; have := SE6.out; have := SQw.out; have := S7.out; have := S8.out; have := S9.out; have := S10.out; omega))
      clear Fsd_9
      have Fsb_10 := Lib.hid (hk.own3 Fsb_9.out (fun g h q => by have : g = _ := q; have := Psb.out g h; have := S1.out; have := SE1.out; have := S2.out; have := SE2.out; have := S3.out; have := S4.out; have := S5.out; have := S6.out; have := SE6.out; have := SQw.out; have := S7.out; have := S8.out; have := S9.out; have := S10.out; omega))
      clear Fsb_9
      have Fw0_10 := Lib.hid (hk.own3 Fw0_9.out (fun g h q => by have : g = _ := q; have := Pw0.out g h; have := S1.out; have := SE1.out; have := S2.out; have := SE2.out; have := S3.out; have := S4.out; have := S5.out; have := S6.out; have := SE6.out; have := SQw.out; have := S7.out; have := S8.out; have := S9.out; have := S10.out; omega))
      clear Fw0_9
      have Xad_10 := Lib.hid (hk.blk Xad_9.out (fun q => by have : _ = qw := q; have := Xad_9.out.lt; have := S1.out; have := SE1.out; have := S2.out; have := SE2.out; have := S3.out; have := S4.out; have := S5.out; have := S6.out; have := SE6.out; have := SQw.out; have := S7.out; have := S8.out; have := S9.out; have := S10.out; omega))
      clear Xad_9
      have Xab_10 := Lib.hid (hk.blk Xab_9.out (fun q => by have : _ = qw := q; have := Xab_9.out.lt; have := S1.out; have := SE1.out; have := S2.out; have := SE2.out; have := S3.out; have := S4.out; have := S5.out; have := S6.out; have := SE6.out; have := SQw.out; have := S7.out; have := S8.out; have := S9.out; have := S10.out; omega))
      clear Xab_9
      clear Xw0_9
      have Xw0_10 := Lib.hid hx
      clear hx hk
      obtain ⟨zad0, zad1, zad2, _, _, _, zadl⟩ := blk_cells Xad_10.out
      obtain ⟨zab0, zab1, zab2, _, _, _, zabl⟩ := blk_cells Xab_10.out
      obtain ⟨zw00, zw01, zw02, _, _, _, zw0l⟩ := blk_cells Xw0_10.out
      refine hK.out _ _ ⟨zad0, zad1, zad2, zab0, zab1, zab2⟩ (fun hH9 => ?_)
      clear hK K hH3a
      try simp only [Act.put, List.setIfInBounds_toArray, List.set_cons_zero, List.set_cons_succ]
      clear zad0 zad1 zad2 zadl
      clear zab0 zab1 zab2 zabl
      clear zw00 zw01 zw02 zw0l
      refine wpAnyH_take (i := 10) (v := ?_) rfl (by kernel_rfl) (by kernel_rfl) (by kernel_rfl) (fun _ _ _ h => h) (Or.inl ⟨by kernel_rfl, ?_⟩) (by assumption) ?_
      rotate_left
      · intro W hSw
        try dsimp only at hSw
        go_simp
        try with_reducible rfl
      simp only [Act.put, List.setIfInBounds_toArray]
      refine wpAnyH_done (by kernel_rfl) ?_ _
      clear hH9
      clear hK1
      go_simp
      exact key w10 gsd gsb qw Aw0 cw0 (Lib.hid (by have := S1.out; have := SE1.out; have := S2.out; have := SE2.out; have := S3.out; have := S4.out; have := S5.out; have := S6.out; have := SE6.out; have := SQw.out; have := S7.out; have := S8.out; have := S9.out; have := S10.out; omega)) B10 (Lib.hid (fun g h => by have := Pw0.out g h; have := S1.out; have := SE1.out; have := S2.out; have := SE2.out; have := S3.out; have := S4.out; have := S5.out; have := S6.out; have := SE6.out; have := SQw.out; have := S7.out; have := S8.out; have := S9.out; have := S10.out; omega)) (Lib.hid (own_baseN Fw0_10.out (by have := S1.out; have := SE1.out; have := S2.out; have := SE2.out; have := S3.out; have := S4.out; have := S5.out; have := S6.out; have := SE6.out; have := SQw.out; have := S7.out; have := S8.out; have := S9.out; have := S10.out; omega))) Xad_10 Xab_10 Xw0_10
  intro w20 gsd gsb qw Aw0 cw0 S20 B20 Pw0 Fw0_20 Xad_20 Xab_20 Xw0_20
  refine hK1 _ _ ?_
  clear hK1 K1
  have SQw := Lib.hid Xw0_20.out.lt
  obtain ⟨zad0, zad1, zad2, _, _, _, zadl⟩ := blk_cells Xad_20.out
  obtain ⟨zab0, zab1, zab2, _, _, _, zabl⟩ := blk_cells Xab_20.out
  obtain ⟨zw00, zw01, zw02, _, _, _, zw0l⟩ := blk_cells Xw0_20.out
  go_wp2_with fail
  clear zad0 zad1 zad2 zadl
  clear zab0 zab1 zab2 zabl
  clear zw00 zw01 zw02 zw0l
  refine (toDiagram_any d0 d2 _ _ _ d _ (Lib.hid (HLd.out.below B20.out)) HXd hsd).mono ?_
  rintro e w21 ⟨gxd, rfl, hge, kk, hb⟩
  have S21 := Lib.hid (hb.size)
  have B21 := Lib.hid (Below.tr B20.out hb)
  have Fw0_21 := Lib.hid (own_below Fw0_20.out hb)
  clear Fw0_20
  have Xad_21 := Lib.hid (Xad_20.out.below hb)
  clear Xad_20
  have Xab_21 := Lib.hid (Xab_20.out.below hb)
  clear Xab_20
  have Xw0_21 := Lib.hid (Xw0_20.out.below hb)
  clear Xw0_20
  have Fxd_21 := Lib.hid (own_baseN (own_of_nblk kk HXd.out hsd) hge)
  have Pxd : Hid (∀ g, (.slice (some ⟨gxd, 0, none⟩) nd nd : Value).ownBlock = some g → w20.heap.size ≤ g ∧ g < w21.heap.size) := Lib.hid (fun g h => Fxd_21.out.lt g h)
  clear kk hb hge
  obtain ⟨zad0, zad1, zad2, _, _, _, zadl⟩ := blk_cells Xad_21.out
  obtain ⟨zab0, zab1, zab2, _, _, _, zabl⟩ := blk_cells Xab_21.out
  obtain ⟨zw00, zw01, zw02, _, _, _, zw0l⟩ := blk_cells Xw0_21.out
  go_wp2_with fail
  clear zad0 zad1 zad2 zadl
  clear zab0 zab1 zab2 zabl
  clear zw00 zw01 zw02 zw0l
  obtain ⟨w22, hw22⟩ : ∃ W, W = w21.alloc (.cells #[.int .i64 d0, .slice (some ⟨gxd, 0, none⟩) nd nd, .int .i64 d2] 28) := ⟨_, rfl⟩
  have hb : Below w21.heap.size w21 w22 := by rw [hw22]; exact below1 _ _
  have hx : Blk w22 w21.heap.size 28 [.int .i64 d0, .slice (some ⟨gxd, 0, none⟩) nd nd, .int .i64 d2] := by rw [hw22]; exact heap_alloc_new _ _
  have hsz : w22.heap.size = w21.heap.size + 1 := by rw [hw22]; simp
  rw [← hw22]
  clear hw22
  have S22 := Lib.hid (hb.size)
  have SE22 := Lib.hid hsz
  have B22 := Lib.hid (Below.tr B21.out hb)
  have Fw0_22 := Lib.hid (own_below Fw0_21.out hb)
  clear Fw0_21
  have Fxd_22 := Lib.hid (own_below Fxd_21.out hb)
  clear Fxd_21
  have Xad_22 := Lib.hid (Xad_21.out.below hb)
  clear Xad_21
  have Xab_22 := Lib.hid (Xab_21.out.below hb)
  clear Xab_21
  have Xw0_22 := Lib.hid (Xw0_21.out.below hb)
  clear Xw0_21
  have Xxd_22 := Lib.hid hx
  clear hb hx hsz
  refine (toDiagram_any b0 b2 _ _ _ b _ (Lib.hid (HLb.out.below B22.out)) HXb hsb).mono ?_
  rintro e w23 ⟨gxb, rfl, hge, kk, hb⟩
  have S23 := Lib.hid (hb.size)
  have B23 := Lib.hid (Below.tr B22.out hb)
  have Fw0_23 := Lib.hid (own_below Fw0_22.out hb)
  clear Fw0_22
  have Fxd_23 := Lib.hid (own_below Fxd_22.out hb)
  clear Fxd_22
  have Xad_23 := Lib.hid (Xad_22.out.below hb)
  clear Xad_22
  have Xab_23 := Lib.hid (Xab_22.out.below hb)
  clear Xab_22
  have Xw0_23 := Lib.hid (Xw0_22.out.below hb)
  clear Xw0_22
  have Xxd_23 := Lib.hid (Xxd_22.out.below hb)
  clear Xxd_22
  have Fxb_23 := Lib.hid (own_baseN (own_of_nblk kk HXb.out hsb) hge)
  have Pxb : Hid (∀ g, (.slice (some ⟨gxb, 0, none⟩) nb nb : Value).ownBlock = some g → w22.heap.size ≤ g ∧ g < w23.heap.size) := Lib.hid (fun g h => Fxb_23.out.lt g h)
  clear kk hb hge
  obtain ⟨zad0, zad1, zad2, _, _, _, zadl⟩ := blk_cells Xad_23.out
  obtain ⟨zab0, zab1, zab2, _, _, _, zabl⟩ := blk_cells Xab_23.out
  obtain ⟨zw00, zw01, zw02, _, _, _, zw0l⟩ := blk_cells Xw0_23.out
  obtain ⟨zxd0, zxd1, zxd2, _, _, _, zxdl⟩ := blk_cells Xxd_23.out
  go_wp2_with fail
  clear zad0 zad1 zad2 zadl
  clear zab0 zab1 zab2 zabl
  clear zw00 zw01 zw02 zw0l
  clear zxd0 zxd1 zxd2 zxdl
  obtain ⟨w24, hw24⟩ : ∃ W, W = w23.alloc (.cells #[.int .i64 b0, .slice (some ⟨gxb, 0, none⟩) nb nb, .int .i64 b2] 28) := ⟨_, rfl⟩
  have hb : Below w23.heap.size w23 w24 := by rw [hw24]; exact below1 _ _
  have hx : Blk w24 w23.heap.size 28 [.int .i64 b0, .slice (some ⟨gxb, 0, none⟩) nb nb, .int .i64 b2] := by rw [hw24]; exact heap_alloc_new _ _
  have hsz : w24.heap.size = w23.heap.size + 1 := by rw [hw24]; simp
  rw [← hw24]
  clear hw24
  have S24 := Lib.hid (hb.size)
  have SE24 := Lib.hid hsz
  have B24 := Lib.hid (Below.tr B23.out hb)
  have Fw0_24 := Lib.hid (own_below Fw0_23.out hb)
  clear Fw0_23
  have Fxd_24 := Lib.hid (own_below Fxd_23.out hb)
  clear Fxd_23
  have Fxb_24 := Lib.hid (own_below Fxb_23.out hb)
  clear Fxb_23
  have Xad_24 := Lib.hid (Xad_23.out.below hb)
  clear Xad_23
  have Xab_24 := Lib.hid (Xab_23.out.below hb)
  clear Xab_23
  have Xw0_24 := Lib.hid (Xw0_23.out.below hb)
  clear Xw0_23
  have Xxd_24 := Lib.hid (Xxd_23.out.below hb)
  clear Xxd_23
  have Xxb_24 := Lib.hid hx
  clear hb hx hsz
  refine (implBoth_any d0 d2 b0 b2 _ _ _ _ _ _ d b _ r0a r0 r0b r1 HR (Lib.hid (own_nlies HXd.out Fxd_24.out)) HXd hsd (Lib.hid (own_nlies HXb.out Fxb_24.out)) HXb hsb).mono ?_
  rintro e w25 ⟨Ag0, cg0, rfl, ho0, hb⟩
  have S25 := Lib.hid (hb.size)
  have B25 := Lib.hid (Below.tr B24.out hb)
  have Fw0_25 := Lib.hid (own_below Fw0_24.out hb)
  clear Fw0_24
  have Fxd_25 := Lib.hid (own_below Fxd_24.out hb)
  clear Fxd_24
  have Fxb_25 := Lib.hid (own_below Fxb_24.out hb)
  clear Fxb_24
  have Xad_25 := Lib.hid (Xad_24.out.below hb)
  clear Xad_24
  have Xab_25 := Lib.hid (Xab_24.out.below hb)
  clear Xab_24
  have Xw0_25 := Lib.hid (Xw0_24.out.below hb)
  clear Xw0_24
  have Xxd_25 := Lib.hid (Xxd_24.out.below hb)
  clear Xxd_24
  have Xxb_25 := Lib.hid (Xxb_24.out.below hb)
  clear Xxb_24
  have Fg0_25 := Lib.hid (ho0)
  have Pg0 : Hid (∀ g, (.slice Ag0 r0.length cg0 : Value).ownBlock = some g → w24.heap.size ≤ g ∧ g < w25.heap.size) := Lib.hid (fun g h => Fg0_25.out.lt g h)
  clear hb ho0
  have hb1 : (r1 != r1) = false := by simp
  obtain ⟨zad0, zad1, zad2, _, _, _, zadl⟩ := blk_cells Xad_25.out
  obtain ⟨zab0, zab1, zab2, _, _, _, zabl⟩ := blk_cells Xab_25.out
  obtain ⟨zw00, zw01, zw02, _, _, _, zw0l⟩ := blk_cells Xw0_25.out
  obtain ⟨zxd0, zxd1, zxd2, _, _, _, zxdl⟩ := blk_cells Xxd_25.out
  obtain ⟨zxb0, zxb1, zxb2, _, _, _, zxbl⟩ := blk_cells Xxb_25.out
  go_wp2_with fail
  clear zad0 zad1 zad2 zadl
  clear zab0 zab1 zab2 zabl
  clear zw00 zw01 zw02 zw0l
  clear zxd0 zxd1 zxd2 zxdl
  clear zxb0 zxb1 zxb2 zxbl
  obtain ⟨w26, hw26⟩ : ∃ W, W = w25.alloc (.cells #[.int .i64 r0a, .slice Ag0 r0.length cg0, .int .i64 r0b] 28) := ⟨_, rfl⟩
  have hb : Below w25.heap.size w25 w26 := by rw [hw26]; exact below1 _ _
  have hx : Blk w26 w25.heap.size 28 [.int .i64 r0a, .slice Ag0 r0.length cg0, .int .i64 r0b] := by rw [hw26]; exact heap_alloc_new _ _
  have hsz : w26.heap.size = w25.heap.size + 1 := by rw [hw26]; simp
  rw [← hw26]
  clear hw26
  have S26 := Lib.hid (hb.size)
  have SE26 := Lib.hid hsz
  have B26 := Lib.hid (Below.tr B25.out hb)
  have Fw0_26 := Lib.hid (own_below Fw0_25.out hb)
  clear Fw0_25
  have Fxd_26 := Lib.hid (own_below Fxd_25.out hb)
  clear Fxd_25
  have Fxb_26 := Lib.hid (own_below Fxb_25.out hb)
  clear Fxb_25
  have Fg0_26 := Lib.hid (own_below Fg0_25.out hb)
  clear Fg0_25
  have Xad_26 := Lib.hid (Xad_25.out.below hb)
  clear Xad_25
  have Xab_26 := Lib.hid (Xab_25.out.below hb)
  clear Xab_25
  have Xw0_26 := Lib.hid (Xw0_25.out.below hb)
  clear Xw0_25
  have Xxd_26 := Lib.hid (Xxd_25.out.below hb)
  clear Xxd_25
  have Xxb_26 := Lib.hid (Xxb_25.out.below hb)
  clear Xxb_25
  have Xg0_26 := Lib.hid hx
  clear hb hx hsz
  refine (eqDiagram_same r0a r0b _ _ _ _ _ r0 _ (Lib.hid (own_nlies rfl Fg0_26.out)) (Lib.hid (own_nlies rfl Fw0_26.out)) (Lib.hid rfl) (by omega)).mono ?_
  rintro e w27 ⟨rfl, hb⟩
  have S27 := Lib.hid (hb.size)
  have B27 := Lib.hid (Below.tr B26.out hb)
  have Fw0_27 := Lib.hid (own_below Fw0_26.out hb)
  clear Fw0_26
  have Fxd_27 := Lib.hid (own_below Fxd_26.out hb)
  clear Fxd_26
  have Fxb_27 := Lib.hid (own_below Fxb_26.out hb)
  clear Fxb_26
  have Fg0_27 := Lib.hid (own_below Fg0_26.out hb)
  clear Fg0_26
  have Xad_27 := Lib.hid (Xad_26.out.below hb)
  clear Xad_26
  have Xab_27 := Lib.hid (Xab_26.out.below hb)
  clear Xab_26
  have Xw0_27 := Lib.hid (Xw0_26.out.below hb)
  clear Xw0_26
  have Xxd_27 := Lib.hid (Xxd_26.out.below hb)
  clear Xxd_26
  have Xxb_27 := Lib.hid (Xxb_26.out.below hb)
  clear Xxb_26
  have Xg0_27 := Lib.hid (Xg0_26.out.below hb)
  clear Xg0_26
  clear hb
  obtain ⟨zad0, zad1, zad2, _, _, _, zadl⟩ := blk_cells Xad_27.out
  obtain ⟨zab0, zab1, zab2, _, _, _, zabl⟩ := blk_cells Xab_27.out
  obtain ⟨zw00, zw01, zw02, _, _, _, zw0l⟩ := blk_cells Xw0_27.out
  obtain ⟨zxd0, zxd1, zxd2, _, _, _, zxdl⟩ := blk_cells Xxd_27.out
  obtain ⟨zxb0, zxb1, zxb2, _, _, _, zxbl⟩ := blk_cells Xxb_27.out
  obtain ⟨zg00, zg01, zg02, _, _, _, zg0l⟩ := blk_cells Xg0_27.out
  go_wp2_with fail
  clear zad0 zad1 zad2 zadl
  clear zab0 zab1 zab2 zabl
  clear zw00 zw01 zw02 zw0l
  clear zxd0 zxd1 zxd2 zxdl
  clear zxb0 zxb1 zxb2 zxbl
  clear zg00 zg01 zg02 zg0l
  obtain ⟨zad0, zad1, zad2, _, _, _, zadl⟩ := blk_cells Xad_27.out
  obtain ⟨zab0, zab1, zab2, _, _, _, zabl⟩ := blk_cells Xab_27.out
  obtain ⟨zw00, zw01, zw02, _, _, _, zw0l⟩ := blk_cells Xw0_27.out
  obtain ⟨zxd0, zxd1, zxd2, _, _, _, zxdl⟩ := blk_cells Xxd_27.out
  obtain ⟨zxb0, zxb1, zxb2, _, _, _, zxbl⟩ := blk_cells Xxb_27.out
  obtain ⟨zg00, zg01, zg02, _, _, _, zg0l⟩ := blk_cells Xg0_27.out
  refine wp_region_held_drew (S := fun W => W.cell? ⟨w21.heap.size, 0, none⟩ = some (.int .i64 d0) ∧ W.cell? ⟨w21.heap.size, 1, none⟩ = some (.slice (some ⟨gxd, 0, none⟩) nd nd) ∧ W.cell? ⟨w21.heap.size, 2, none⟩ = some (.int .i64 d2) ∧ W.cell? ⟨w.heap.size, 0, none⟩ = some (.int .i64 d0) ∧ W.cell? ⟨w.heap.size, 1, none⟩ = some (.slice Ad nd capd) ∧ W.cell? ⟨w.heap.size, 2, none⟩ = some (.int .i64 d2)) (by kernel_rfl) ?_ (fun hHeld => ?_)
  · exact ⟨zxd0, zxd1, zxd2, zad0, zad1, zad2⟩
  clear zad0 zad1 zad2 zadl
  clear zab0 zab1 zab2 zabl
  clear zw00 zw01 zw02 zw0l
  clear zxd0 zxd1 zxd2 zxdl
  clear zxb0 zxb1 zxb2 zxbl
  clear zg00 zg01 zg02 zg0l
  obtain ⟨w28, hw28⟩ : ∃ W, W = w27.drew := ⟨_, rfl⟩
  have hb : Below w27.heap.size w27 w28 := by rw [hw28]; exact (Below.refl _ _).drew
  rw [← hw28] at hHeld ⊢
  clear hw28
  have S28 := Lib.hid (hb.size)
  have B28 := Lib.hid (Below.tr B27.out hb)
  have Fw0_28 := Lib.hid (own_below Fw0_27.out hb)
  clear Fw0_27
  have Fxd_28 := Lib.hid (own_below Fxd_27.out hb)
  clear Fxd_27
  have Fxb_28 := Lib.hid (own_below Fxb_27.out hb)
  clear Fxb_27
  have Fg0_28 := Lib.hid (own_below Fg0_27.out hb)
  clear Fg0_27
  have Xad_28 := Lib.hid (Xad_27.out.below hb)
  clear Xad_27
  have Xab_28 := Lib.hid (Xab_27.out.below hb)
  clear Xab_27
  have Xw0_28 := Lib.hid (Xw0_27.out.below hb)
  clear Xw0_27
  have Xxd_28 := Lib.hid (Xxd_27.out.below hb)
  clear Xxd_27
  have Xxb_28 := Lib.hid (Xxb_27.out.below hb)
  clear Xxb_27
  have Xg0_28 := Lib.hid (Xg0_27.out.below hb)
  clear Xg0_27
  clear hb
  refine wpAnyH_take (i := 0) (v := ?_) rfl (by kernel_rfl) (by kernel_rfl) (by kernel_rfl) (fun _ _ _ h => h) (Or.inl ⟨by rfl, ?_⟩) (by assumption) ?_
  rotate_left
  · intro W hSw
    try dsimp only at hSw
    go_simp
    try with_reducible rfl
  simp only [Act.put, List.setIfInBounds_toArray]
  refine wpAnyH_take (i := 1) (v := ?_) rfl (by kernel_rfl) (by kernel_rfl) (by kernel_rfl) (fun _ _ _ h => h) (Or.inl ⟨by rfl, ?_⟩) (by assumption) ?_
  rotate_left
  · intro W hSw
    try dsimp only at hSw
    go_simp
    try with_reducible rfl
  simp only [Act.put]
  refine wpAnyH_ready (rs := [2]) (by kernel_rfl) (by simp) ?_
  refine AllReadyH.cons rfl (fun K hK => ?_) AllReadyH.nil
  go_simp
  refine (toDiagram_any d0 d2 _ _ _ d _ (Lib.hid (HLd.out.below B28.out)) HXd hsd).mono ?_
  rintro e w29 ⟨gcd, rfl, hge, kk, hb⟩
  have S29 := Lib.hid (hb.size)
  have B29 := Lib.hid (Below.tr B28.out hb)
  have Fw0_29 := Lib.hid (own_below Fw0_28.out hb)
  clear Fw0_28
  have Fxd_29 := Lib.hid (own_below Fxd_28.out hb)
  clear Fxd_28
  have Fxb_29 := Lib.hid (own_below Fxb_28.out hb)
  clear Fxb_28
  have Fg0_29 := Lib.hid (own_below Fg0_28.out hb)
  clear Fg0_28
  have Xad_29 := Lib.hid (Xad_28.out.below hb)
  clear Xad_28
  have Xab_29 := Lib.hid (Xab_28.out.below hb)
  clear Xab_28
  have Xw0_29 := Lib.hid (Xw0_28.out.below hb)
  clear Xw0_28
  have Xxd_29 := Lib.hid (Xxd_28.out.below hb)
  clear Xxd_28
  have Xxb_29 := Lib.hid (Xxb_28.out.below hb)
  clear Xxb_28
  have Xg0_29 := Lib.hid (Xg0_28.out.below hb)
  clear Xg0_28
  have Fcd_29 := Lib.hid (own_baseN (own_of_nblk kk HXd.out hsd) hge)
  have Pcd : Hid (∀ g, (.slice (some ⟨gcd, 0, none⟩) nd nd : Value).ownBlock = some g → w28.heap.size ≤ g ∧ g < w29.heap.size) := Lib.hid (fun g h => Fcd_29.out.lt g h)
  clear kk hb hge
  obtain ⟨zad0, zad1, zad2, _, _, _, zadl⟩ := blk_cells Xad_29.out
  obtain ⟨zab0, zab1, zab2, _, _, _, zabl⟩ := blk_cells Xab_29.out
  obtain ⟨zw00, zw01, zw02, _, _, _, zw0l⟩ := blk_cells Xw0_29.out
  obtain ⟨zxd0, zxd1, zxd2, _, _, _, zxdl⟩ := blk_cells Xxd_29.out
  obtain ⟨zxb0, zxb1, zxb2, _, _, _, zxbl⟩ := blk_cells Xxb_29.out
  obtain ⟨zg00, zg01, zg02, _, _, _, zg0l⟩ := blk_cells Xg0_29.out
  refine hK.out _ _ ⟨zxd0, zxd1, zxd2, zad0, zad1, zad2⟩ (fun hH1 => ?_)
  clear hK K hHeld
  try simp only [Act.put, List.setIfInBounds_toArray, List.set_cons_zero, List.set_cons_succ]
  clear zad0 zad1 zad2 zadl
  clear zab0 zab1 zab2 zabl
  clear zw00 zw01 zw02 zw0l
  clear zxd0 zxd1 zxd2 zxdl
  clear zxb0 zxb1 zxb2 zxbl
  clear zg00 zg01 zg02 zg0l
  refine wpAnyH_ready (rs := [3]) (by kernel_rfl) (by simp) ?_
  refine AllReadyH.cons rfl (fun K hK => ?_) AllReadyH.nil
  go_simp
  refine (eqDiagram_same d0 d2 _ _ _ _ _ d _ (Lib.hid (own_nlies HXd.out Fxd_29.out)) (Lib.hid (own_nlies HXd.out Fcd_29.out)) HXd (by omega)).mono ?_
  rintro e w30 ⟨rfl, hb⟩
  have S30 := Lib.hid (hb.size)
  have B30 := Lib.hid (Below.tr B29.out hb)
  have Fw0_30 := Lib.hid (own_below Fw0_29.out hb)
  clear Fw0_29
  have Fxd_30 := Lib.hid (own_below Fxd_29.out hb)
  clear Fxd_29
  have Fxb_30 := Lib.hid (own_below Fxb_29.out hb)
  clear Fxb_29
  have Fg0_30 := Lib.hid (own_below Fg0_29.out hb)
  clear Fg0_29
  have Fcd_30 := Lib.hid (own_below Fcd_29.out hb)
  clear Fcd_29
  have Xad_30 := Lib.hid (Xad_29.out.below hb)
  clear Xad_29
  have Xab_30 := Lib.hid (Xab_29.out.below hb)
  clear Xab_29
  have Xw0_30 := Lib.hid (Xw0_29.out.below hb)
  clear Xw0_29
  have Xxd_30 := Lib.hid (Xxd_29.out.below hb)
  clear Xxd_29
  have Xxb_30 := Lib.hid (Xxb_29.out.below hb)
  clear Xxb_29
  have Xg0_30 := Lib.hid (Xg0_29.out.below hb)
  clear Xg0_29
  clear hb
  clear Fcd_30
  obtain ⟨zad0, zad1, zad2, _, _, _, zadl⟩ := blk_cells Xad_30.out
  obtain ⟨zab0, zab1, zab2, _, _, _, zabl⟩ := blk_cells Xab_30.out
  obtain ⟨zw00, zw01, zw02, _, _, _, zw0l⟩ := blk_cells Xw0_30.out
  obtain ⟨zxd0, zxd1, zxd2, _, _, _, zxdl⟩ := blk_cells Xxd_30.out
  obtain ⟨zxb0, zxb1, zxb2, _, _, _, zxbl⟩ := blk_cells Xxb_30.out
  obtain ⟨zg00, zg01, zg02, _, _, _, zg0l⟩ := blk_cells Xg0_30.out
  refine hK.out _ _ ⟨zxd0, zxd1, zxd2, zad0, zad1, zad2⟩ (fun hH2 => ?_)
  clear hK K hH1
  try simp only [Act.put, List.setIfInBounds_toArray, List.set_cons_zero, List.set_cons_succ]
  clear zad0 zad1 zad2 zadl
  clear zab0 zab1 zab2 zabl
  clear zw00 zw01 zw02 zw0l
  clear zxd0 zxd1 zxd2 zxdl
  clear zxb0 zxb1 zxb2 zxbl
  clear zg00 zg01 zg02 zg0l
  refine wpAnyH_ready (rs := [4]) (by kernel_rfl) (by simp) ?_
  refine AllReadyH.cons rfl (fun K hK => ?_) AllReadyH.nil
  go_simp
  obtain ⟨zad0, zad1, zad2, _, _, _, zadl⟩ := blk_cells Xad_30.out
  obtain ⟨zab0, zab1, zab2, _, _, _, zabl⟩ := blk_cells Xab_30.out
  obtain ⟨zw00, zw01, zw02, _, _, _, zw0l⟩ := blk_cells Xw0_30.out
  obtain ⟨zxd0, zxd1, zxd2, _, _, _, zxdl⟩ := blk_cells Xxd_30.out
  obtain ⟨zxb0, zxb1, zxb2, _, _, _, zxbl⟩ := blk_cells Xxb_30.out
  obtain ⟨zg00, zg01, zg02, _, _, _, zg0l⟩ := blk_cells Xg0_30.out
  refine hK.out _ _ ⟨zxd0, zxd1, zxd2, zad0, zad1, zad2⟩ (fun hH3 => ?_)
  clear hK K hH2
  try simp only [Act.put, List.setIfInBounds_toArray, List.set_cons_zero, List.set_cons_succ]
  clear zad0 zad1 zad2 zadl
  clear zab0 zab1 zab2 zabl
  clear zw00 zw01 zw02 zw0l
  clear zxd0 zxd1 zxd2 zxdl
  clear zxb0 zxb1 zxb2 zxbl
  clear zg00 zg01 zg02 zg0l
  refine wpAnyH_done (by kernel_rfl) ?_ _
  clear hH3
  obtain ⟨zad0, zad1, zad2, _, _, _, zadl⟩ := blk_cells Xad_30.out
  obtain ⟨zab0, zab1, zab2, _, _, _, zabl⟩ := blk_cells Xab_30.out
  obtain ⟨zw00, zw01, zw02, _, _, _, zw0l⟩ := blk_cells Xw0_30.out
  obtain ⟨zxd0, zxd1, zxd2, _, _, _, zxdl⟩ := blk_cells Xxd_30.out
  obtain ⟨zxb0, zxb1, zxb2, _, _, _, zxbl⟩ := blk_cells Xxb_30.out
  obtain ⟨zg00, zg01, zg02, _, _, _, zg0l⟩ := blk_cells Xg0_30.out
  go_wp2_with fail
  clear zad0 zad1 zad2 zadl
  clear zab0 zab1 zab2 zabl
  clear zw00 zw01 zw02 zw0l
  clear zxd0 zxd1 zxd2 zxdl
  clear zxb0 zxb1 zxb2 zxbl
  clear zg00 zg01 zg02 zg0l
  obtain ⟨zad0, zad1, zad2, _, _, _, zadl⟩ := blk_cells Xad_30.out
  obtain ⟨zab0, zab1, zab2, _, _, _, zabl⟩ := blk_cells Xab_30.out
  obtain ⟨zw00, zw01, zw02, _, _, _, zw0l⟩ := blk_cells Xw0_30.out
  obtain ⟨zxd0, zxd1, zxd2, _, _, _, zxdl⟩ := blk_cells Xxd_30.out
  obtain ⟨zxb0, zxb1, zxb2, _, _, _, zxbl⟩ := blk_cells Xxb_30.out
  obtain ⟨zg00, zg01, zg02, _, _, _, zg0l⟩ := blk_cells Xg0_30.out
  refine wp_region_held_drew (S := fun W => W.cell? ⟨w23.heap.size, 0, none⟩ = some (.int .i64 b0) ∧ W.cell? ⟨w23.heap.size, 1, none⟩ = some (.slice (some ⟨gxb, 0, none⟩) nb nb) ∧ W.cell? ⟨w23.heap.size, 2, none⟩ = some (.int .i64 b2) ∧ W.cell? ⟨w.heap.size + 1, 0, none⟩ = some (.int .i64 b0) ∧ W.cell? ⟨w.heap.size + 1, 1, none⟩ = some (.slice Ab nb capb) ∧ W.cell? ⟨w.heap.size + 1, 2, none⟩ = some (.int .i64 b2)) (by kernel_rfl) ?_ (fun hHeld => ?_)
  · exact ⟨zxb0, zxb1, zxb2, zab0, zab1, zab2⟩
  clear zad0 zad1 zad2 zadl
  clear zab0 zab1 zab2 zabl
  clear zw00 zw01 zw02 zw0l
  clear zxd0 zxd1 zxd2 zxdl
  clear zxb0 zxb1 zxb2 zxbl
  clear zg00 zg01 zg02 zg0l
  obtain ⟨w31, hw31⟩ : ∃ W, W = w30.drew := ⟨_, rfl⟩
  have hb : Below w30.heap.size w30 w31 := by rw [hw31]; exact (Below.refl _ _).drew
  rw [← hw31] at hHeld ⊢
  clear hw31
  have S31 := Lib.hid (hb.size)
  have B31 := Lib.hid (Below.tr B30.out hb)
  have Fw0_31 := Lib.hid (own_below Fw0_30.out hb)
  clear Fw0_30
  have Fxd_31 := Lib.hid (own_below Fxd_30.out hb)
  clear Fxd_30
  have Fxb_31 := Lib.hid (own_below Fxb_30.out hb)
  clear Fxb_30
  have Fg0_31 := Lib.hid (own_below Fg0_30.out hb)
  clear Fg0_30
  have Xad_31 := Lib.hid (Xad_30.out.below hb)
  clear Xad_30
  have Xab_31 := Lib.hid (Xab_30.out.below hb)
  clear Xab_30
  have Xw0_31 := Lib.hid (Xw0_30.out.below hb)
  clear Xw0_30
  have Xxd_31 := Lib.hid (Xxd_30.out.below hb)
  clear Xxd_30
  have Xxb_31 := Lib.hid (Xxb_30.out.below hb)
  clear Xxb_30
  have Xg0_31 := Lib.hid (Xg0_30.out.below hb)
  clear Xg0_30
  clear hb
  refine wpAnyH_take (i := 0) (v := ?_) rfl (by kernel_rfl) (by kernel_rfl) (by kernel_rfl) (fun _ _ _ h => h) (Or.inl ⟨by rfl, ?_⟩) (by assumption) ?_
  rotate_left
  · intro W hSw
    try dsimp only at hSw
    go_simp
    try with_reducible rfl
  simp only [Act.put, List.setIfInBounds_toArray]
  refine wpAnyH_take (i := 1) (v := ?_) rfl (by kernel_rfl) (by kernel_rfl) (by kernel_rfl) (fun _ _ _ h => h) (Or.inl ⟨by rfl, ?_⟩) (by assumption) ?_
  rotate_left
  · intro W hSw
    try dsimp only at hSw
    go_simp
    try with_reducible rfl
  simp only [Act.put]
  refine wpAnyH_ready (rs := [2]) (by kernel_rfl) (by simp) ?_
  refine AllReadyH.cons rfl (fun K hK => ?_) AllReadyH.nil
  go_simp
  refine (toDiagram_any b0 b2 _ _ _ b _ (Lib.hid (HLb.out.below B31.out)) HXb hsb).mono ?_
  rintro e w32 ⟨gcb, rfl, hge, kk, hb⟩
  have S32 := Lib.hid (hb.size)
  have B32 := Lib.hid (Below.tr B31.out hb)
  have Fw0_32 := Lib.hid (own_below Fw0_31.out hb)
  clear Fw0_31
  have Fxd_32 := Lib.hid (own_below Fxd_31.out hb)
  clear Fxd_31
  have Fxb_32 := Lib.hid (own_below Fxb_31.out hb)
  clear Fxb_31
  have Fg0_32 := Lib.hid (own_below Fg0_31.out hb)
  clear Fg0_31
  have Xad_32 := Lib.hid (Xad_31.out.below hb)
  clear Xad_31
  have Xab_32 := Lib.hid (Xab_31.out.below hb)
  clear Xab_31
  have Xw0_32 := Lib.hid (Xw0_31.out.below hb)
  clear Xw0_31
  have Xxd_32 := Lib.hid (Xxd_31.out.below hb)
  clear Xxd_31
  have Xxb_32 := Lib.hid (Xxb_31.out.below hb)
  clear Xxb_31
  have Xg0_32 := Lib.hid (Xg0_31.out.below hb)
  clear Xg0_31
  have Fcb_32 := Lib.hid (own_baseN (own_of_nblk kk HXb.out hsb) hge)
  have Pcb : Hid (∀ g, (.slice (some ⟨gcb, 0, none⟩) nb nb : Value).ownBlock = some g → w31.heap.size ≤ g ∧ g < w32.heap.size) := Lib.hid (fun g h => Fcb_32.out.lt g h)
  clear kk hb hge
  obtain ⟨zad0, zad1, zad2, _, _, _, zadl⟩ := blk_cells Xad_32.out
  obtain ⟨zab0, zab1, zab2, _, _, _, zabl⟩ := blk_cells Xab_32.out
  obtain ⟨zw00, zw01, zw02, _, _, _, zw0l⟩ := blk_cells Xw0_32.out
  obtain ⟨zxd0, zxd1, zxd2, _, _, _, zxdl⟩ := blk_cells Xxd_32.out
  obtain ⟨zxb0, zxb1, zxb2, _, _, _, zxbl⟩ := blk_cells Xxb_32.out
  obtain ⟨zg00, zg01, zg02, _, _, _, zg0l⟩ := blk_cells Xg0_32.out
  refine hK.out _ _ ⟨zxb0, zxb1, zxb2, zab0, zab1, zab2⟩ (fun hH1 => ?_)
  clear hK K hHeld
  try simp only [Act.put, List.setIfInBounds_toArray, List.set_cons_zero, List.set_cons_succ]
  clear zad0 zad1 zad2 zadl
  clear zab0 zab1 zab2 zabl
  clear zw00 zw01 zw02 zw0l
  clear zxd0 zxd1 zxd2 zxdl
  clear zxb0 zxb1 zxb2 zxbl
  clear zg00 zg01 zg02 zg0l
  refine wpAnyH_ready (rs := [3]) (by kernel_rfl) (by simp) ?_
  refine AllReadyH.cons rfl (fun K hK => ?_) AllReadyH.nil
  go_simp
  refine (eqDiagram_same b0 b2 _ _ _ _ _ b _ (Lib.hid (own_nlies HXb.out Fxb_32.out)) (Lib.hid (own_nlies HXb.out Fcb_32.out)) HXb (by omega)).mono ?_
  rintro e w33 ⟨rfl, hb⟩
  have S33 := Lib.hid (hb.size)
  have B33 := Lib.hid (Below.tr B32.out hb)
  have Fw0_33 := Lib.hid (own_below Fw0_32.out hb)
  clear Fw0_32
  have Fxd_33 := Lib.hid (own_below Fxd_32.out hb)
  clear Fxd_32
  have Fxb_33 := Lib.hid (own_below Fxb_32.out hb)
  clear Fxb_32
  have Fg0_33 := Lib.hid (own_below Fg0_32.out hb)
  clear Fg0_32
  have Fcb_33 := Lib.hid (own_below Fcb_32.out hb)
  clear Fcb_32
  have Xad_33 := Lib.hid (Xad_32.out.below hb)
  clear Xad_32
  have Xab_33 := Lib.hid (Xab_32.out.below hb)
  clear Xab_32
  have Xw0_33 := Lib.hid (Xw0_32.out.below hb)
  clear Xw0_32
  have Xxd_33 := Lib.hid (Xxd_32.out.below hb)
  clear Xxd_32
  have Xxb_33 := Lib.hid (Xxb_32.out.below hb)
  clear Xxb_32
  have Xg0_33 := Lib.hid (Xg0_32.out.below hb)
  clear Xg0_32
  clear hb
  clear Fcb_33
  obtain ⟨zad0, zad1, zad2, _, _, _, zadl⟩ := blk_cells Xad_33.out
  obtain ⟨zab0, zab1, zab2, _, _, _, zabl⟩ := blk_cells Xab_33.out
  obtain ⟨zw00, zw01, zw02, _, _, _, zw0l⟩ := blk_cells Xw0_33.out
  obtain ⟨zxd0, zxd1, zxd2, _, _, _, zxdl⟩ := blk_cells Xxd_33.out
  obtain ⟨zxb0, zxb1, zxb2, _, _, _, zxbl⟩ := blk_cells Xxb_33.out
  obtain ⟨zg00, zg01, zg02, _, _, _, zg0l⟩ := blk_cells Xg0_33.out
  refine hK.out _ _ ⟨zxb0, zxb1, zxb2, zab0, zab1, zab2⟩ (fun hH2 => ?_)
  clear hK K hH1
  try simp only [Act.put, List.setIfInBounds_toArray, List.set_cons_zero, List.set_cons_succ]
  clear zad0 zad1 zad2 zadl
  clear zab0 zab1 zab2 zabl
  clear zw00 zw01 zw02 zw0l
  clear zxd0 zxd1 zxd2 zxdl
  clear zxb0 zxb1 zxb2 zxbl
  clear zg00 zg01 zg02 zg0l
  refine wpAnyH_ready (rs := [4]) (by kernel_rfl) (by simp) ?_
  refine AllReadyH.cons rfl (fun K hK => ?_) AllReadyH.nil
  go_simp
  obtain ⟨zad0, zad1, zad2, _, _, _, zadl⟩ := blk_cells Xad_33.out
  obtain ⟨zab0, zab1, zab2, _, _, _, zabl⟩ := blk_cells Xab_33.out
  obtain ⟨zw00, zw01, zw02, _, _, _, zw0l⟩ := blk_cells Xw0_33.out
  obtain ⟨zxd0, zxd1, zxd2, _, _, _, zxdl⟩ := blk_cells Xxd_33.out
  obtain ⟨zxb0, zxb1, zxb2, _, _, _, zxbl⟩ := blk_cells Xxb_33.out
  obtain ⟨zg00, zg01, zg02, _, _, _, zg0l⟩ := blk_cells Xg0_33.out
  refine hK.out _ _ ⟨zxb0, zxb1, zxb2, zab0, zab1, zab2⟩ (fun hH3 => ?_)
  clear hK K hH2
  try simp only [Act.put, List.setIfInBounds_toArray, List.set_cons_zero, List.set_cons_succ]
  clear zad0 zad1 zad2 zadl
  clear zab0 zab1 zab2 zabl
  clear zw00 zw01 zw02 zw0l
  clear zxd0 zxd1 zxd2 zxdl
  clear zxb0 zxb1 zxb2 zxbl
  clear zg00 zg01 zg02 zg0l
  refine wpAnyH_done (by kernel_rfl) ?_ _
  clear hH3
  obtain ⟨zad0, zad1, zad2, _, _, _, zadl⟩ := blk_cells Xad_33.out
  obtain ⟨zab0, zab1, zab2, _, _, _, zabl⟩ := blk_cells Xab_33.out
  obtain ⟨zw00, zw01, zw02, _, _, _, zw0l⟩ := blk_cells Xw0_33.out
  obtain ⟨zxd0, zxd1, zxd2, _, _, _, zxdl⟩ := blk_cells Xxd_33.out
  obtain ⟨zxb0, zxb1, zxb2, _, _, _, zxbl⟩ := blk_cells Xxb_33.out
  obtain ⟨zg00, zg01, zg02, _, _, _, zg0l⟩ := blk_cells Xg0_33.out
  go_wp2_with fail
  clear zad0 zad1 zad2 zadl
  clear zab0 zab1 zab2 zabl
  clear zw00 zw01 zw02 zw0l
  clear zxd0 zxd1 zxd2 zxdl
  clear zxb0 zxb1 zxb2 zxbl
  clear zg00 zg01 zg02 zg0l
  refine (markDiagram_any d0 d2 _ _ _ _ (ncells d) (1) _ Fxd_33 (by omega) (by omega)).mono ?_
  rintro e w34 ⟨rfl, ho, hg⟩
  have hk := Kept.of_grown (S := fun g => (.slice (some ⟨gxd, 0, none⟩) nd nd : Value).ownBlock = some g) hg (fun g h => h)
  clear hg
  have S34 := Lib.hid (hk.size)
  have B34 := Lib.hid (hk.below B33.out B33.out.size (fun i hi => by have := Pxd.out i hi; have := S1.out; have := SE1.out; have := S2.out; have := SE2.out; have := S3.out; have := S4.out; have := S20.out; have := SQw.out; have := S21.out; have := S22.out; have := SE22.out; have := S23.out; have := S24.out; have := SE24.out; have := S25.out; have := S26.out; have := SE26.out; have := S27.out; have := S28.out; have := S29.out; have := S30.out; have := S31.out; have := S32.out; have := S33.out; have := S34.out; omega))
  have Fw0_34 := Lib.hid (hk.own3 Fw0_33.out (fun g h q => by have := Pxd.out g q; have := Pw0.out g h; have := S1.out; have := SE1.out; have := S2.out; have := SE2.out; have := S3.out; have := S4.out; have := S20.out; have := SQw.out; have := S21.out; have := S22.out; have := SE22.out; have := S23.out; have := S24.out; have := SE24.out; have := S25.out; have := S26.out; have := SE26.out; have := S27.out; have := S28.out; have := S29.out; have := S30.out; have := S31.out; have := S32.out; have := S33.out; have := S34.out; omega))
  clear Fw0_33
  have Fxb_34 := Lib.hid (hk.own3 Fxb_33.out (fun g h q => by have := Pxd.out g q; have := Pxb.out g h; have := S1.out; have := SE1.out; have := S2.out; have := SE2.out; have := S3.out; have := S4.out; have := S20.out; have := SQw.out; have := S21.out; have := S22.out; have := SE22.out; have := S23.out; have := S24.out; have := SE24.out; have := S25.out; have := S26.out; have := SE26.out; have := S27.out; have := S28.out; have := S29.out; have := S30.out; have := S31.out; have := S32.out; have := S33.out; have := S34.out; omega))
  clear Fxb_33
  have Fg0_34 := Lib.hid (hk.own3 Fg0_33.out (fun g h q => by have := Pxd.out g q; have := Pg0.out g h; have := S1.out; have := SE1.out; have := S2.out; have := SE2.out; have := S3.out; have := S4.out; have := S20.out; have := SQw.out; have := S21.out; have := S22.out; have := SE22.out; have := S23.out; have := S24.out; have := SE24.out; have := S25.out; have := S26.out; have := SE26.out; have := S27.out; have := S28.out; have := S29.out; have := S30.out; have := S31.out; have := S32.out; have := S33.out; have := S34.out; omega))
  clear Fg0_33
  have Xad_34 := Lib.hid (hk.blk Xad_33.out (fun q => by have := Pxd.out _ q; have := Xad_33.out.lt; have := S1.out; have := SE1.out; have := S2.out; have := SE2.out; have := S3.out; have := S4.out; have := S20.out; have := SQw.out; have := S21.out; have := S22.out; have := SE22.out; have := S23.out; have := S24.out; have := SE24.out; have := S25.out; have := S26.out; have := SE26.out; have := S27.out; have := S28.out; have := S29.out; have := S30.out; have := S31.out; have := S32.out; have := S33.out; have := S34.out; omega))
  clear Xad_33
  have Xab_34 := Lib.hid (hk.blk Xab_33.out (fun q => by have := Pxd.out _ q; have := Xab_33.out.lt; have := S1.out; have := SE1.out; have := S2.out; have := SE2.out; have := S3.out; have := S4.out; have := S20.out; have := SQw.out; have := S21.out; have := S22.out; have := SE22.out; have := S23.out; have := S24.out; have := SE24.out; have := S25.out; have := S26.out; have := SE26.out; have := S27.out; have := S28.out; have := S29.out; have := S30.out; have := S31.out; have := S32.out; have := S33.out; have := S34.out; omega))
  clear Xab_33
  have Xw0_34 := Lib.hid (hk.blk Xw0_33.out (fun q => by have := Pxd.out _ q; have := Xw0_33.out.lt; have := S1.out; have := SE1.out; have := S2.out; have := SE2.out; have := S3.out; have := S4.out; have := S20.out; have := SQw.out; have := S21.out; have := S22.out; have := SE22.out; have := S23.out; have := S24.out; have := SE24.out; have := S25.out; have := S26.out; have := SE26.out; have := S27.out; have := S28.out; have := S29.out; have := S30.out; have := S31.out; have := S32.out; have := S33.out; have := S34.out; omega))
  clear Xw0_33
  have Xxd_34 := Lib.hid (hk.blk Xxd_33.out (fun q => by have := Pxd.out _ q; have := Xxd_33.out.lt; have := S1.out; have := SE1.out; have := S2.out; have := SE2.out; have := S3.out; have := S4.out; have := S20.out; have := SQw.out; have := S21.out; have := S22.out; have := SE22.out; have := S23.out; have := S24.out; have := SE24.out; have := S25.out; have := S26.out; have := SE26.out; have := S27.out; have := S28.out; have := S29.out; have := S30.out; have := S31.out; have := S32.out; have := S33.out; have := S34.out; omega))
  clear Xxd_33
  have Xxb_34 := Lib.hid (hk.blk Xxb_33.out (fun q => by have := Pxd.out _ q; have := Xxb_33.out.lt; have := S1.out; have := SE1.out; have := S2.out; have := SE2.out; have := S3.out; have := S4.out; have := S20.out; have := SQw.out; have := S21.out; have := S22.out; have := SE22.out; have := S23.out; have := S24.out; have := SE24.out; have := S25.out; have := S26.out; have := SE26.out; have := S27.out; have := S28.out; have := S29.out; have := S30.out; have := S31.out; have := S32.out; have := S33.out; have := S34.out; omega))
  clear Xxb_33
  have Xg0_34 := Lib.hid (hk.blk Xg0_33.out (fun q => by have := Pxd.out _ q; have := Xg0_33.out.lt; have := S1.out; have := SE1.out; have := S2.out; have := SE2.out; have := S3.out; have := S4.out; have := S20.out; have := SQw.out; have := S21.out; have := S22.out; have := SE22.out; have := S23.out; have := S24.out; have := SE24.out; have := S25.out; have := S26.out; have := SE26.out; have := S27.out; have := S28.out; have := S29.out; have := S30.out; have := S31.out; have := S32.out; have := S33.out; have := S34.out; omega))
  clear Xg0_33
  clear ho hk
  clear Fxd_33
  obtain ⟨zad0, zad1, zad2, _, _, _, zadl⟩ := blk_cells Xad_34.out
  obtain ⟨zab0, zab1, zab2, _, _, _, zabl⟩ := blk_cells Xab_34.out
  obtain ⟨zw00, zw01, zw02, _, _, _, zw0l⟩ := blk_cells Xw0_34.out
  obtain ⟨zxd0, zxd1, zxd2, _, _, _, zxdl⟩ := blk_cells Xxd_34.out
  obtain ⟨zxb0, zxb1, zxb2, _, _, _, zxbl⟩ := blk_cells Xxb_34.out
  obtain ⟨zg00, zg01, zg02, _, _, _, zg0l⟩ := blk_cells Xg0_34.out
  go_wp2_with fail
  clear zad0 zad1 zad2 zadl
  clear zab0 zab1 zab2 zabl
  clear zw00 zw01 zw02 zw0l
  clear zxd0 zxd1 zxd2 zxdl
  clear zxb0 zxb1 zxb2 zxbl
  clear zg00 zg01 zg02 zg0l
  refine (markDiagram_any b0 b2 _ _ _ _ (ncells b) (1 + (nd : Int) * 3) _ Fxb_34 (by omega) (by omega)).mono ?_
  rintro e w35 ⟨rfl, ho, hg⟩
  have hk := Kept.of_grown (S := fun g => (.slice (some ⟨gxb, 0, none⟩) nb nb : Value).ownBlock = some g) hg (fun g h => h)
  clear hg
  have S35 := Lib.hid (hk.size)
  have B35 := Lib.hid (hk.below B34.out B34.out.size (fun i hi => by have := Pxb.out i hi; have := S1.out; have := SE1.out; have := S2.out; have := SE2.out; have := S3.out; have := S4.out; have := S20.out; have := SQw.out; have := S21.out; have := S22.out; have := SE22.out; have := S23.out; have := S24.out; have := SE24.out; have := S25.out; have := S26.out; have := SE26.out; have := S27.out; have := S28.out; have := S29.out; have := S30.out; have := S31.out; have := S32.out; have := S33.out; have := S34.out; have := S35.out; omega))
  have Fw0_35 := Lib.hid (hk.own3 Fw0_34.out (fun g h q => by have := Pxb.out g q; have := Pw0.out g h; have := S1.out; have := SE1.out; have := S2.out; have := SE2.out; have := S3.out; have := S4.out; have := S20.out; have := SQw.out; have := S21.out; have := S22.out; have := SE22.out; have := S23.out; have := S24.out; have := SE24.out; have := S25.out; have := S26.out; have := SE26.out; have := S27.out; have := S28.out; have := S29.out; have := S30.out; have := S31.out; have := S32.out; have := S33.out; have := S34.out; have := S35.out; omega))
  clear Fw0_34
  have Fg0_35 := Lib.hid (hk.own3 Fg0_34.out (fun g h q => by have := Pxb.out g q; have := Pg0.out g h; have := S1.out; have := SE1.out; have := S2.out; have := SE2.out; have := S3.out; have := S4.out; have := S20.out; have := SQw.out; have := S21.out; have := S22.out; have := SE22.out; have := S23.out; have := S24.out; have := SE24.out; have := S25.out; have := S26.out; have := SE26.out; have := S27.out; have := S28.out; have := S29.out; have := S30.out; have := S31.out; have := S32.out; have := S33.out; have := S34.out; have := S35.out; omega))
  clear Fg0_34
  have Xad_35 := Lib.hid (hk.blk Xad_34.out (fun q => by have := Pxb.out _ q; have := Xad_34.out.lt; have := S1.out; have := SE1.out; have := S2.out; have := SE2.out; have := S3.out; have := S4.out; have := S20.out; have := SQw.out; have := S21.out; have := S22.out; have := SE22.out; have := S23.out; have := S24.out; have := SE24.out; have := S25.out; have := S26.out; have := SE26.out; have := S27.out; have := S28.out; have := S29.out; have := S30.out; have := S31.out; have := S32.out; have := S33.out; have := S34.out; have := S35.out; omega))
  clear Xad_34
  have Xab_35 := Lib.hid (hk.blk Xab_34.out (fun q => by have := Pxb.out _ q; have := Xab_34.out.lt; have := S1.out; have := SE1.out; have := S2.out; have := SE2.out; have := S3.out; have := S4.out; have := S20.out; have := SQw.out; have := S21.out; have := S22.out; have := SE22.out; have := S23.out; have := S24.out; have := SE24.out; have := S25.out; have := S26.out; have := SE26.out; have := S27.out; have := S28.out; have := S29.out; have := S30.out; have := S31.out; have := S32.out; have := S33.out; have := S34.out; have := S35.out; omega))
  clear Xab_34
  have Xw0_35 := Lib.hid (hk.blk Xw0_34.out (fun q => by have := Pxb.out _ q; have := Xw0_34.out.lt; have := S1.out; have := SE1.out; have := S2.out; have := SE2.out; have := S3.out; have := S4.out; have := S20.out; have := SQw.out; have := S21.out; have := S22.out; have := SE22.out; have := S23.out; have := S24.out; have := SE24.out; have := S25.out; have := S26.out; have := SE26.out; have := S27.out; have := S28.out; have := S29.out; have := S30.out; have := S31.out; have := S32.out; have := S33.out; have := S34.out; have := S35.out; omega))
  clear Xw0_34
  have Xxd_35 := Lib.hid (hk.blk Xxd_34.out (fun q => by have := Pxb.out _ q; have := Xxd_34.out.lt; have := S1.out; have := SE1.out; have := S2.out; have := SE2.out; have := S3.out; have := S4.out; have := S20.out; have := SQw.out; have := S21.out; have := S22.out; have := SE22.out; have := S23.out; have := S24.out; have := SE24.out; have := S25.out; have := S26.out; have := SE26.out; have := S27.out; have := S28.out; have := S29.out; have := S30.out; have := S31.out; have := S32.out; have := S33.out; have := S34.out; have := S35.out; omega))
  clear Xxd_34
  have Xxb_35 := Lib.hid (hk.blk Xxb_34.out (fun q => by have := Pxb.out _ q; have := Xxb_34.out.lt; have := S1.out; have := SE1.out; have := S2.out; have := SE2.out; have := S3.out; have := S4.out; have := S20.out; have := SQw.out; have := S21.out; have := S22.out; have := SE22.out; have := S23.out; have := S24.out; have := SE24.out; have := S25.out; have := S26.out; have := SE26.out; have := S27.out; have := S28.out; have := S29.out; have := S30.out; have := S31.out; have := S32.out; have := S33.out; have := S34.out; have := S35.out; omega))
  clear Xxb_34
  have Xg0_35 := Lib.hid (hk.blk Xg0_34.out (fun q => by have := Pxb.out _ q; have := Xg0_34.out.lt; have := S1.out; have := SE1.out; have := S2.out; have := SE2.out; have := S3.out; have := S4.out; have := S20.out; have := SQw.out; have := S21.out; have := S22.out; have := SE22.out; have := S23.out; have := S24.out; have := SE24.out; have := S25.out; have := S26.out; have := SE26.out; have := S27.out; have := S28.out; have := S29.out; have := S30.out; have := S31.out; have := S32.out; have := S33.out; have := S34.out; have := S35.out; omega))
  clear Xg0_34
  clear ho hk
  clear Fxb_34
  have hnegk : decide (1 + (nd : Int) * 3 + (nb : Int) * 3 < 0) = false := by simp; omega
  obtain ⟨zad0, zad1, zad2, _, _, _, zadl⟩ := blk_cells Xad_35.out
  obtain ⟨zab0, zab1, zab2, _, _, _, zabl⟩ := blk_cells Xab_35.out
  obtain ⟨zw00, zw01, zw02, _, _, _, zw0l⟩ := blk_cells Xw0_35.out
  obtain ⟨zxd0, zxd1, zxd2, _, _, _, zxdl⟩ := blk_cells Xxd_35.out
  obtain ⟨zxb0, zxb1, zxb2, _, _, _, zxbl⟩ := blk_cells Xxb_35.out
  obtain ⟨zg00, zg01, zg02, _, _, _, zg0l⟩ := blk_cells Xg0_35.out
  go_wp2_with fail
  clear zad0 zad1 zad2 zadl
  clear zab0 zab1 zab2 zabl
  clear zw00 zw01 zw02 zw0l
  clear zxd0 zxd1 zxd2 zxdl
  clear zxb0 zxb1 zxb2 zxbl
  clear zg00 zg01 zg02 zg0l
  refine (eqDiagram_same r0a r0b _ _ _ _ _ r0 _ (Lib.hid (own_nlies rfl Fg0_35.out)) (Lib.hid (own_nlies rfl Fw0_35.out)) (Lib.hid rfl) (by omega)).mono ?_
  rintro e w36 ⟨rfl, hb⟩
  have S36 := Lib.hid (hb.size)
  have B36 := Lib.hid (Below.tr B35.out hb)
  have Fw0_36 := Lib.hid (own_below Fw0_35.out hb)
  clear Fw0_35
  have Fg0_36 := Lib.hid (own_below Fg0_35.out hb)
  clear Fg0_35
  have Xad_36 := Lib.hid (Xad_35.out.below hb)
  clear Xad_35
  have Xab_36 := Lib.hid (Xab_35.out.below hb)
  clear Xab_35
  have Xw0_36 := Lib.hid (Xw0_35.out.below hb)
  clear Xw0_35
  have Xxd_36 := Lib.hid (Xxd_35.out.below hb)
  clear Xxd_35
  have Xxb_36 := Lib.hid (Xxb_35.out.below hb)
  clear Xxb_35
  have Xg0_36 := Lib.hid (Xg0_35.out.below hb)
  clear Xg0_35
  clear hb
  obtain ⟨zad0, zad1, zad2, _, _, _, zadl⟩ := blk_cells Xad_36.out
  obtain ⟨zab0, zab1, zab2, _, _, _, zabl⟩ := blk_cells Xab_36.out
  obtain ⟨zw00, zw01, zw02, _, _, _, zw0l⟩ := blk_cells Xw0_36.out
  obtain ⟨zxd0, zxd1, zxd2, _, _, _, zxdl⟩ := blk_cells Xxd_36.out
  obtain ⟨zxb0, zxb1, zxb2, _, _, _, zxbl⟩ := blk_cells Xxb_36.out
  obtain ⟨zg00, zg01, zg02, _, _, _, zg0l⟩ := blk_cells Xg0_36.out
  go_wp2_with fail
  clear zad0 zad1 zad2 zadl
  clear zab0 zab1 zab2 zabl
  clear zw00 zw01 zw02 zw0l
  clear zxd0 zxd1 zxd2 zxdl
  clear zxb0 zxb1 zxb2 zxbl
  clear zg00 zg01 zg02 zg0l
  refine (markDiagram_any r0a r0b _ _ _ _ (ncells r0) (1) _ Fg0_36 (by omega) (by omega)).mono ?_
  rintro e w37 ⟨rfl, ho, hg⟩
  have hk := Kept.of_grown (S := fun g => (.slice Ag0 r0.length cg0 : Value).ownBlock = some g) hg (fun g h => h)
  clear hg
  have S37 := Lib.hid (hk.size)
  have B37 := Lib.hid (hk.below B36.out B36.out.size (fun i hi => by have := Pg0.out i hi; have := S1.out; have := SE1.out; have := S2.out; have := SE2.out; have := S3.out; have := S4.out; have := S20.out; have := SQw.out; have := S21.out; have := S22.out; have := SE22.out; have := S23.out; have := S24.out; have := SE24.out; have := S25.out; have := S26.out; have := SE26.out; have := S27.out; have := S28.out; have := S29.out; have := S30.out; have := S31.out; have := S32.out; have := S33.out; have := S34.out; have := S35.out; have := S36.out; have := S37.out; omega))
  have Fw0_37 := Lib.hid (hk.own3 Fw0_36.out (fun g h q => by have := Pg0.out g q; have := Pw0.out g h; have := S1.out; have := SE1.out; have := S2.out; have := SE2.out; have := S3.out; have := S4.out; have := S20.out; have := SQw.out; have := S21.out; have := S22.out; have := SE22.out; have := S23.out; have := S24.out; have := SE24.out; have := S25.out; have := S26.out; have := SE26.out; have := S27.out; have := S28.out; have := S29.out; have := S30.out; have := S31.out; have := S32.out; have := S33.out; have := S34.out; have := S35.out; have := S36.out; have := S37.out; omega))
  clear Fw0_36
  have Xad_37 := Lib.hid (hk.blk Xad_36.out (fun q => by have := Pg0.out _ q; have := Xad_36.out.lt; have := S1.out; have := SE1.out; have := S2.out; have := SE2.out; have := S3.out; have := S4.out; have := S20.out; have := SQw.out; have := S21.out; have := S22.out; have := SE22.out; have := S23.out; have := S24.out; have := SE24.out; have := S25.out; have := S26.out; have := SE26.out; have := S27.out; have := S28.out; have := S29.out; have := S30.out; have := S31.out; have := S32.out; have := S33.out; have := S34.out; have := S35.out; have := S36.out; have := S37.out; omega))
  clear Xad_36
  have Xab_37 := Lib.hid (hk.blk Xab_36.out (fun q => by have := Pg0.out _ q; have := Xab_36.out.lt; have := S1.out; have := SE1.out; have := S2.out; have := SE2.out; have := S3.out; have := S4.out; have := S20.out; have := SQw.out; have := S21.out; have := S22.out; have := SE22.out; have := S23.out; have := S24.out; have := SE24.out; have := S25.out; have := S26.out; have := SE26.out; have := S27.out; have := S28.out; have := S29.out; have := S30.out; have := S31.out; have := S32.out; have := S33.out; have := S34.out; have := S35.out; have := S36.out; have := S37.out; omega))
  clear Xab_36
  have Xw0_37 := Lib.hid (hk.blk Xw0_36.out (fun q => by have := Pg0.out _ q; have := Xw0_36.out.lt; have := S1.out; have := SE1.out; have := S2.out; have := SE2.out; have := S3.out; have := S4.out; have := S20.out; have := SQw.out; have := S21.out; have := S22.out; have := SE22.out; have := S23.out; have := S24.out; have := SE24.out; have := S25.out; have := S26.out; have := SE26.out; have := S27.out; have := S28.out; have := S29.out; have := S30.out; have := S31.out; have := S32.out; have := S33.out; have := S34.out; have := S35.out; have := S36.out; have := S37.out; omega))
  clear Xw0_36
  have Xxd_37 := Lib.hid (hk.blk Xxd_36.out (fun q => by have := Pg0.out _ q; have := Xxd_36.out.lt; have := S1.out; have := SE1.out; have := S2.out; have := SE2.out; have := S3.out; have := S4.out; have := S20.out; have := SQw.out; have := S21.out; have := S22.out; have := SE22.out; have := S23.out; have := S24.out; have := SE24.out; have := S25.out; have := S26.out; have := SE26.out; have := S27.out; have := S28.out; have := S29.out; have := S30.out; have := S31.out; have := S32.out; have := S33.out; have := S34.out; have := S35.out; have := S36.out; have := S37.out; omega))
  clear Xxd_36
  have Xxb_37 := Lib.hid (hk.blk Xxb_36.out (fun q => by have := Pg0.out _ q; have := Xxb_36.out.lt; have := S1.out; have := SE1.out; have := S2.out; have := SE2.out; have := S3.out; have := S4.out; have := S20.out; have := SQw.out; have := S21.out; have := S22.out; have := SE22.out; have := S23.out; have := S24.out; have := SE24.out; have := S25.out; have := S26.out; have := SE26.out; have := S27.out; have := S28.out; have := S29.out; have := S30.out; have := S31.out; have := S32.out; have := S33.out; have := S34.out; have := S35.out; have := S36.out; have := S37.out; omega))
  clear Xxb_36
  have Xg0_37 := Lib.hid (hk.blk Xg0_36.out (fun q => by have := Pg0.out _ q; have := Xg0_36.out.lt; have := S1.out; have := SE1.out; have := S2.out; have := SE2.out; have := S3.out; have := S4.out; have := S20.out; have := SQw.out; have := S21.out; have := S22.out; have := SE22.out; have := S23.out; have := S24.out; have := SE24.out; have := S25.out; have := S26.out; have := SE26.out; have := S27.out; have := S28.out; have := S29.out; have := S30.out; have := S31.out; have := S32.out; have := S33.out; have := S34.out; have := S35.out; have := S36.out; have := S37.out; omega))
  clear Xg0_36
  clear Fg0_36
  have Fg0_37 := Lib.hid ho
  clear ho hk
  have hnegm : decide (1 + (r0.length : Int) * 3 < 0) = false := by simp; omega
  have heqm : ((1 + (r0.length : Int) * 3 : Int) != (1 + (r0.length : Int) * 3 : Int)) = false := by simp
  obtain ⟨zad0, zad1, zad2, _, _, _, zadl⟩ := blk_cells Xad_37.out
  obtain ⟨zab0, zab1, zab2, _, _, _, zabl⟩ := blk_cells Xab_37.out
  obtain ⟨zw00, zw01, zw02, _, _, _, zw0l⟩ := blk_cells Xw0_37.out
  obtain ⟨zxd0, zxd1, zxd2, _, _, _, zxdl⟩ := blk_cells Xxd_37.out
  obtain ⟨zxb0, zxb1, zxb2, _, _, _, zxbl⟩ := blk_cells Xxb_37.out
  obtain ⟨zg00, zg01, zg02, _, _, _, zg0l⟩ := blk_cells Xg0_37.out
  go_wp2_with fail
  clear zad0 zad1 zad2 zadl
  clear zab0 zab1 zab2 zabl
  clear zw00 zw01 zw02 zw0l
  clear zxd0 zxd1 zxd2 zxdl
  clear zxb0 zxb1 zxb2 zxbl
  clear zg00 zg01 zg02 zg0l
  refine (heldDiagram_any r0a r0b _ _ _ (1) _ (Lib.hid (own_nlies (ndIs_len _ _) Fg0_37.out)) (by omega) (by omega)).mono ?_
  rintro e w38 ⟨rfl, hb⟩
  have S38 := Lib.hid (hb.size)
  have B38 := Lib.hid (Below.tr B37.out hb)
  have Fw0_38 := Lib.hid (own_below Fw0_37.out hb)
  clear Fw0_37
  have Fg0_38 := Lib.hid (own_below Fg0_37.out hb)
  clear Fg0_37
  have Xad_38 := Lib.hid (Xad_37.out.below hb)
  clear Xad_37
  have Xab_38 := Lib.hid (Xab_37.out.below hb)
  clear Xab_37
  have Xw0_38 := Lib.hid (Xw0_37.out.below hb)
  clear Xw0_37
  have Xxd_38 := Lib.hid (Xxd_37.out.below hb)
  clear Xxd_37
  have Xxb_38 := Lib.hid (Xxb_37.out.below hb)
  clear Xxb_37
  have Xg0_38 := Lib.hid (Xg0_37.out.below hb)
  clear Xg0_37
  clear hb
  obtain ⟨zad0, zad1, zad2, _, _, _, zadl⟩ := blk_cells Xad_38.out
  obtain ⟨zab0, zab1, zab2, _, _, _, zabl⟩ := blk_cells Xab_38.out
  obtain ⟨zw00, zw01, zw02, _, _, _, zw0l⟩ := blk_cells Xw0_38.out
  obtain ⟨zxd0, zxd1, zxd2, _, _, _, zxdl⟩ := blk_cells Xxd_38.out
  obtain ⟨zxb0, zxb1, zxb2, _, _, _, zxbl⟩ := blk_cells Xxb_38.out
  obtain ⟨zg00, zg01, zg02, _, _, _, zg0l⟩ := blk_cells Xg0_38.out
  go_wp2_with fail
  clear zad0 zad1 zad2 zadl
  clear zab0 zab1 zab2 zabl
  clear zw00 zw01 zw02 zw0l
  clear zxd0 zxd1 zxd2 zxdl
  clear zxb0 zxb1 zxb2 zxbl
  clear zg00 zg01 zg02 zg0l
  obtain ⟨zad0, zad1, zad2, _, _, _, zadl⟩ := blk_cells Xad_38.out
  obtain ⟨zab0, zab1, zab2, _, _, _, zabl⟩ := blk_cells Xab_38.out
  obtain ⟨zw00, zw01, zw02, _, _, _, zw0l⟩ := blk_cells Xw0_38.out
  obtain ⟨zxd0, zxd1, zxd2, _, _, _, zxdl⟩ := blk_cells Xxd_38.out
  obtain ⟨zxb0, zxb1, zxb2, _, _, _, zxbl⟩ := blk_cells Xxb_38.out
  obtain ⟨zg00, zg01, zg02, _, _, _, zg0l⟩ := blk_cells Xg0_38.out
  refine wp_region_held_drew (S := fun W => W.cell? ⟨w.heap.size, 0, none⟩ = some (.int .i64 d0) ∧ W.cell? ⟨w.heap.size, 1, none⟩ = some (.slice Ad nd capd) ∧ W.cell? ⟨w.heap.size, 2, none⟩ = some (.int .i64 d2) ∧ W.cell? ⟨w.heap.size + 1, 0, none⟩ = some (.int .i64 b0) ∧ W.cell? ⟨w.heap.size + 1, 1, none⟩ = some (.slice Ab nb capb) ∧ W.cell? ⟨w.heap.size + 1, 2, none⟩ = some (.int .i64 b2)) (by kernel_rfl) ?_ (fun hHeld => ?_)
  · exact ⟨zad0, zad1, zad2, zab0, zab1, zab2⟩
  clear zad0 zad1 zad2 zadl
  clear zab0 zab1 zab2 zabl
  clear zw00 zw01 zw02 zw0l
  clear zxd0 zxd1 zxd2 zxdl
  clear zxb0 zxb1 zxb2 zxbl
  clear zg00 zg01 zg02 zg0l
  obtain ⟨w39, hw39⟩ : ∃ W, W = w38.drew := ⟨_, rfl⟩
  have hb : Below w38.heap.size w38 w39 := by rw [hw39]; exact (Below.refl _ _).drew
  rw [← hw39] at hHeld ⊢
  clear hw39
  have S39 := Lib.hid (hb.size)
  have B39 := Lib.hid (Below.tr B38.out hb)
  have Fw0_39 := Lib.hid (own_below Fw0_38.out hb)
  clear Fw0_38
  have Fg0_39 := Lib.hid (own_below Fg0_38.out hb)
  clear Fg0_38
  have Xad_39 := Lib.hid (Xad_38.out.below hb)
  clear Xad_38
  have Xab_39 := Lib.hid (Xab_38.out.below hb)
  clear Xab_38
  have Xw0_39 := Lib.hid (Xw0_38.out.below hb)
  clear Xw0_38
  have Xxd_39 := Lib.hid (Xxd_38.out.below hb)
  clear Xxd_38
  have Xxb_39 := Lib.hid (Xxb_38.out.below hb)
  clear Xxb_38
  have Xg0_39 := Lib.hid (Xg0_38.out.below hb)
  clear Xg0_38
  clear hb
  refine wpAnyH_take (i := 0) (v := ?_) rfl (by kernel_rfl) (by kernel_rfl) (by kernel_rfl) (fun _ _ _ h => h) (Or.inl ⟨by rfl, ?_⟩) (by assumption) ?_
  rotate_left
  · intro W hSw
    try dsimp only at hSw
    go_simp
    try with_reducible rfl
  simp only [Act.put, List.setIfInBounds_toArray]
  refine wpAnyH_take (i := 2) (v := ?_) rfl (by kernel_rfl) (by kernel_rfl) (by kernel_rfl) (fun _ _ _ h => h) (Or.inl ⟨by rfl, ?_⟩) (by assumption) ?_
  rotate_left
  · intro W hSw
    try dsimp only at hSw
    go_simp
    try with_reducible rfl
  simp only [Act.put]
  refine wpAnyH_ready (rs := [1, 8]) (by kernel_rfl) (by simp) ?_
  refine AllReadyH.cons rfl (fun K hK => ?_) (AllReadyH.cons rfl (fun K hK => ?_) AllReadyH.nil)
  ·
    go_simp
    refine (toDiagram_any d0 d2 _ _ _ d _ (Lib.hid (HLd.out.below B39.out)) HXd hsd).mono ?_
    rintro e w40 ⟨gyd, rfl, hge, kk, hb⟩
    have S40 := Lib.hid (hb.size)
    have B40 := Lib.hid (Below.tr B39.out hb)
    have Fw0_40 := Lib.hid (own_below Fw0_39.out hb)
    clear Fw0_39
    have Fg0_40 := Lib.hid (own_below Fg0_39.out hb)
    clear Fg0_39
    have Xad_40 := Lib.hid (Xad_39.out.below hb)
    clear Xad_39
    have Xab_40 := Lib.hid (Xab_39.out.below hb)
    clear Xab_39
    have Xw0_40 := Lib.hid (Xw0_39.out.below hb)
    clear Xw0_39
    have Xxd_40 := Lib.hid (Xxd_39.out.below hb)
    clear Xxd_39
    have Xxb_40 := Lib.hid (Xxb_39.out.below hb)
    clear Xxb_39
    have Xg0_40 := Lib.hid (Xg0_39.out.below hb)
    clear Xg0_39
    have Fyd_40 := Lib.hid (own_baseN (own_of_nblk kk HXd.out hsd) hge)
    have Pyd : Hid (∀ g, (.slice (some ⟨gyd, 0, none⟩) nd nd : Value).ownBlock = some g → w39.heap.size ≤ g ∧ g < w40.heap.size) := Lib.hid (fun g h => Fyd_40.out.lt g h)
    clear kk hb hge
    obtain ⟨zad0, zad1, zad2, _, _, _, zadl⟩ := blk_cells Xad_40.out
    obtain ⟨zab0, zab1, zab2, _, _, _, zabl⟩ := blk_cells Xab_40.out
    obtain ⟨zw00, zw01, zw02, _, _, _, zw0l⟩ := blk_cells Xw0_40.out
    obtain ⟨zxd0, zxd1, zxd2, _, _, _, zxdl⟩ := blk_cells Xxd_40.out
    obtain ⟨zxb0, zxb1, zxb2, _, _, _, zxbl⟩ := blk_cells Xxb_40.out
    obtain ⟨zg00, zg01, zg02, _, _, _, zg0l⟩ := blk_cells Xg0_40.out
    refine hK.out _ _ ⟨zad0, zad1, zad2, zab0, zab1, zab2⟩ (fun hH1 => ?_)
    clear hK K hHeld
    try simp only [Act.put, List.setIfInBounds_toArray, List.set_cons_zero, List.set_cons_succ]
    clear zad0 zad1 zad2 zadl
    clear zab0 zab1 zab2 zabl
    clear zw00 zw01 zw02 zw0l
    clear zxd0 zxd1 zxd2 zxdl
    clear zxb0 zxb1 zxb2 zxbl
    clear zg00 zg01 zg02 zg0l
    refine wpAnyH_ready (rs := [3, 8]) (by kernel_rfl) (by simp) ?_
    refine AllReadyH.cons rfl (fun K hK => ?_) (AllReadyH.cons rfl (fun K hK => ?_) AllReadyH.nil)
    ·
      go_simp
      refine (toDiagram_any b0 b2 _ _ _ b _ (Lib.hid (HLb.out.below B40.out)) HXb hsb).mono ?_
      rintro e w41 ⟨gyb, rfl, hge, kk, hb⟩
      have S41 := Lib.hid (hb.size)
      have B41 := Lib.hid (Below.tr B40.out hb)
      have Fw0_41 := Lib.hid (own_below Fw0_40.out hb)
      clear Fw0_40
      have Fg0_41 := Lib.hid (own_below Fg0_40.out hb)
      clear Fg0_40
      have Fyd_41 := Lib.hid (own_below Fyd_40.out hb)
      clear Fyd_40
      have Xad_41 := Lib.hid (Xad_40.out.below hb)
      clear Xad_40
      have Xab_41 := Lib.hid (Xab_40.out.below hb)
      clear Xab_40
      have Xw0_41 := Lib.hid (Xw0_40.out.below hb)
      clear Xw0_40
      have Xxd_41 := Lib.hid (Xxd_40.out.below hb)
      clear Xxd_40
      have Xxb_41 := Lib.hid (Xxb_40.out.below hb)
      clear Xxb_40
      have Xg0_41 := Lib.hid (Xg0_40.out.below hb)
      clear Xg0_40
      have Fyb_41 := Lib.hid (own_baseN (own_of_nblk kk HXb.out hsb) hge)
      have Pyb : Hid (∀ g, (.slice (some ⟨gyb, 0, none⟩) nb nb : Value).ownBlock = some g → w40.heap.size ≤ g ∧ g < w41.heap.size) := Lib.hid (fun g h => Fyb_41.out.lt g h)
      clear kk hb hge
      obtain ⟨zad0, zad1, zad2, _, _, _, zadl⟩ := blk_cells Xad_41.out
      obtain ⟨zab0, zab1, zab2, _, _, _, zabl⟩ := blk_cells Xab_41.out
      obtain ⟨zw00, zw01, zw02, _, _, _, zw0l⟩ := blk_cells Xw0_41.out
      obtain ⟨zxd0, zxd1, zxd2, _, _, _, zxdl⟩ := blk_cells Xxd_41.out
      obtain ⟨zxb0, zxb1, zxb2, _, _, _, zxbl⟩ := blk_cells Xxb_41.out
      obtain ⟨zg00, zg01, zg02, _, _, _, zg0l⟩ := blk_cells Xg0_41.out
      refine hK.out _ _ ⟨zad0, zad1, zad2, zab0, zab1, zab2⟩ (fun hH2 => ?_)
      clear hK K hH1
      try simp only [Act.put, List.setIfInBounds_toArray, List.set_cons_zero, List.set_cons_succ]
      clear zad0 zad1 zad2 zadl
      clear zab0 zab1 zab2 zabl
      clear zw00 zw01 zw02 zw0l
      clear zxd0 zxd1 zxd2 zxdl
      clear zxb0 zxb1 zxb2 zxbl
      clear zg00 zg01 zg02 zg0l
      refine wpAnyH_ready (rs := [4, 8]) (by kernel_rfl) (by simp) ?_
      refine AllReadyH.cons rfl (fun K hK => ?_) (AllReadyH.cons rfl (fun K hK => ?_) AllReadyH.nil)
      ·
        go_simp
        refine (implBoth_any d0 d2 b0 b2 _ _ _ _ _ _ d b _ r0a r0 r0b r1 HR (Lib.hid (own_nlies HXd.out Fyd_41.out)) HXd hsd (Lib.hid (own_nlies HXb.out Fyb_41.out)) HXb hsb).mono ?_
        rintro e w42 ⟨Ah0, ch0, rfl, ho0, hb⟩
        have S42 := Lib.hid (hb.size)
        have B42 := Lib.hid (Below.tr B41.out hb)
        have Fw0_42 := Lib.hid (own_below Fw0_41.out hb)
        clear Fw0_41
        have Fg0_42 := Lib.hid (own_below Fg0_41.out hb)
        clear Fg0_41
        have Fyd_42 := Lib.hid (own_below Fyd_41.out hb)
        clear Fyd_41
        have Fyb_42 := Lib.hid (own_below Fyb_41.out hb)
        clear Fyb_41
        have Xad_42 := Lib.hid (Xad_41.out.below hb)
        clear Xad_41
        have Xab_42 := Lib.hid (Xab_41.out.below hb)
        clear Xab_41
        have Xw0_42 := Lib.hid (Xw0_41.out.below hb)
        clear Xw0_41
        have Xxd_42 := Lib.hid (Xxd_41.out.below hb)
        clear Xxd_41
        have Xxb_42 := Lib.hid (Xxb_41.out.below hb)
        clear Xxb_41
        have Xg0_42 := Lib.hid (Xg0_41.out.below hb)
        clear Xg0_41
        have Fh0_42 := Lib.hid (ho0)
        have Ph0 : Hid (∀ g, (.slice Ah0 r0.length ch0 : Value).ownBlock = some g → w41.heap.size ≤ g ∧ g < w42.heap.size) := Lib.hid (fun g h => Fh0_42.out.lt g h)
        clear hb ho0
        obtain ⟨zad0, zad1, zad2, _, _, _, zadl⟩ := blk_cells Xad_42.out
        obtain ⟨zab0, zab1, zab2, _, _, _, zabl⟩ := blk_cells Xab_42.out
        obtain ⟨zw00, zw01, zw02, _, _, _, zw0l⟩ := blk_cells Xw0_42.out
        obtain ⟨zxd0, zxd1, zxd2, _, _, _, zxdl⟩ := blk_cells Xxd_42.out
        obtain ⟨zxb0, zxb1, zxb2, _, _, _, zxbl⟩ := blk_cells Xxb_42.out
        obtain ⟨zg00, zg01, zg02, _, _, _, zg0l⟩ := blk_cells Xg0_42.out
        refine hK.out _ _ ⟨zad0, zad1, zad2, zab0, zab1, zab2⟩ (fun hH3 => ?_)
        clear hK K hH2
        try simp only [Act.put, List.setIfInBounds_toArray, List.set_cons_zero, List.set_cons_succ]
        clear zad0 zad1 zad2 zadl
        clear zab0 zab1 zab2 zabl
        clear zw00 zw01 zw02 zw0l
        clear zxd0 zxd1 zxd2 zxdl
        clear zxb0 zxb1 zxb2 zxbl
        clear zg00 zg01 zg02 zg0l
        refine wpAnyH_take (i := 5) (v := ?_) rfl (by kernel_rfl) (by kernel_rfl) (by kernel_rfl) (fun _ _ _ h => h) (Or.inl ⟨by rfl, ?_⟩) (by assumption) ?_
        rotate_left
        · intro W hSw
          try dsimp only at hSw
          go_simp
          try with_reducible rfl
        simp only [Act.put, List.setIfInBounds_toArray]
        refine wpAnyH_take (i := 6) (v := ?_) rfl (by kernel_rfl) (by kernel_rfl) (by kernel_rfl) (fun _ _ _ h => h) (Or.inl ⟨by rfl, ?_⟩) (by assumption) ?_
        rotate_left
        · intro W hSw
          try dsimp only at hSw
          go_simp
          try with_reducible rfl
        simp only [Act.put]
        refine wpAnyH_take (i := 7) (v := ?_) rfl (by kernel_rfl) (by kernel_rfl) (by kernel_rfl) (fun _ _ _ h => h) (Or.inl ⟨by rfl, ?_⟩) (by assumption) ?_
        rotate_left
        · intro W hSw
          try dsimp only at hSw
          go_simp
          try with_reducible rfl
        simp only [Act.put]
        refine wpAnyH_ready (rs := [8]) (by kernel_rfl) (by simp) ?_
        refine AllReadyH.cons rfl (fun K hK => ?_) AllReadyH.nil
        go_simp
        obtain ⟨w43, hw43⟩ : ∃ W, W = w42.alloc (.cells #[.int .i64 0, .slice none 0 0, .int .i64 0] 28) := ⟨_, rfl⟩
        have hb : Below w42.heap.size w42 w43 := by rw [hw43]; exact below1 _ _
        have hx : Blk w43 w42.heap.size 28 [.int .i64 0, .slice none 0 0, .int .i64 0] := by rw [hw43]; exact heap_alloc_new _ _
        have hsz : w43.heap.size = w42.heap.size + 1 := by rw [hw43]; simp
        rw [← hw43]
        clear hw43
        have S43 := Lib.hid (hb.size)
        have SE43 := Lib.hid hsz
        have B43 := Lib.hid (Below.tr B42.out hb)
        have Fw0_43 := Lib.hid (own_below Fw0_42.out hb)
        clear Fw0_42
        have Fg0_43 := Lib.hid (own_below Fg0_42.out hb)
        clear Fg0_42
        have Fyd_43 := Lib.hid (own_below Fyd_42.out hb)
        clear Fyd_42
        have Fyb_43 := Lib.hid (own_below Fyb_42.out hb)
        clear Fyb_42
        have Fh0_43 := Lib.hid (own_below Fh0_42.out hb)
        clear Fh0_42
        have Xad_43 := Lib.hid (Xad_42.out.below hb)
        clear Xad_42
        have Xab_43 := Lib.hid (Xab_42.out.below hb)
        clear Xab_42
        have Xw0_43 := Lib.hid (Xw0_42.out.below hb)
        clear Xw0_42
        have Xxd_43 := Lib.hid (Xxd_42.out.below hb)
        clear Xxd_42
        have Xxb_43 := Lib.hid (Xxb_42.out.below hb)
        clear Xxb_42
        have Xg0_43 := Lib.hid (Xg0_42.out.below hb)
        clear Xg0_42
        have Xh0_43 := Lib.hid hx
        clear hb hx hsz
        obtain ⟨qh, hq⟩ : ∃ q, w42.heap.size = q := ⟨_, rfl⟩
        have SQh : Hid (w42.heap.size = qh) := Lib.hid hq
        rw [hq] at Xh0_43 ⊢
        clear hq
        obtain ⟨zad0, zad1, zad2, _, _, _, zadl⟩ := blk_cells Xad_43.out
        obtain ⟨zab0, zab1, zab2, _, _, _, zabl⟩ := blk_cells Xab_43.out
        obtain ⟨zw00, zw01, zw02, _, _, _, zw0l⟩ := blk_cells Xw0_43.out
        obtain ⟨zxd0, zxd1, zxd2, _, _, _, zxdl⟩ := blk_cells Xxd_43.out
        obtain ⟨zxb0, zxb1, zxb2, _, _, _, zxbl⟩ := blk_cells Xxb_43.out
        obtain ⟨zg00, zg01, zg02, _, _, _, zg0l⟩ := blk_cells Xg0_43.out
        obtain ⟨zh00, zh01, zh02, _, _, _, zh0l⟩ := blk_cells Xh0_43.out
        refine hK.out _ _ ⟨zad0, zad1, zad2, zab0, zab1, zab2⟩ (fun hH3a => ?_)
        clear hK K hH3
        try simp only [Act.put, List.setIfInBounds_toArray, List.set_cons_zero, List.set_cons_succ]
        clear zad0 zad1 zad2 zadl
        clear zab0 zab1 zab2 zabl
        clear zw00 zw01 zw02 zw0l
        clear zxd0 zxd1 zxd2 zxdl
        clear zxb0 zxb1 zxb2 zxbl
        clear zg00 zg01 zg02 zg0l
        clear zh00 zh01 zh02 zh0l
        obtain ⟨zad0, zad1, zad2, _, _, _, zadl⟩ := blk_cells Xad_43.out
        obtain ⟨zab0, zab1, zab2, _, _, _, zabl⟩ := blk_cells Xab_43.out
        obtain ⟨zw00, zw01, zw02, _, _, _, zw0l⟩ := blk_cells Xw0_43.out
        obtain ⟨zxd0, zxd1, zxd2, _, _, _, zxdl⟩ := blk_cells Xxd_43.out
        obtain ⟨zxb0, zxb1, zxb2, _, _, _, zxbl⟩ := blk_cells Xxb_43.out
        obtain ⟨zg00, zg01, zg02, _, _, _, zg0l⟩ := blk_cells Xg0_43.out
        obtain ⟨zh00, zh01, zh02, _, _, _, zh0l⟩ := blk_cells Xh0_43.out
        refine wpAnyH_ready (rs := [9]) (by kernel_rfl) (by simp) ?_
        refine AllReadyH.cons rfl (fun K hK => ?_) AllReadyH.nil
        go_simp
        clear zad0 zad1 zad2 zadl
        clear zab0 zab1 zab2 zabl
        clear zw00 zw01 zw02 zw0l
        clear zxd0 zxd1 zxd2 zxdl
        clear zxb0 zxb1 zxb2 zxbl
        clear zg00 zg01 zg02 zg0l
        clear zh00 zh01 zh02 zh0l
        obtain ⟨w44, hw44⟩ : ∃ W, W = (((w43.setCell ⟨qh, 0, none⟩ (.int .i64 r0a)).setCell ⟨qh, 1, none⟩ (.slice Ah0 r0.length ch0)).setCell ⟨qh, 2, none⟩ (.int .i64 r0b)) := ⟨_, rfl⟩
        have hk : Kept w43 w44 (fun g => g = qh) := by rw [hw44]; exact lb_kept3 _ _ _ _ _
        have hx : Blk w44 qh 28 [.int .i64 r0a, .slice Ah0 r0.length ch0, .int .i64 r0b] := by rw [hw44]; exact lb_set3 Xh0_43.out _ _ _
        rw [← hw44]
        clear hw44
        have S44 := Lib.hid (hk.size)
        have B44 := Lib.hid (hk.below B43.out B43.out.size (fun i hi => by have : i = _ := hi; have := S1.out; have := SE1.out; have := S2.out; have := SE2.out; have := S3.out; have := S4.out; have := S20.out; have := SQw.out; have := S21.out; have := S22.out; have := SE22.out; have := S23.out; have := S24.out; have := SE24.out; have := S25.out; have := S26.out; have := SE26.out; have := S27.out; have := S28.out; have := S29.out; have := S30.out; have := S31.out; have := S32.out; have := S33.out; have := S34.out; have := S35.out; have := S36.out; have := S37.out; have := S38.out; have := S39.out; have := S40.out; have := S41.out; have := S42.out; have := S43.out; have := SE43.out; have := SQh.out; have := S44.out; omega))
        have Fw0_44 := Lib.hid (hk.own3 Fw0_43.out (fun g h q => by have : g = _ := q; have := Pw0.out g h; have := S1.out; have := SE1.out; have := S2.out; have := SE2.out; have := S3.out; have := S4.out; have := S20.out; have := SQw.out; have := S21.out; have := S22.out; have := SE22.out; have := S23.out; have := S24.out; have := SE24.out; have := S25.out; have := S26.out; have := SE26.out; have := S27.out; have := S28.out; have := S29.out; have := S30.out; have := S31.out; have := S32.out; have := S33.out; have := S34.out; have := S35.out; have := S36.out; have := S37.out; have := S38.out; have := S39.out; have := S40.out; have := S41.out; have := S42.out; have := S43.out; have := SE43.out; have := SQh.out; have := S44.out; omega))
        clear Fw0_43
        have Fg0_44 := Lib.hid (hk.own3 Fg0_43.out (fun g h q => by have : g = _ := q; have := Pg0.out g h; have := S1.out; have := SE1.out; have := S2.out; have := SE2.out; have := S3.out; have := S4.out; have := S20.out; have := SQw.out; have := S21.out; have := S22.out; have := SE22.out; have := S23.out; have := S24.out; have := SE24.out; have := S25.out; have := S26.out; have := SE26.out; have := S27.out; have := S28.out; have := S29.out; have := S30.out; have := S31.out; have := S32.out; have := S33.out; have := S34.out; have := S35.out; have := S36.out; have := S37.out; have := S38.out; have := S39.out; have := S40.out; have := S41.out; have := S42.out; have := S43.out; have := SE43.out; have := SQh.out; have := S44.out; omega))
        clear Fg0_43
        have Fyd_44 := Lib.hid (hk.own3 Fyd_43.out (fun g h q => by have : g = _ := q; have := Pyd.out g h; have := S1.out; have := SE1.out; have := S2.out; have := SE2.out; have := S3.out; have := S4.out; have := S20.out; have := SQw.out; have := S21.out; have := S22.out; have := SE22.out; have := S23.out; have := S24.out; have := SE24.out; have := S25.out; have := S26.out; have := SE26.out; have := S27.out; have := S28.out; have := S29.out; have := S30.out; have := S31.out; have := S32.out; have := S33.out; have := S34.out; have := S35.out; have := S36.out; have := S37.out; have := S38.out; have := S39.out; have := S40.out; have := S41.out; have := S42.out; have := S43.out; have := SE43.out; have := SQh.out; have := S44.out; omega))
        clear Fyd_43
        have Fyb_44 := Lib.hid (hk.own3 Fyb_43.out (fun g h q => by have : g = _ := q; have := Pyb.out g h; have := S1.out; have := SE1.out; have := S2.out; have := SE2.out; have := S3.out; have := S4.out; have := S20.out; have := SQw.out; have := S21.out; have := S22.out; have := SE22.out; have := S23.out; have := S24.out; have := SE24.out; have := S25.out; have := S26.out; have := SE26.out; have := S27.out; have := S28.out; have := S29.out; have := S30.out; have := S31.out; have := S32.out; have := S33.out; have := S34.out; have := S35.out; have := S36.out; have := S37.out; have := S38.out; have := S39.out; have := S40.out; have := S41.out; have := S42.out; have := S43.out; have := SE43.out; have := SQh.out; have := S44.out; omega))
        clear Fyb_43
        have Fh0_44 := Lib.hid (hk.own3 Fh0_43.out (fun g h q => by have : g = _ := q; have := Ph0.out g h; have := S1.out; have := SE1.out; have := S2.out; have := SE2.out; have := S3.out; have := S4.out; have := S20.out; have := SQw.out; have := S21.out; have := S22.out; have := SE22.out; have := S23.out; have := S24.out; have := SE24.out; have := S25.out; have := S26.out; have := SE26.out; have := S27.out; have := S28.out; have := S29.out; have := S30.out; have := S31.out; have := S32.out; have := S33.out; have := S34.out; have := S35.out; have := S36.out; have := S37.out; have := S38.out; have := S39.out; have := S40.out; have := S41.out; have := S42.out; have := S43.out; have := SE43.out; have := SQh.out; have := S44.out; omega))
        clear Fh0_43
        have Xad_44 := Lib.hid (hk.blk Xad_43.out (fun q => by have : _ = qh := q; have := Xad_43.out.lt; have := S1.out; have := SE1.out; have := S2.out; have := SE2.out; have := S3.out; have := S4.out; have := S20.out; have := SQw.out; have := S21.out; have := S22.out; have := SE22.out; have := S23.out; have := S24.out; have := SE24.out; have := S25.out; have := S26.out; have := SE26.out; have := S27.out; have := S28.out; have := S29.out; have := S30.out; have := S31.out; have := S32.out; have := S33.out; have := S34.out; have := S35.out; have := S36.out; have := S37.out; have := S38.out; have := S39.out; have := S40.out; have := S41.out; have := S42.out; have := S43.out; have := SE43.out; have := SQh.out; have := S44.out; omega))
        clear Xad_43
        have Xab_44 := Lib.hid (hk.blk Xab_43.out (fun q => by have : _ = qh := q; have := Xab_43.out.lt; have := S1.out; have := SE1.out; have := S2.out; have := SE2.out; have := S3.out; have := S4.out; have := S20.out; have := SQw.out; have := S21.out; have := S22.out; have := SE22.out; have := S23.out; have := S24.out; have := SE24.out; have := S25.out; have := S26.out; have := SE26.out; have := S27.out; have := S28.out; have := S29.out; have := S30.out; have := S31.out; have := S32.out; have := S33.out; have := S34.out; have := S35.out; have := S36.out; have := S37.out; have := S38.out; have := S39.out; have := S40.out; have := S41.out; have := S42.out; have := S43.out; have := SE43.out; have := SQh.out; have := S44.out; omega))
        clear Xab_43
        have Xw0_44 := Lib.hid (hk.blk Xw0_43.out (fun q => by have : _ = qh := q; have := Xw0_43.out.lt; have := S1.out; have := SE1.out; have := S2.out; have := SE2.out; have := S3.out; have := S4.out; have := S20.out; have := SQw.out; have := S21.out; have := S22.out; have := SE22.out; have := S23.out; have := S24.out; have := SE24.out; have := S25.out; have := S26.out; have := SE26.out; have := S27.out; have := S28.out; have := S29.out; have := S30.out; have := S31.out; have := S32.out; have := S33.out; have := S34.out; have := S35.out; have := S36.out; have := S37.out; have := S38.out; have := S39.out; have := S40.out; have := S41.out; have := S42.out; have := S43.out; have := SE43.out; have := SQh.out; have := S44.out; omega))
        clear Xw0_43
        have Xxd_44 := Lib.hid (hk.blk Xxd_43.out (fun q => by have : _ = qh := q; have := Xxd_43.out.lt; have := S1.out; have := SE1.out; have := S2.out; have := SE2.out; have := S3.out; have := S4.out; have := S20.out; have := SQw.out; have := S21.out; have := S22.out; have := SE22.out; have := S23.out; have := S24.out; have := SE24.out; have := S25.out; have := S26.out; have := SE26.out; have := S27.out; have := S28.out; have := S29.out; have := S30.out; have := S31.out; have := S32.out; have := S33.out; have := S34.out; have := S35.out; have := S36.out; have := S37.out; have := S38.out; have := S39.out; have := S40.out; have := S41.out; have := S42.out; have := S43.out; have := SE43.out; have := SQh.out; have := S44.out; omega))
        clear Xxd_43
        have Xxb_44 := Lib.hid (hk.blk Xxb_43.out (fun q => by have : _ = qh := q; have := Xxb_43.out.lt; have := S1.out; have := SE1.out; have := S2.out; have := SE2.out; have := S3.out; have := S4.out; have := S20.out; have := SQw.out; have := S21.out; have := S22.out; have := SE22.out; have := S23.out; have := S24.out; have := SE24.out; have := S25.out; have := S26.out; have := SE26.out; have := S27.out; have := S28.out; have := S29.out; have := S30.out; have := S31.out; have := S32.out; have := S33.out; have := S34.out; have := S35.out; have := S36.out; have := S37.out; have := S38.out; have := S39.out; have := S40.out; have := S41.out; have := S42.out; have := S43.out; have := SE43.out; have := SQh.out; have := S44.out; omega))
        clear Xxb_43
        have Xg0_44 := Lib.hid (hk.blk Xg0_43.out (fun q => by have : _ = qh := q; have := Xg0_43.out.lt; have := S1.out; have := SE1.out; have := S2.out; have := SE2.out; have := S3.out; have := S4.out; have := S20.out; have := SQw.out; have := S21.out; have := S22.out; have := SE22.out; have := S23.out; have := S24.out; have := SE24.out; have := S25.out; have := S26.out; have := SE26.out; have := S27.out; have := S28.out; have := S29.out; have := S30.out; have := S31.out; have := S32.out; have := S33.out; have := S34.out; have := S35.out; have := S36.out; have := S37.out; have := S38.out; have := S39.out; have := S40.out; have := S41.out; have := S42.out; have := S43.out; have := SE43.out; have := SQh.out; have := S44.out; omega))
        clear Xg0_43
        clear Xh0_43
        have Xh0_44 := Lib.hid hx
        clear hx hk
        obtain ⟨zad0, zad1, zad2, _, _, _, zadl⟩ := blk_cells Xad_44.out
        obtain ⟨zab0, zab1, zab2, _, _, _, zabl⟩ := blk_cells Xab_44.out
        obtain ⟨zw00, zw01, zw02, _, _, _, zw0l⟩ := blk_cells Xw0_44.out
        obtain ⟨zxd0, zxd1, zxd2, _, _, _, zxdl⟩ := blk_cells Xxd_44.out
        obtain ⟨zxb0, zxb1, zxb2, _, _, _, zxbl⟩ := blk_cells Xxb_44.out
        obtain ⟨zg00, zg01, zg02, _, _, _, zg0l⟩ := blk_cells Xg0_44.out
        obtain ⟨zh00, zh01, zh02, _, _, _, zh0l⟩ := blk_cells Xh0_44.out
        refine hK.out _ _ ⟨zad0, zad1, zad2, zab0, zab1, zab2⟩ (fun hH9 => ?_)
        clear hK K hH3a
        try simp only [Act.put, List.setIfInBounds_toArray, List.set_cons_zero, List.set_cons_succ]
        clear zad0 zad1 zad2 zadl
        clear zab0 zab1 zab2 zabl
        clear zw00 zw01 zw02 zw0l
        clear zxd0 zxd1 zxd2 zxdl
        clear zxb0 zxb1 zxb2 zxbl
        clear zg00 zg01 zg02 zg0l
        clear zh00 zh01 zh02 zh0l
        refine wpAnyH_take (i := 10) (v := ?_) rfl (by kernel_rfl) (by kernel_rfl) (by kernel_rfl) (fun _ _ _ h => h) (Or.inl ⟨by kernel_rfl, ?_⟩) (by assumption) ?_
        rotate_left
        · intro W hSw
          try dsimp only at hSw
          go_simp
          try with_reducible rfl
        simp only [Act.put, List.setIfInBounds_toArray]
        refine wpAnyH_done (by kernel_rfl) ?_ _
        clear hH9
        clear Fyd_44
        clear Fyb_44
        obtain ⟨zad0, zad1, zad2, _, _, _, zadl⟩ := blk_cells Xad_44.out
        obtain ⟨zab0, zab1, zab2, _, _, _, zabl⟩ := blk_cells Xab_44.out
        obtain ⟨zw00, zw01, zw02, _, _, _, zw0l⟩ := blk_cells Xw0_44.out
        obtain ⟨zxd0, zxd1, zxd2, _, _, _, zxdl⟩ := blk_cells Xxd_44.out
        obtain ⟨zxb0, zxb1, zxb2, _, _, _, zxbl⟩ := blk_cells Xxb_44.out
        obtain ⟨zg00, zg01, zg02, _, _, _, zg0l⟩ := blk_cells Xg0_44.out
        obtain ⟨zh00, zh01, zh02, _, _, _, zh0l⟩ := blk_cells Xh0_44.out
        go_wp2_with fail
        clear zad0 zad1 zad2 zadl
        clear zab0 zab1 zab2 zabl
        clear zw00 zw01 zw02 zw0l
        clear zxd0 zxd1 zxd2 zxdl
        clear zxb0 zxb1 zxb2 zxbl
        clear zg00 zg01 zg02 zg0l
        clear zh00 zh01 zh02 zh0l
        refine (eqDiagram_same r0a r0b _ _ _ _ _ r0 _ (Lib.hid (own_nlies rfl Fh0_44.out)) (Lib.hid (own_nlies rfl Fw0_44.out)) (Lib.hid rfl) (by omega)).mono ?_
        rintro e w45 ⟨rfl, hb⟩
        have S45 := Lib.hid (hb.size)
        have B45 := Lib.hid (Below.tr B44.out hb)
        have Fw0_45 := Lib.hid (own_below Fw0_44.out hb)
        clear Fw0_44
        have Fg0_45 := Lib.hid (own_below Fg0_44.out hb)
        clear Fg0_44
        have Fh0_45 := Lib.hid (own_below Fh0_44.out hb)
        clear Fh0_44
        have Xad_45 := Lib.hid (Xad_44.out.below hb)
        clear Xad_44
        have Xab_45 := Lib.hid (Xab_44.out.below hb)
        clear Xab_44
        have Xw0_45 := Lib.hid (Xw0_44.out.below hb)
        clear Xw0_44
        have Xxd_45 := Lib.hid (Xxd_44.out.below hb)
        clear Xxd_44
        have Xxb_45 := Lib.hid (Xxb_44.out.below hb)
        clear Xxb_44
        have Xg0_45 := Lib.hid (Xg0_44.out.below hb)
        clear Xg0_44
        have Xh0_45 := Lib.hid (Xh0_44.out.below hb)
        clear Xh0_44
        clear hb
        clear Fh0_45
        clear Fw0_45
        obtain ⟨zad0, zad1, zad2, _, _, _, zadl⟩ := blk_cells Xad_45.out
        obtain ⟨zab0, zab1, zab2, _, _, _, zabl⟩ := blk_cells Xab_45.out
        obtain ⟨zw00, zw01, zw02, _, _, _, zw0l⟩ := blk_cells Xw0_45.out
        obtain ⟨zxd0, zxd1, zxd2, _, _, _, zxdl⟩ := blk_cells Xxd_45.out
        obtain ⟨zxb0, zxb1, zxb2, _, _, _, zxbl⟩ := blk_cells Xxb_45.out
        obtain ⟨zg00, zg01, zg02, _, _, _, zg0l⟩ := blk_cells Xg0_45.out
        obtain ⟨zh00, zh01, zh02, _, _, _, zh0l⟩ := blk_cells Xh0_45.out
        go_wp2_with fail
        clear zad0 zad1 zad2 zadl
        clear zab0 zab1 zab2 zabl
        clear zw00 zw01 zw02 zw0l
        clear zxd0 zxd1 zxd2 zxdl
        clear zxb0 zxb1 zxb2 zxbl
        clear zg00 zg01 zg02 zg0l
        clear zh00 zh01 zh02 zh0l
        refine (heldDiagram_any r0a r0b _ _ _ (1) _ (Lib.hid (own_nlies (ndIs_len _ _) Fg0_45.out)) (by omega) (by omega)).mono ?_
        rintro e w46 ⟨rfl, hb⟩
        have S46 := Lib.hid (hb.size)
        have B46 := Lib.hid (Below.tr B45.out hb)
        have Fg0_46 := Lib.hid (own_below Fg0_45.out hb)
        clear Fg0_45
        have Xad_46 := Lib.hid (Xad_45.out.below hb)
        clear Xad_45
        have Xab_46 := Lib.hid (Xab_45.out.below hb)
        clear Xab_45
        have Xw0_46 := Lib.hid (Xw0_45.out.below hb)
        clear Xw0_45
        have Xxd_46 := Lib.hid (Xxd_45.out.below hb)
        clear Xxd_45
        have Xxb_46 := Lib.hid (Xxb_45.out.below hb)
        clear Xxb_45
        have Xg0_46 := Lib.hid (Xg0_45.out.below hb)
        clear Xg0_45
        have Xh0_46 := Lib.hid (Xh0_45.out.below hb)
        clear Xh0_45
        clear hb
        obtain ⟨zad0, zad1, zad2, _, _, _, zadl⟩ := blk_cells Xad_46.out
        obtain ⟨zab0, zab1, zab2, _, _, _, zabl⟩ := blk_cells Xab_46.out
        obtain ⟨zw00, zw01, zw02, _, _, _, zw0l⟩ := blk_cells Xw0_46.out
        obtain ⟨zxd0, zxd1, zxd2, _, _, _, zxdl⟩ := blk_cells Xxd_46.out
        obtain ⟨zxb0, zxb1, zxb2, _, _, _, zxbl⟩ := blk_cells Xxb_46.out
        obtain ⟨zg00, zg01, zg02, _, _, _, zg0l⟩ := blk_cells Xg0_46.out
        obtain ⟨zh00, zh01, zh02, _, _, _, zh0l⟩ := blk_cells Xh0_46.out
        go_wp2
        go_ret
        exact ⟨rfl, B46.out⟩
      ·
        go_simp
        obtain ⟨w42, hw42⟩ : ∃ W, W = w41.alloc (.cells #[.int .i64 0, .slice none 0 0, .int .i64 0] 28) := ⟨_, rfl⟩
        have hb : Below w41.heap.size w41 w42 := by rw [hw42]; exact below1 _ _
        have hx : Blk w42 w41.heap.size 28 [.int .i64 0, .slice none 0 0, .int .i64 0] := by rw [hw42]; exact heap_alloc_new _ _
        have hsz : w42.heap.size = w41.heap.size + 1 := by rw [hw42]; simp
        rw [← hw42]
        clear hw42
        have S42 := Lib.hid (hb.size)
        have SE42 := Lib.hid hsz
        have B42 := Lib.hid (Below.tr B41.out hb)
        have Fw0_42 := Lib.hid (own_below Fw0_41.out hb)
        clear Fw0_41
        have Fg0_42 := Lib.hid (own_below Fg0_41.out hb)
        clear Fg0_41
        have Fyd_42 := Lib.hid (own_below Fyd_41.out hb)
        clear Fyd_41
        have Fyb_42 := Lib.hid (own_below Fyb_41.out hb)
        clear Fyb_41
        have Xad_42 := Lib.hid (Xad_41.out.below hb)
        clear Xad_41
        have Xab_42 := Lib.hid (Xab_41.out.below hb)
        clear Xab_41
        have Xw0_42 := Lib.hid (Xw0_41.out.below hb)
        clear Xw0_41
        have Xxd_42 := Lib.hid (Xxd_41.out.below hb)
        clear Xxd_41
        have Xxb_42 := Lib.hid (Xxb_41.out.below hb)
        clear Xxb_41
        have Xg0_42 := Lib.hid (Xg0_41.out.below hb)
        clear Xg0_41
        have Xh0_42 := Lib.hid hx
        clear hb hx hsz
        obtain ⟨qh, hq⟩ : ∃ q, w41.heap.size = q := ⟨_, rfl⟩
        have SQh : Hid (w41.heap.size = qh) := Lib.hid hq
        rw [hq] at Xh0_42 ⊢
        clear hq
        obtain ⟨zad0, zad1, zad2, _, _, _, zadl⟩ := blk_cells Xad_42.out
        obtain ⟨zab0, zab1, zab2, _, _, _, zabl⟩ := blk_cells Xab_42.out
        obtain ⟨zw00, zw01, zw02, _, _, _, zw0l⟩ := blk_cells Xw0_42.out
        obtain ⟨zxd0, zxd1, zxd2, _, _, _, zxdl⟩ := blk_cells Xxd_42.out
        obtain ⟨zxb0, zxb1, zxb2, _, _, _, zxbl⟩ := blk_cells Xxb_42.out
        obtain ⟨zg00, zg01, zg02, _, _, _, zg0l⟩ := blk_cells Xg0_42.out
        obtain ⟨zh00, zh01, zh02, _, _, _, zh0l⟩ := blk_cells Xh0_42.out
        refine hK.out _ _ ⟨zad0, zad1, zad2, zab0, zab1, zab2⟩ (fun hH2a => ?_)
        clear hK K hH2
        try simp only [Act.put, List.setIfInBounds_toArray, List.set_cons_zero, List.set_cons_succ]
        clear zad0 zad1 zad2 zadl
        clear zab0 zab1 zab2 zabl
        clear zw00 zw01 zw02 zw0l
        clear zxd0 zxd1 zxd2 zxdl
        clear zxb0 zxb1 zxb2 zxbl
        clear zg00 zg01 zg02 zg0l
        clear zh00 zh01 zh02 zh0l
        refine wpAnyH_ready (rs := [4]) (by kernel_rfl) (by simp) ?_
        refine AllReadyH.cons rfl (fun K hK => ?_) AllReadyH.nil
        go_simp
        refine (implBoth_any d0 d2 b0 b2 _ _ _ _ _ _ d b _ r0a r0 r0b r1 HR (Lib.hid (own_nlies HXd.out Fyd_42.out)) HXd hsd (Lib.hid (own_nlies HXb.out Fyb_42.out)) HXb hsb).mono ?_
        rintro e w43 ⟨Ah0, ch0, rfl, ho0, hb⟩
        have S43 := Lib.hid (hb.size)
        have B43 := Lib.hid (Below.tr B42.out hb)
        have Fw0_43 := Lib.hid (own_below Fw0_42.out hb)
        clear Fw0_42
        have Fg0_43 := Lib.hid (own_below Fg0_42.out hb)
        clear Fg0_42
        have Fyd_43 := Lib.hid (own_below Fyd_42.out hb)
        clear Fyd_42
        have Fyb_43 := Lib.hid (own_below Fyb_42.out hb)
        clear Fyb_42
        have Xad_43 := Lib.hid (Xad_42.out.below hb)
        clear Xad_42
        have Xab_43 := Lib.hid (Xab_42.out.below hb)
        clear Xab_42
        have Xw0_43 := Lib.hid (Xw0_42.out.below hb)
        clear Xw0_42
        have Xxd_43 := Lib.hid (Xxd_42.out.below hb)
        clear Xxd_42
        have Xxb_43 := Lib.hid (Xxb_42.out.below hb)
        clear Xxb_42
        have Xg0_43 := Lib.hid (Xg0_42.out.below hb)
        clear Xg0_42
        have Xh0_43 := Lib.hid (Xh0_42.out.below hb)
        clear Xh0_42
        have Fh0_43 := Lib.hid (ho0)
        have Ph0 : Hid (∀ g, (.slice Ah0 r0.length ch0 : Value).ownBlock = some g → w42.heap.size ≤ g ∧ g < w43.heap.size) := Lib.hid (fun g h => Fh0_43.out.lt g h)
        clear hb ho0
        obtain ⟨zad0, zad1, zad2, _, _, _, zadl⟩ := blk_cells Xad_43.out
        obtain ⟨zab0, zab1, zab2, _, _, _, zabl⟩ := blk_cells Xab_43.out
        obtain ⟨zw00, zw01, zw02, _, _, _, zw0l⟩ := blk_cells Xw0_43.out
        obtain ⟨zxd0, zxd1, zxd2, _, _, _, zxdl⟩ := blk_cells Xxd_43.out
        obtain ⟨zxb0, zxb1, zxb2, _, _, _, zxbl⟩ := blk_cells Xxb_43.out
        obtain ⟨zg00, zg01, zg02, _, _, _, zg0l⟩ := blk_cells Xg0_43.out
        obtain ⟨zh00, zh01, zh02, _, _, _, zh0l⟩ := blk_cells Xh0_43.out
        refine hK.out _ _ ⟨zad0, zad1, zad2, zab0, zab1, zab2⟩ (fun hH3a => ?_)
        clear hK K hH2a
        try simp only [Act.put, List.setIfInBounds_toArray, List.set_cons_zero, List.set_cons_succ]
        clear zad0 zad1 zad2 zadl
        clear zab0 zab1 zab2 zabl
        clear zw00 zw01 zw02 zw0l
        clear zxd0 zxd1 zxd2 zxdl
        clear zxb0 zxb1 zxb2 zxbl
        clear zg00 zg01 zg02 zg0l
        clear zh00 zh01 zh02 zh0l
        refine wpAnyH_take (i := 5) (v := ?_) rfl (by kernel_rfl) (by kernel_rfl) (by kernel_rfl) (fun _ _ _ h => h) (Or.inl ⟨by rfl, ?_⟩) (by assumption) ?_
        rotate_left
        · intro W hSw
          try dsimp only at hSw
          go_simp
          try with_reducible rfl
        simp only [Act.put, List.setIfInBounds_toArray]
        refine wpAnyH_take (i := 6) (v := ?_) rfl (by kernel_rfl) (by kernel_rfl) (by kernel_rfl) (fun _ _ _ h => h) (Or.inl ⟨by rfl, ?_⟩) (by assumption) ?_
        rotate_left
        · intro W hSw
          try dsimp only at hSw
          go_simp
          try with_reducible rfl
        simp only [Act.put]
        refine wpAnyH_take (i := 7) (v := ?_) rfl (by kernel_rfl) (by kernel_rfl) (by kernel_rfl) (fun _ _ _ h => h) (Or.inl ⟨by rfl, ?_⟩) (by assumption) ?_
        rotate_left
        · intro W hSw
          try dsimp only at hSw
          go_simp
          try with_reducible rfl
        simp only [Act.put]
        obtain ⟨zad0, zad1, zad2, _, _, _, zadl⟩ := blk_cells Xad_43.out
        obtain ⟨zab0, zab1, zab2, _, _, _, zabl⟩ := blk_cells Xab_43.out
        obtain ⟨zw00, zw01, zw02, _, _, _, zw0l⟩ := blk_cells Xw0_43.out
        obtain ⟨zxd0, zxd1, zxd2, _, _, _, zxdl⟩ := blk_cells Xxd_43.out
        obtain ⟨zxb0, zxb1, zxb2, _, _, _, zxbl⟩ := blk_cells Xxb_43.out
        obtain ⟨zg00, zg01, zg02, _, _, _, zg0l⟩ := blk_cells Xg0_43.out
        obtain ⟨zh00, zh01, zh02, _, _, _, zh0l⟩ := blk_cells Xh0_43.out
        refine wpAnyH_ready (rs := [9]) (by kernel_rfl) (by simp) ?_
        refine AllReadyH.cons rfl (fun K hK => ?_) AllReadyH.nil
        go_simp
        clear zad0 zad1 zad2 zadl
        clear zab0 zab1 zab2 zabl
        clear zw00 zw01 zw02 zw0l
        clear zxd0 zxd1 zxd2 zxdl
        clear zxb0 zxb1 zxb2 zxbl
        clear zg00 zg01 zg02 zg0l
        clear zh00 zh01 zh02 zh0l
        obtain ⟨w44, hw44⟩ : ∃ W, W = (((w43.setCell ⟨qh, 0, none⟩ (.int .i64 r0a)).setCell ⟨qh, 1, none⟩ (.slice Ah0 r0.length ch0)).setCell ⟨qh, 2, none⟩ (.int .i64 r0b)) := ⟨_, rfl⟩
        have hk : Kept w43 w44 (fun g => g = qh) := by rw [hw44]; exact lb_kept3 _ _ _ _ _
        have hx : Blk w44 qh 28 [.int .i64 r0a, .slice Ah0 r0.length ch0, .int .i64 r0b] := by rw [hw44]; exact lb_set3 Xh0_43.out _ _ _
        rw [← hw44]
        clear hw44
        have S44 := Lib.hid (hk.size)
        have B44 := Lib.hid (hk.below B43.out B43.out.size (fun i hi => by have : i = _ := hi; have := S1.out; have := SE1.out; have := S2.out; have := SE2.out; have := S3.out; have := S4.out; have := S20.out; have := SQw.out; have := S21.out; have := S22.out; have := SE22.out; have := S23.out; have := S24.out; have := SE24.out; have := S25.out; have := S26.out; have := SE26.out; have := S27.out; have := S28.out; have := S29.out; have := S30.out; have := S31.out; have := S32.out; have := S33.out; have := S34.out; have := S35.out; have := S36.out; have := S37.out; have := S38.out; have := S39.out; have := S40.out; have := S41.out; have := S42.out; have := SE42.out; have := SQh.out; have := S43.out; have := S44.out; omega))
        have Fw0_44 := Lib.hid (hk.own3 Fw0_43.out (fun g h q => by have : g = _ := q; have := Pw0.out g h; have := S1.out; have := SE1.out; have := S2.out; have := SE2.out; have := S3.out; have := S4.out; have := S20.out; have := SQw.out; have := S21.out; have := S22.out; have := SE22.out; have := S23.out; have := S24.out; have := SE24.out; have := S25.out; have := S26.out; have := SE26.out; have := S27.out; have := S28.out; have := S29.out; have := S30.out; have := S31.out; have := S32.out; have := S33.out; have := S34.out; have := S35.out; have := S36.out; have := S37.out; have := S38.out; have := S39.out; have := S40.out; have := S41.out; have := S42.out; have := SE42.out; have := SQh.out; have := S43.out; have := S44.out; omega))
        clear Fw0_43
        have Fg0_44 := Lib.hid (hk.own3 Fg0_43.out (fun g h q => by have : g = _ := q; have := Pg0.out g h; have := S1.out; have := SE1.out; have := S2.out; have := SE2.out; have := S3.out; have := S4.out; have := S20.out; have := SQw.out; have := S21.out; have := S22.out; have := SE22.out; have := S23.out; have := S24.out; have := SE24.out; have := S25.out; have := S26.out; have := SE26.out; have := S27.out; have := S28.out; have := S29.out; have := S30.out; have := S31.out; have := S32.out; have := S33.out; have := S34.out; have := S35.out; have := S36.out; have := S37.out; have := S38.out; have := S39.out; have := S40.out; have := S41.out; have := S42.out; have := SE42.out; have := SQh.out; have := S43.out; have := S44.out; omega))
        clear Fg0_43
        have Fyd_44 := Lib.hid (hk.own3 Fyd_43.out (fun g h q => by have : g = _ := q; have := Pyd.out g h; have := S1.out; have := SE1.out; have := S2.out; have := SE2.out; have := S3.out; have := S4.out; have := S20.out; have := SQw.out; have := S21.out; have := S22.out; have := SE22.out; have := S23.out; have := S24.out; have := SE24.out; have := S25.out; have := S26.out; have := SE26.out; have := S27.out; have := S28.out; have := S29.out; have := S30.out; have := S31.out; have := S32.out; have := S33.out; have := S34.out; have := S35.out; have := S36.out; have := S37.out; have := S38.out; have := S39.out; have := S40.out; have := S41.out; have := S42.out; have := SE42.out; have := SQh.out; have := S43.out; have := S44.out; omega))
        clear Fyd_43
        have Fyb_44 := Lib.hid (hk.own3 Fyb_43.out (fun g h q => by have : g = _ := q; have := Pyb.out g h; have := S1.out; have := SE1.out; have := S2.out; have := SE2.out; have := S3.out; have := S4.out; have := S20.out; have := SQw.out; have := S21.out; have := S22.out; have := SE22.out; have := S23.out; have := S24.out; have := SE24.out; have := S25.out; have := S26.out; have := SE26.out; have := S27.out; have := S28.out; have := S29.out; have := S30.out; have := S31.out; have := S32.out; have := S33.out; have := S34.out; have := S35.out; have := S36.out; have := S37.out; have := S38.out; have := S39.out; have := S40.out; have := S41.out; have := S42.out; have := SE42.out; have := SQh.out; have := S43.out; have := S44.out; omega))
        clear Fyb_43
        have Fh0_44 := Lib.hid (hk.own3 Fh0_43.out (fun g h q => by have : g = _ := q; have := Ph0.out g h; have := S1.out; have := SE1.out; have := S2.out; have := SE2.out; have := S3.out; have := S4.out; have := S20.out; have := SQw.out; have := S21.out; have := S22.out; have := SE22.out; have := S23.out; have := S24.out; have := SE24.out; have := S25.out; have := S26.out; have := SE26.out; have := S27.out; have := S28.out; have := S29.out; have := S30.out; have := S31.out; have := S32.out; have := S33.out; have := S34.out; have := S35.out; have := S36.out; have := S37.out; have := S38.out; have := S39.out; have := S40.out; have := S41.out; have := S42.out; have := SE42.out; have := SQh.out; have := S43.out; have := S44.out; omega))
        clear Fh0_43
        have Xad_44 := Lib.hid (hk.blk Xad_43.out (fun q => by have : _ = qh := q; have := Xad_43.out.lt; have := S1.out; have := SE1.out; have := S2.out; have := SE2.out; have := S3.out; have := S4.out; have := S20.out; have := SQw.out; have := S21.out; have := S22.out; have := SE22.out; have := S23.out; have := S24.out; have := SE24.out; have := S25.out; have := S26.out; have := SE26.out; have := S27.out; have := S28.out; have := S29.out; have := S30.out; have := S31.out; have := S32.out; have := S33.out; have := S34.out; have := S35.out; have := S36.out; have := S37.out; have := S38.out; have := S39.out; have := S40.out; have := S41.out; have := S42.out; have := SE42.out; have := SQh.out; have := S43.out; have := S44.out; omega))
        clear Xad_43
        have Xab_44 := Lib.hid (hk.blk Xab_43.out (fun q => by have : _ = qh := q; have := Xab_43.out.lt; have := S1.out; have := SE1.out; have := S2.out; have := SE2.out; have := S3.out; have := S4.out; have := S20.out; have := SQw.out; have := S21.out; have := S22.out; have := SE22.out; have := S23.out; have := S24.out; have := SE24.out; have := S25.out; have := S26.out; have := SE26.out; have := S27.out; have := S28.out; have := S29.out; have := S30.out; have := S31.out; have := S32.out; have := S33.out; have := S34.out; have := S35.out; have := S36.out; have := S37.out; have := S38.out; have := S39.out; have := S40.out; have := S41.out; have := S42.out; have := SE42.out; have := SQh.out; have := S43.out; have := S44.out; omega))
        clear Xab_43
        have Xw0_44 := Lib.hid (hk.blk Xw0_43.out (fun q => by have : _ = qh := q; have := Xw0_43.out.lt; have := S1.out; have := SE1.out; have := S2.out; have := SE2.out; have := S3.out; have := S4.out; have := S20.out; have := SQw.out; have := S21.out; have := S22.out; have := SE22.out; have := S23.out; have := S24.out; have := SE24.out; have := S25.out; have := S26.out; have := SE26.out; have := S27.out; have := S28.out; have := S29.out; have := S30.out; have := S31.out; have := S32.out; have := S33.out; have := S34.out; have := S35.out; have := S36.out; have := S37.out; have := S38.out; have := S39.out; have := S40.out; have := S41.out; have := S42.out; have := SE42.out; have := SQh.out; have := S43.out; have := S44.out; omega))
        clear Xw0_43
        have Xxd_44 := Lib.hid (hk.blk Xxd_43.out (fun q => by have : _ = qh := q; have := Xxd_43.out.lt; have := S1.out; have := SE1.out; have := S2.out; have := SE2.out; have := S3.out; have := S4.out; have := S20.out; have := SQw.out; have := S21.out; have := S22.out; have := SE22.out; have := S23.out; have := S24.out; have := SE24.out; have := S25.out; have := S26.out; have := SE26.out; have := S27.out; have := S28.out; have := S29.out; have := S30.out; have := S31.out; have := S32.out; have := S33.out; have := S34.out; have := S35.out; have := S36.out; have := S37.out; have := S38.out; have := S39.out; have := S40.out; have := S41.out; have := S42.out; have := SE42.out; have := SQh.out; have := S43.out; have := S44.out; omega))
        clear Xxd_43
        have Xxb_44 := Lib.hid (hk.blk Xxb_43.out (fun q => by have : _ = qh := q; have := Xxb_43.out.lt; have := S1.out; have := SE1.out; have := S2.out; have := SE2.out; have := S3.out; have := S4.out; have := S20.out; have := SQw.out; have := S21.out; have := S22.out; have := SE22.out; have := S23.out; have := S24.out; have := SE24.out; have := S25.out; have := S26.out; have := SE26.out; have := S27.out; have := S28.out; have := S29.out; have := S30.out; have := S31.out; have := S32.out; have := S33.out; have := S34.out; have := S35.out; have := S36.out; have := S37.out; have := S38.out; have := S39.out; have := S40.out; have := S41.out; have := S42.out; have := SE42.out; have := SQh.out; have := S43.out; have := S44.out; omega))
        clear Xxb_43
        have Xg0_44 := Lib.hid (hk.blk Xg0_43.out (fun q => by have : _ = qh := q; have := Xg0_43.out.lt; have := S1.out; have := SE1.out; have := S2.out; have := SE2.out; have := S3.out; have := S4.out; have := S20.out; have := SQw.out; have := S21.out; have := S22.out; have := SE22.out; have := S23.out; have := S24.out; have := SE24.out; have := S25.out; have := S26.out; have := SE26.out; have := S27.out; have := S28.out; have := S29.out; have := S30.out; have := S31.out; have := S32.out; have := S33.out; have := S34.out; have := S35.out; have := S36.out; have := S37.out; have := S38.out; have := S39.out; have := S40.out; have := S41.out; have := S42.out; have := SE42.out; have := SQh.out; have := S43.out; have := S44.out; omega))
        clear Xg0_43
        clear Xh0_43
        have Xh0_44 := Lib.hid hx
        clear hx hk
        obtain ⟨zad0, zad1, zad2, _, _, _, zadl⟩ := blk_cells Xad_44.out
        obtain ⟨zab0, zab1, zab2, _, _, _, zabl⟩ := blk_cells Xab_44.out
        obtain ⟨zw00, zw01, zw02, _, _, _, zw0l⟩ := blk_cells Xw0_44.out
        obtain ⟨zxd0, zxd1, zxd2, _, _, _, zxdl⟩ := blk_cells Xxd_44.out
        obtain ⟨zxb0, zxb1, zxb2, _, _, _, zxbl⟩ := blk_cells Xxb_44.out
        obtain ⟨zg00, zg01, zg02, _, _, _, zg0l⟩ := blk_cells Xg0_44.out
        obtain ⟨zh00, zh01, zh02, _, _, _, zh0l⟩ := blk_cells Xh0_44.out
        refine hK.out _ _ ⟨zad0, zad1, zad2, zab0, zab1, zab2⟩ (fun hH9 => ?_)
        clear hK K hH3a
        try simp only [Act.put, List.setIfInBounds_toArray, List.set_cons_zero, List.set_cons_succ]
        clear zad0 zad1 zad2 zadl
        clear zab0 zab1 zab2 zabl
        clear zw00 zw01 zw02 zw0l
        clear zxd0 zxd1 zxd2 zxdl
        clear zxb0 zxb1 zxb2 zxbl
        clear zg00 zg01 zg02 zg0l
        clear zh00 zh01 zh02 zh0l
        refine wpAnyH_take (i := 10) (v := ?_) rfl (by kernel_rfl) (by kernel_rfl) (by kernel_rfl) (fun _ _ _ h => h) (Or.inl ⟨by kernel_rfl, ?_⟩) (by assumption) ?_
        rotate_left
        · intro W hSw
          try dsimp only at hSw
          go_simp
          try with_reducible rfl
        simp only [Act.put, List.setIfInBounds_toArray]
        refine wpAnyH_done (by kernel_rfl) ?_ _
        clear hH9
        clear Fyd_44
        clear Fyb_44
        obtain ⟨zad0, zad1, zad2, _, _, _, zadl⟩ := blk_cells Xad_44.out
        obtain ⟨zab0, zab1, zab2, _, _, _, zabl⟩ := blk_cells Xab_44.out
        obtain ⟨zw00, zw01, zw02, _, _, _, zw0l⟩ := blk_cells Xw0_44.out
        obtain ⟨zxd0, zxd1, zxd2, _, _, _, zxdl⟩ := blk_cells Xxd_44.out
        obtain ⟨zxb0, zxb1, zxb2, _, _, _, zxbl⟩ := blk_cells Xxb_44.out
        obtain ⟨zg00, zg01, zg02, _, _, _, zg0l⟩ := blk_cells Xg0_44.out
        obtain ⟨zh00, zh01, zh02, _, _, _, zh0l⟩ := blk_cells Xh0_44.out
        go_wp2_with fail
        clear zad0 zad1 zad2 zadl
        clear zab0 zab1 zab2 zabl
        clear zw00 zw01 zw02 zw0l
        clear zxd0 zxd1 zxd2 zxdl
        clear zxb0 zxb1 zxb2 zxbl
        clear zg00 zg01 zg02 zg0l
        clear zh00 zh01 zh02 zh0l
        refine (eqDiagram_same r0a r0b _ _ _ _ _ r0 _ (Lib.hid (own_nlies rfl Fh0_44.out)) (Lib.hid (own_nlies rfl Fw0_44.out)) (Lib.hid rfl) (by omega)).mono ?_
        rintro e w45 ⟨rfl, hb⟩
        have S45 := Lib.hid (hb.size)
        have B45 := Lib.hid (Below.tr B44.out hb)
        have Fw0_45 := Lib.hid (own_below Fw0_44.out hb)
        clear Fw0_44
        have Fg0_45 := Lib.hid (own_below Fg0_44.out hb)
        clear Fg0_44
        have Fh0_45 := Lib.hid (own_below Fh0_44.out hb)
        clear Fh0_44
        have Xad_45 := Lib.hid (Xad_44.out.below hb)
        clear Xad_44
        have Xab_45 := Lib.hid (Xab_44.out.below hb)
        clear Xab_44
        have Xw0_45 := Lib.hid (Xw0_44.out.below hb)
        clear Xw0_44
        have Xxd_45 := Lib.hid (Xxd_44.out.below hb)
        clear Xxd_44
        have Xxb_45 := Lib.hid (Xxb_44.out.below hb)
        clear Xxb_44
        have Xg0_45 := Lib.hid (Xg0_44.out.below hb)
        clear Xg0_44
        have Xh0_45 := Lib.hid (Xh0_44.out.below hb)
        clear Xh0_44
        clear hb
        clear Fh0_45
        clear Fw0_45
        obtain ⟨zad0, zad1, zad2, _, _, _, zadl⟩ := blk_cells Xad_45.out
        obtain ⟨zab0, zab1, zab2, _, _, _, zabl⟩ := blk_cells Xab_45.out
        obtain ⟨zw00, zw01, zw02, _, _, _, zw0l⟩ := blk_cells Xw0_45.out
        obtain ⟨zxd0, zxd1, zxd2, _, _, _, zxdl⟩ := blk_cells Xxd_45.out
        obtain ⟨zxb0, zxb1, zxb2, _, _, _, zxbl⟩ := blk_cells Xxb_45.out
        obtain ⟨zg00, zg01, zg02, _, _, _, zg0l⟩ := blk_cells Xg0_45.out
        obtain ⟨zh00, zh01, zh02, _, _, _, zh0l⟩ := blk_cells Xh0_45.out
        go_wp2_with fail
        clear zad0 zad1 zad2 zadl
        clear zab0 zab1 zab2 zabl
        clear zw00 zw01 zw02 zw0l
        clear zxd0 zxd1 zxd2 zxdl
        clear zxb0 zxb1 zxb2 zxbl
        clear zg00 zg01 zg02 zg0l
        clear zh00 zh01 zh02 zh0l
        refine (heldDiagram_any r0a r0b _ _ _ (1) _ (Lib.hid (own_nlies (ndIs_len _ _) Fg0_45.out)) (by omega) (by omega)).mono ?_
        rintro e w46 ⟨rfl, hb⟩
        have S46 := Lib.hid (hb.size)
        have B46 := Lib.hid (Below.tr B45.out hb)
        have Fg0_46 := Lib.hid (own_below Fg0_45.out hb)
        clear Fg0_45
        have Xad_46 := Lib.hid (Xad_45.out.below hb)
        clear Xad_45
        have Xab_46 := Lib.hid (Xab_45.out.below hb)
        clear Xab_45
        have Xw0_46 := Lib.hid (Xw0_45.out.below hb)
        clear Xw0_45
        have Xxd_46 := Lib.hid (Xxd_45.out.below hb)
        clear Xxd_45
        have Xxb_46 := Lib.hid (Xxb_45.out.below hb)
        clear Xxb_45
        have Xg0_46 := Lib.hid (Xg0_45.out.below hb)
        clear Xg0_45
        have Xh0_46 := Lib.hid (Xh0_45.out.below hb)
        clear Xh0_45
        clear hb
        obtain ⟨zad0, zad1, zad2, _, _, _, zadl⟩ := blk_cells Xad_46.out
        obtain ⟨zab0, zab1, zab2, _, _, _, zabl⟩ := blk_cells Xab_46.out
        obtain ⟨zw00, zw01, zw02, _, _, _, zw0l⟩ := blk_cells Xw0_46.out
        obtain ⟨zxd0, zxd1, zxd2, _, _, _, zxdl⟩ := blk_cells Xxd_46.out
        obtain ⟨zxb0, zxb1, zxb2, _, _, _, zxbl⟩ := blk_cells Xxb_46.out
        obtain ⟨zg00, zg01, zg02, _, _, _, zg0l⟩ := blk_cells Xg0_46.out
        obtain ⟨zh00, zh01, zh02, _, _, _, zh0l⟩ := blk_cells Xh0_46.out
        go_wp2
        go_ret
        exact ⟨rfl, B46.out⟩
    ·
      go_simp
      obtain ⟨w41, hw41⟩ : ∃ W, W = w40.alloc (.cells #[.int .i64 0, .slice none 0 0, .int .i64 0] 28) := ⟨_, rfl⟩
      have hb : Below w40.heap.size w40 w41 := by rw [hw41]; exact below1 _ _
      have hx : Blk w41 w40.heap.size 28 [.int .i64 0, .slice none 0 0, .int .i64 0] := by rw [hw41]; exact heap_alloc_new _ _
      have hsz : w41.heap.size = w40.heap.size + 1 := by rw [hw41]; simp
      rw [← hw41]
      clear hw41
      have S41 := Lib.hid (hb.size)
      have SE41 := Lib.hid hsz
      have B41 := Lib.hid (Below.tr B40.out hb)
      have Fw0_41 := Lib.hid (own_below Fw0_40.out hb)
      clear Fw0_40
      have Fg0_41 := Lib.hid (own_below Fg0_40.out hb)
      clear Fg0_40
      have Fyd_41 := Lib.hid (own_below Fyd_40.out hb)
      clear Fyd_40
      have Xad_41 := Lib.hid (Xad_40.out.below hb)
      clear Xad_40
      have Xab_41 := Lib.hid (Xab_40.out.below hb)
      clear Xab_40
      have Xw0_41 := Lib.hid (Xw0_40.out.below hb)
      clear Xw0_40
      have Xxd_41 := Lib.hid (Xxd_40.out.below hb)
      clear Xxd_40
      have Xxb_41 := Lib.hid (Xxb_40.out.below hb)
      clear Xxb_40
      have Xg0_41 := Lib.hid (Xg0_40.out.below hb)
      clear Xg0_40
      have Xh0_41 := Lib.hid hx
      clear hb hx hsz
      obtain ⟨qh, hq⟩ : ∃ q, w40.heap.size = q := ⟨_, rfl⟩
      have SQh : Hid (w40.heap.size = qh) := Lib.hid hq
      rw [hq] at Xh0_41 ⊢
      clear hq
      obtain ⟨zad0, zad1, zad2, _, _, _, zadl⟩ := blk_cells Xad_41.out
      obtain ⟨zab0, zab1, zab2, _, _, _, zabl⟩ := blk_cells Xab_41.out
      obtain ⟨zw00, zw01, zw02, _, _, _, zw0l⟩ := blk_cells Xw0_41.out
      obtain ⟨zxd0, zxd1, zxd2, _, _, _, zxdl⟩ := blk_cells Xxd_41.out
      obtain ⟨zxb0, zxb1, zxb2, _, _, _, zxbl⟩ := blk_cells Xxb_41.out
      obtain ⟨zg00, zg01, zg02, _, _, _, zg0l⟩ := blk_cells Xg0_41.out
      obtain ⟨zh00, zh01, zh02, _, _, _, zh0l⟩ := blk_cells Xh0_41.out
      refine hK.out _ _ ⟨zad0, zad1, zad2, zab0, zab1, zab2⟩ (fun hH1a => ?_)
      clear hK K hH1
      try simp only [Act.put, List.setIfInBounds_toArray, List.set_cons_zero, List.set_cons_succ]
      clear zad0 zad1 zad2 zadl
      clear zab0 zab1 zab2 zabl
      clear zw00 zw01 zw02 zw0l
      clear zxd0 zxd1 zxd2 zxdl
      clear zxb0 zxb1 zxb2 zxbl
      clear zg00 zg01 zg02 zg0l
      clear zh00 zh01 zh02 zh0l
      refine wpAnyH_ready (rs := [3]) (by kernel_rfl) (by simp) ?_
      refine AllReadyH.cons rfl (fun K hK => ?_) AllReadyH.nil
      go_simp
      refine (toDiagram_any b0 b2 _ _ _ b _ (Lib.hid (HLb.out.below B41.out)) HXb hsb).mono ?_
      rintro e w42 ⟨gyb, rfl, hge, kk, hb⟩
      have S42 := Lib.hid (hb.size)
      have B42 := Lib.hid (Below.tr B41.out hb)
      have Fw0_42 := Lib.hid (own_below Fw0_41.out hb)
      clear Fw0_41
      have Fg0_42 := Lib.hid (own_below Fg0_41.out hb)
      clear Fg0_41
      have Fyd_42 := Lib.hid (own_below Fyd_41.out hb)
      clear Fyd_41
      have Xad_42 := Lib.hid (Xad_41.out.below hb)
      clear Xad_41
      have Xab_42 := Lib.hid (Xab_41.out.below hb)
      clear Xab_41
      have Xw0_42 := Lib.hid (Xw0_41.out.below hb)
      clear Xw0_41
      have Xxd_42 := Lib.hid (Xxd_41.out.below hb)
      clear Xxd_41
      have Xxb_42 := Lib.hid (Xxb_41.out.below hb)
      clear Xxb_41
      have Xg0_42 := Lib.hid (Xg0_41.out.below hb)
      clear Xg0_41
      have Xh0_42 := Lib.hid (Xh0_41.out.below hb)
      clear Xh0_41
      have Fyb_42 := Lib.hid (own_baseN (own_of_nblk kk HXb.out hsb) hge)
      have Pyb : Hid (∀ g, (.slice (some ⟨gyb, 0, none⟩) nb nb : Value).ownBlock = some g → w41.heap.size ≤ g ∧ g < w42.heap.size) := Lib.hid (fun g h => Fyb_42.out.lt g h)
      clear kk hb hge
      obtain ⟨zad0, zad1, zad2, _, _, _, zadl⟩ := blk_cells Xad_42.out
      obtain ⟨zab0, zab1, zab2, _, _, _, zabl⟩ := blk_cells Xab_42.out
      obtain ⟨zw00, zw01, zw02, _, _, _, zw0l⟩ := blk_cells Xw0_42.out
      obtain ⟨zxd0, zxd1, zxd2, _, _, _, zxdl⟩ := blk_cells Xxd_42.out
      obtain ⟨zxb0, zxb1, zxb2, _, _, _, zxbl⟩ := blk_cells Xxb_42.out
      obtain ⟨zg00, zg01, zg02, _, _, _, zg0l⟩ := blk_cells Xg0_42.out
      obtain ⟨zh00, zh01, zh02, _, _, _, zh0l⟩ := blk_cells Xh0_42.out
      refine hK.out _ _ ⟨zad0, zad1, zad2, zab0, zab1, zab2⟩ (fun hH2a => ?_)
      clear hK K hH1a
      try simp only [Act.put, List.setIfInBounds_toArray, List.set_cons_zero, List.set_cons_succ]
      clear zad0 zad1 zad2 zadl
      clear zab0 zab1 zab2 zabl
      clear zw00 zw01 zw02 zw0l
      clear zxd0 zxd1 zxd2 zxdl
      clear zxb0 zxb1 zxb2 zxbl
      clear zg00 zg01 zg02 zg0l
      clear zh00 zh01 zh02 zh0l
      refine wpAnyH_ready (rs := [4]) (by kernel_rfl) (by simp) ?_
      refine AllReadyH.cons rfl (fun K hK => ?_) AllReadyH.nil
      go_simp
      refine (implBoth_any d0 d2 b0 b2 _ _ _ _ _ _ d b _ r0a r0 r0b r1 HR (Lib.hid (own_nlies HXd.out Fyd_42.out)) HXd hsd (Lib.hid (own_nlies HXb.out Fyb_42.out)) HXb hsb).mono ?_
      rintro e w43 ⟨Ah0, ch0, rfl, ho0, hb⟩
      have S43 := Lib.hid (hb.size)
      have B43 := Lib.hid (Below.tr B42.out hb)
      have Fw0_43 := Lib.hid (own_below Fw0_42.out hb)
      clear Fw0_42
      have Fg0_43 := Lib.hid (own_below Fg0_42.out hb)
      clear Fg0_42
      have Fyd_43 := Lib.hid (own_below Fyd_42.out hb)
      clear Fyd_42
      have Fyb_43 := Lib.hid (own_below Fyb_42.out hb)
      clear Fyb_42
      have Xad_43 := Lib.hid (Xad_42.out.below hb)
      clear Xad_42
      have Xab_43 := Lib.hid (Xab_42.out.below hb)
      clear Xab_42
      have Xw0_43 := Lib.hid (Xw0_42.out.below hb)
      clear Xw0_42
      have Xxd_43 := Lib.hid (Xxd_42.out.below hb)
      clear Xxd_42
      have Xxb_43 := Lib.hid (Xxb_42.out.below hb)
      clear Xxb_42
      have Xg0_43 := Lib.hid (Xg0_42.out.below hb)
      clear Xg0_42
      have Xh0_43 := Lib.hid (Xh0_42.out.below hb)
      clear Xh0_42
      have Fh0_43 := Lib.hid (ho0)
      have Ph0 : Hid (∀ g, (.slice Ah0 r0.length ch0 : Value).ownBlock = some g → w42.heap.size ≤ g ∧ g < w43.heap.size) := Lib.hid (fun g h => Fh0_43.out.lt g h)
      clear hb ho0
      obtain ⟨zad0, zad1, zad2, _, _, _, zadl⟩ := blk_cells Xad_43.out
      obtain ⟨zab0, zab1, zab2, _, _, _, zabl⟩ := blk_cells Xab_43.out
      obtain ⟨zw00, zw01, zw02, _, _, _, zw0l⟩ := blk_cells Xw0_43.out
      obtain ⟨zxd0, zxd1, zxd2, _, _, _, zxdl⟩ := blk_cells Xxd_43.out
      obtain ⟨zxb0, zxb1, zxb2, _, _, _, zxbl⟩ := blk_cells Xxb_43.out
      obtain ⟨zg00, zg01, zg02, _, _, _, zg0l⟩ := blk_cells Xg0_43.out
      obtain ⟨zh00, zh01, zh02, _, _, _, zh0l⟩ := blk_cells Xh0_43.out
      refine hK.out _ _ ⟨zad0, zad1, zad2, zab0, zab1, zab2⟩ (fun hH3a => ?_)
      clear hK K hH2a
      try simp only [Act.put, List.setIfInBounds_toArray, List.set_cons_zero, List.set_cons_succ]
      clear zad0 zad1 zad2 zadl
      clear zab0 zab1 zab2 zabl
      clear zw00 zw01 zw02 zw0l
      clear zxd0 zxd1 zxd2 zxdl
      clear zxb0 zxb1 zxb2 zxbl
      clear zg00 zg01 zg02 zg0l
      clear zh00 zh01 zh02 zh0l
      refine wpAnyH_take (i := 5) (v := ?_) rfl (by kernel_rfl) (by kernel_rfl) (by kernel_rfl) (fun _ _ _ h => h) (Or.inl ⟨by rfl, ?_⟩) (by assumption) ?_
      rotate_left
      · intro W hSw
        try dsimp only at hSw
        go_simp
        try with_reducible rfl
      simp only [Act.put, List.setIfInBounds_toArray]
      refine wpAnyH_take (i := 6) (v := ?_) rfl (by kernel_rfl) (by kernel_rfl) (by kernel_rfl) (fun _ _ _ h => h) (Or.inl ⟨by rfl, ?_⟩) (by assumption) ?_
      rotate_left
      · intro W hSw
        try dsimp only at hSw
        go_simp
        try with_reducible rfl
      simp only [Act.put]
      refine wpAnyH_take (i := 7) (v := ?_) rfl (by kernel_rfl) (by kernel_rfl) (by kernel_rfl) (fun _ _ _ h => h) (Or.inl ⟨by rfl, ?_⟩) (by assumption) ?_
      rotate_left
      · intro W hSw
        try dsimp only at hSw
        go_simp
        try with_reducible rfl
      simp only [Act.put]
      obtain ⟨zad0, zad1, zad2, _, _, _, zadl⟩ := blk_cells Xad_43.out
      obtain ⟨zab0, zab1, zab2, _, _, _, zabl⟩ := blk_cells Xab_43.out
      obtain ⟨zw00, zw01, zw02, _, _, _, zw0l⟩ := blk_cells Xw0_43.out
      obtain ⟨zxd0, zxd1, zxd2, _, _, _, zxdl⟩ := blk_cells Xxd_43.out
      obtain ⟨zxb0, zxb1, zxb2, _, _, _, zxbl⟩ := blk_cells Xxb_43.out
      obtain ⟨zg00, zg01, zg02, _, _, _, zg0l⟩ := blk_cells Xg0_43.out
      obtain ⟨zh00, zh01, zh02, _, _, _, zh0l⟩ := blk_cells Xh0_43.out
      refine wpAnyH_ready (rs := [9]) (by kernel_rfl) (by simp) ?_
      refine AllReadyH.cons rfl (fun K hK => ?_) AllReadyH.nil
      go_simp
      clear zad0 zad1 zad2 zadl
      clear zab0 zab1 zab2 zabl
      clear zw00 zw01 zw02 zw0l
      clear zxd0 zxd1 zxd2 zxdl
      clear zxb0 zxb1 zxb2 zxbl
      clear zg00 zg01 zg02 zg0l
      clear zh00 zh01 zh02 zh0l
      obtain ⟨w44, hw44⟩ : ∃ W, W = (((w43.setCell ⟨qh, 0, none⟩ (.int .i64 r0a)).setCell ⟨qh, 1, none⟩ (.slice Ah0 r0.length ch0)).setCell ⟨qh, 2, none⟩ (.int .i64 r0b)) := ⟨_, rfl⟩
      have hk : Kept w43 w44 (fun g => g = qh) := by rw [hw44]; exact lb_kept3 _ _ _ _ _
      have hx : Blk w44 qh 28 [.int .i64 r0a, .slice Ah0 r0.length ch0, .int .i64 r0b] := by rw [hw44]; exact lb_set3 Xh0_43.out _ _ _
      rw [← hw44]
      clear hw44
      have S44 := Lib.hid (hk.size)
      have B44 := Lib.hid (hk.below B43.out B43.out.size (fun i hi => by have : i = _ := hi; have := S1.out; have := SE1.out; have := S2.out; have := SE2.out; have := S3.out; have := S4.out; have := S20.out; have := SQw.out; have := S21.out; have := S22.out; have := SE22.out; have := S23.out; have := S24.out; have := SE24.out; have := S25.out; have := S26.out; have := SE26.out; have := S27.out; have := S28.out; have := S29.out; have := S30.out; have := S31.out; have := S32.out; have := S33.out; have := S34.out; have := S35.out; have := S36.out; have := S37.out; have := S38.out; have := S39.out; have := S40.out; have := S41.out; have := SE41.out; have := SQh.out; have := S42.out; have := S43.out; have := S44.out; omega))
      have Fw0_44 := Lib.hid (hk.own3 Fw0_43.out (fun g h q => by have : g = _ := q; have := Pw0.out g h; have := S1.out; have := SE1.out; have := S2.out; have := SE2.out; have := S3.out; have := S4.out; have := S20.out; have := SQw.out; have := S21.out; have := S22.out; have := SE22.out; have := S23.out; have := S24.out; have := SE24.out; have := S25.out; have := S26.out; have := SE26.out; have := S27.out; have := S28.out; have := S29.out; have := S30.out; have := S31.out; have := S32.out; have := S33.out; have := S34.out; have := S35.out; have := S36.out; have := S37.out; have := S38.out; have := S39.out; have := S40.out; have := S41.out; have := SE41.out; have := SQh.out; have := S42.out; have := S43.out; have := S44.out; omega))
      clear Fw0_43
      have Fg0_44 := Lib.hid (hk.own3 Fg0_43.out (fun g h q => by have : g = _ := q; have := Pg0.out g h; have := S1.out; have := SE1.out; have := S2.out; have := SE2.out; have := S3.out; have := S4.out; have := S20.out; have := SQw.out; have := S21.out; have := S22.out; have := SE22.out; have := S23.out; have := S24.out; have := SE24.out; have := S25.out; have := S26.out; have := SE26.out; have := S27.out; have := S28.out; have := S29.out; have := S30.out; have := S31.out; have := S32.out; have := S33.out; have := S34.out; have := S35.out; have := S36.out; have := S37.out; have := S38.out; have := S39.out; have := S40.out; have := S41.out; have := SE41.out; have := SQh.out; have := S42.out; have := S43.out; have := S44.out; omega))
      clear Fg0_43
      have Fyd_44 := Lib.hid (hk.own3 Fyd_43.out (fun g h q => by have : g = _ := q; have := Pyd.out g h; have := S1.out; have := SE1.out; have := S2.out; have := SE2.out; have := S3.out; have := S4.out; have := S20.out; have := SQw.out; have := S21.out; have := S22.out; have := SE22.out; have := S23.out; have := S24.out; have := SE24.out; have := S25.out; have := S26.out; have := SE26.out; have := S27.out; have := S28.out; have := S29.out; have := S30.out; have := S31.out; have := S32.out; have := S33.out; have := S34.out; have := S35.out; have := S36.out; have := S37.out; have := S38.out; have := S39.out; have := S40.out; have := S41.out; have := SE41.out; have := SQh.out; have := S42.out; have := S43.out; have := S44.out; omega))
      clear Fyd_43
      have Fyb_44 := Lib.hid (hk.own3 Fyb_43.out (fun g h q => by have : g = _ := q; have := Pyb.out g h; have := S1.out; have := SE1.out; have := S2.out; have := SE2.out; have := S3.out; have := S4.out; have := S20.out; have := SQw.out; have := S21.out; have := S22.out; have := SE22.out; have := S23.out; have := S24.out; have := SE24.out; have := S25.out; have := S26.out; have := SE26.out; have := S27.out; have := S28.out; have := S29.out; have := S30.out; have := S31.out; have := S32.out; have := S33.out; have := S34.out; have := S35.out; have := S36.out; have := S37.out; have := S38.out; have := S39.out; have := S40.out; have := S41.out; have := SE41.out; have := SQh.out; have := S42.out; have := S43.out; have := S44.out; omega))
      clear Fyb_43
      have Fh0_44 := Lib.hid (hk.own3 Fh0_43.out (fun g h q => by have : g = _ := q; have := Ph0.out g h; have := S1.out; have := SE1.out; have := S2.out; have := SE2.out; have := S3.out; have := S4.out; have := S20.out; have := SQw.out; have := S21.out; have := S22.out; have := SE22.out; have := S23.out; have := S24.out; have := SE24.out; have := S25.out; have := S26.out; have := SE26.out; have := S27.out; have := S28.out; have := S29.out; have := S30.out; have := S31.out; have := S32.out; have := S33.out; have := S34.out; have := S35.out; have := S36.out; have := S37.out; have := S38.out; have := S39.out; have := S40.out; have := S41.out; have := SE41.out; have := SQh.out; have := S42.out; have := S43.out; have := S44.out; omega))
      clear Fh0_43
      have Xad_44 := Lib.hid (hk.blk Xad_43.out (fun q => by have : _ = qh := q; have := Xad_43.out.lt; have := S1.out; have := SE1.out; have := S2.out; have := SE2.out; have := S3.out; have := S4.out; have := S20.out; have := SQw.out; have := S21.out; have := S22.out; have := SE22.out; have := S23.out; have := S24.out; have := SE24.out; have := S25.out; have := S26.out; have := SE26.out; have := S27.out; have := S28.out; have := S29.out; have := S30.out; have := S31.out; have := S32.out; have := S33.out; have := S34.out; have := S35.out; have := S36.out; have := S37.out; have := S38.out; have := S39.out; have := S40.out; have := S41.out; have := SE41.out; have := SQh.out; have := S42.out; have := S43.out; have := S44.out; omega))
      clear Xad_43
      have Xab_44 := Lib.hid (hk.blk Xab_43.out (fun q => by have : _ = qh := q; have := Xab_43.out.lt; have := S1.out; have := SE1.out; have := S2.out; have := SE2.out; have := S3.out; have := S4.out; have := S20.out; have := SQw.out; have := S21.out; have := S22.out; have := SE22.out; have := S23.out; have := S24.out; have := SE24.out; have := S25.out; have := S26.out; have := SE26.out; have := S27.out; have := S28.out; have := S29.out; have := S30.out; have := S31.out; have := S32.out; have := S33.out; have := S34.out; have := S35.out; have := S36.out; have := S37.out; have := S38.out; have := S39.out; have := S40.out; have := S41.out; have := SE41.out; have := SQh.out; have := S42.out; have := S43.out; have := S44.out; omega))
      clear Xab_43
      have Xw0_44 := Lib.hid (hk.blk Xw0_43.out (fun q => by have : _ = qh := q; have := Xw0_43.out.lt; have := S1.out; have := SE1.out; have := S2.out; have := SE2.out; have := S3.out; have := S4.out; have := S20.out; have := SQw.out; have := S21.out; have := S22.out; have := SE22.out; have := S23.out; have := S24.out; have := SE24.out; have := S25.out; have := S26.out; have := SE26.out; have := S27.out; have := S28.out; have := S29.out; have := S30.out; have := S31.out; have := S32.out; have := S33.out; have := S34.out; have := S35.out; have := S36.out; have := S37.out; have := S38.out; have := S39.out; have := S40.out; have := S41.out; have := SE41.out; have := SQh.out; have := S42.out; have := S43.out; have := S44.out; omega))
      clear Xw0_43
      have Xxd_44 := Lib.hid (hk.blk Xxd_43.out (fun q => by have : _ = qh := q; have := Xxd_43.out.lt; have := S1.out; have := SE1.out; have := S2.out; have := SE2.out; have := S3.out; have := S4.out; have := S20.out; have := SQw.out; have := S21.out; have := S22.out; have := SE22.out; have := S23.out; have := S24.out; have := SE24.out; have := S25.out; have := S26.out; have := SE26.out; have := S27.out; have := S28.out; have := S29.out; have := S30.out; have := S31.out; have := S32.out; have := S33.out; have := S34.out; have := S35.out; have := S36.out; have := S37.out; have := S38.out; have := S39.out; have := S40.out; have := S41.out; have := SE41.out; have := SQh.out; have := S42.out; have := S43.out; have := S44.out; omega))
      clear Xxd_43
      have Xxb_44 := Lib.hid (hk.blk Xxb_43.out (fun q => by have : _ = qh := q; have := Xxb_43.out.lt; have := S1.out; have := SE1.out; have := S2.out; have := SE2.out; have := S3.out; have := S4.out; have := S20.out; have := SQw.out; have := S21.out; have := S22.out; have := SE22.out; have := S23.out; have := S24.out; have := SE24.out; have := S25.out; have := S26.out; have := SE26.out; have := S27.out; have := S28.out; have := S29.out; have := S30.out; have := S31.out; have := S32.out; have := S33.out; have := S34.out; have := S35.out; have := S36.out; have := S37.out; have := S38.out; have := S39.out; have := S40.out; have := S41.out; have := SE41.out; have := SQh.out; have := S42.out; have := S43.out; have := S44.out; omega))
      clear Xxb_43
      have Xg0_44 := Lib.hid (hk.blk Xg0_43.out (fun q => by have : _ = qh := q; have := Xg0_43.out.lt; have := S1.out; have := SE1.out; have := S2.out; have := SE2.out; have := S3.out; have := S4.out; have := S20.out; have := SQw.out; have := S21.out; have := S22.out; have := SE22.out; have := S23.out; have := S24.out; have := SE24.out; have := S25.out; have := S26.out; have := SE26.out; have := S27.out; have := S28.out; have := S29.out; have := S30.out; have := S31.out; have := S32.out; have := S33.out; have := S34.out; have := S35.out; have := S36.out; have := S37.out; have := S38.out; have := S39.out; have := S40.out; have := S41.out; have := SE41.out; have := SQh.out; have := S42.out; have := S43.out; have := S44.out; omega))
      clear Xg0_43
      clear Xh0_43
      have Xh0_44 := Lib.hid hx
      clear hx hk
      obtain ⟨zad0, zad1, zad2, _, _, _, zadl⟩ := blk_cells Xad_44.out
      obtain ⟨zab0, zab1, zab2, _, _, _, zabl⟩ := blk_cells Xab_44.out
      obtain ⟨zw00, zw01, zw02, _, _, _, zw0l⟩ := blk_cells Xw0_44.out
      obtain ⟨zxd0, zxd1, zxd2, _, _, _, zxdl⟩ := blk_cells Xxd_44.out
      obtain ⟨zxb0, zxb1, zxb2, _, _, _, zxbl⟩ := blk_cells Xxb_44.out
      obtain ⟨zg00, zg01, zg02, _, _, _, zg0l⟩ := blk_cells Xg0_44.out
      obtain ⟨zh00, zh01, zh02, _, _, _, zh0l⟩ := blk_cells Xh0_44.out
      refine hK.out _ _ ⟨zad0, zad1, zad2, zab0, zab1, zab2⟩ (fun hH9 => ?_)
      clear hK K hH3a
      try simp only [Act.put, List.setIfInBounds_toArray, List.set_cons_zero, List.set_cons_succ]
      clear zad0 zad1 zad2 zadl
      clear zab0 zab1 zab2 zabl
      clear zw00 zw01 zw02 zw0l
      clear zxd0 zxd1 zxd2 zxdl
      clear zxb0 zxb1 zxb2 zxbl
      clear zg00 zg01 zg02 zg0l
      clear zh00 zh01 zh02 zh0l
      refine wpAnyH_take (i := 10) (v := ?_) rfl (by kernel_rfl) (by kernel_rfl) (by kernel_rfl) (fun _ _ _ h => h) (Or.inl ⟨by kernel_rfl, ?_⟩) (by assumption) ?_
      rotate_left
      · intro W hSw
        try dsimp only at hSw
        go_simp
        try with_reducible rfl
      simp only [Act.put, List.setIfInBounds_toArray]
      refine wpAnyH_done (by kernel_rfl) ?_ _
      clear hH9
      clear Fyd_44
      clear Fyb_44
      obtain ⟨zad0, zad1, zad2, _, _, _, zadl⟩ := blk_cells Xad_44.out
      obtain ⟨zab0, zab1, zab2, _, _, _, zabl⟩ := blk_cells Xab_44.out
      obtain ⟨zw00, zw01, zw02, _, _, _, zw0l⟩ := blk_cells Xw0_44.out
      obtain ⟨zxd0, zxd1, zxd2, _, _, _, zxdl⟩ := blk_cells Xxd_44.out
      obtain ⟨zxb0, zxb1, zxb2, _, _, _, zxbl⟩ := blk_cells Xxb_44.out
      obtain ⟨zg00, zg01, zg02, _, _, _, zg0l⟩ := blk_cells Xg0_44.out
      obtain ⟨zh00, zh01, zh02, _, _, _, zh0l⟩ := blk_cells Xh0_44.out
      go_wp2_with fail
      clear zad0 zad1 zad2 zadl
      clear zab0 zab1 zab2 zabl
      clear zw00 zw01 zw02 zw0l
      clear zxd0 zxd1 zxd2 zxdl
      clear zxb0 zxb1 zxb2 zxbl
      clear zg00 zg01 zg02 zg0l
      clear zh00 zh01 zh02 zh0l
      refine (eqDiagram_same r0a r0b _ _ _ _ _ r0 _ (Lib.hid (own_nlies rfl Fh0_44.out)) (Lib.hid (own_nlies rfl Fw0_44.out)) (Lib.hid rfl) (by omega)).mono ?_
      rintro e w45 ⟨rfl, hb⟩
      have S45 := Lib.hid (hb.size)
      have B45 := Lib.hid (Below.tr B44.out hb)
      have Fw0_45 := Lib.hid (own_below Fw0_44.out hb)
      clear Fw0_44
      have Fg0_45 := Lib.hid (own_below Fg0_44.out hb)
      clear Fg0_44
      have Fh0_45 := Lib.hid (own_below Fh0_44.out hb)
      clear Fh0_44
      have Xad_45 := Lib.hid (Xad_44.out.below hb)
      clear Xad_44
      have Xab_45 := Lib.hid (Xab_44.out.below hb)
      clear Xab_44
      have Xw0_45 := Lib.hid (Xw0_44.out.below hb)
      clear Xw0_44
      have Xxd_45 := Lib.hid (Xxd_44.out.below hb)
      clear Xxd_44
      have Xxb_45 := Lib.hid (Xxb_44.out.below hb)
      clear Xxb_44
      have Xg0_45 := Lib.hid (Xg0_44.out.below hb)
      clear Xg0_44
      have Xh0_45 := Lib.hid (Xh0_44.out.below hb)
      clear Xh0_44
      clear hb
      clear Fh0_45
      clear Fw0_45
      obtain ⟨zad0, zad1, zad2, _, _, _, zadl⟩ := blk_cells Xad_45.out
      obtain ⟨zab0, zab1, zab2, _, _, _, zabl⟩ := blk_cells Xab_45.out
      obtain ⟨zw00, zw01, zw02, _, _, _, zw0l⟩ := blk_cells Xw0_45.out
      obtain ⟨zxd0, zxd1, zxd2, _, _, _, zxdl⟩ := blk_cells Xxd_45.out
      obtain ⟨zxb0, zxb1, zxb2, _, _, _, zxbl⟩ := blk_cells Xxb_45.out
      obtain ⟨zg00, zg01, zg02, _, _, _, zg0l⟩ := blk_cells Xg0_45.out
      obtain ⟨zh00, zh01, zh02, _, _, _, zh0l⟩ := blk_cells Xh0_45.out
      go_wp2_with fail
      clear zad0 zad1 zad2 zadl
      clear zab0 zab1 zab2 zabl
      clear zw00 zw01 zw02 zw0l
      clear zxd0 zxd1 zxd2 zxdl
      clear zxb0 zxb1 zxb2 zxbl
      clear zg00 zg01 zg02 zg0l
      clear zh00 zh01 zh02 zh0l
      refine (heldDiagram_any r0a r0b _ _ _ (1) _ (Lib.hid (own_nlies (ndIs_len _ _) Fg0_45.out)) (by omega) (by omega)).mono ?_
      rintro e w46 ⟨rfl, hb⟩
      have S46 := Lib.hid (hb.size)
      have B46 := Lib.hid (Below.tr B45.out hb)
      have Fg0_46 := Lib.hid (own_below Fg0_45.out hb)
      clear Fg0_45
      have Xad_46 := Lib.hid (Xad_45.out.below hb)
      clear Xad_45
      have Xab_46 := Lib.hid (Xab_45.out.below hb)
      clear Xab_45
      have Xw0_46 := Lib.hid (Xw0_45.out.below hb)
      clear Xw0_45
      have Xxd_46 := Lib.hid (Xxd_45.out.below hb)
      clear Xxd_45
      have Xxb_46 := Lib.hid (Xxb_45.out.below hb)
      clear Xxb_45
      have Xg0_46 := Lib.hid (Xg0_45.out.below hb)
      clear Xg0_45
      have Xh0_46 := Lib.hid (Xh0_45.out.below hb)
      clear Xh0_45
      clear hb
      obtain ⟨zad0, zad1, zad2, _, _, _, zadl⟩ := blk_cells Xad_46.out
      obtain ⟨zab0, zab1, zab2, _, _, _, zabl⟩ := blk_cells Xab_46.out
      obtain ⟨zw00, zw01, zw02, _, _, _, zw0l⟩ := blk_cells Xw0_46.out
      obtain ⟨zxd0, zxd1, zxd2, _, _, _, zxdl⟩ := blk_cells Xxd_46.out
      obtain ⟨zxb0, zxb1, zxb2, _, _, _, zxbl⟩ := blk_cells Xxb_46.out
      obtain ⟨zg00, zg01, zg02, _, _, _, zg0l⟩ := blk_cells Xg0_46.out
      obtain ⟨zh00, zh01, zh02, _, _, _, zh0l⟩ := blk_cells Xh0_46.out
      go_wp2
      go_ret
      exact ⟨rfl, B46.out⟩
  ·
    go_simp
    obtain ⟨w40, hw40⟩ : ∃ W, W = w39.alloc (.cells #[.int .i64 0, .slice none 0 0, .int .i64 0] 28) := ⟨_, rfl⟩
    have hb : Below w39.heap.size w39 w40 := by rw [hw40]; exact below1 _ _
    have hx : Blk w40 w39.heap.size 28 [.int .i64 0, .slice none 0 0, .int .i64 0] := by rw [hw40]; exact heap_alloc_new _ _
    have hsz : w40.heap.size = w39.heap.size + 1 := by rw [hw40]; simp
    rw [← hw40]
    clear hw40
    have S40 := Lib.hid (hb.size)
    have SE40 := Lib.hid hsz
    have B40 := Lib.hid (Below.tr B39.out hb)
    have Fw0_40 := Lib.hid (own_below Fw0_39.out hb)
    clear Fw0_39
    have Fg0_40 := Lib.hid (own_below Fg0_39.out hb)
    clear Fg0_39
    have Xad_40 := Lib.hid (Xad_39.out.below hb)
    clear Xad_39
    have Xab_40 := Lib.hid (Xab_39.out.below hb)
    clear Xab_39
    have Xw0_40 := Lib.hid (Xw0_39.out.below hb)
    clear Xw0_39
    have Xxd_40 := Lib.hid (Xxd_39.out.below hb)
    clear Xxd_39
    have Xxb_40 := Lib.hid (Xxb_39.out.below hb)
    clear Xxb_39
    have Xg0_40 := Lib.hid (Xg0_39.out.below hb)
    clear Xg0_39
    have Xh0_40 := Lib.hid hx
    clear hb hx hsz
    obtain ⟨qh, hq⟩ : ∃ q, w39.heap.size = q := ⟨_, rfl⟩
    have SQh : Hid (w39.heap.size = qh) := Lib.hid hq
    rw [hq] at Xh0_40 ⊢
    clear hq
    obtain ⟨zad0, zad1, zad2, _, _, _, zadl⟩ := blk_cells Xad_40.out
    obtain ⟨zab0, zab1, zab2, _, _, _, zabl⟩ := blk_cells Xab_40.out
    obtain ⟨zw00, zw01, zw02, _, _, _, zw0l⟩ := blk_cells Xw0_40.out
    obtain ⟨zxd0, zxd1, zxd2, _, _, _, zxdl⟩ := blk_cells Xxd_40.out
    obtain ⟨zxb0, zxb1, zxb2, _, _, _, zxbl⟩ := blk_cells Xxb_40.out
    obtain ⟨zg00, zg01, zg02, _, _, _, zg0l⟩ := blk_cells Xg0_40.out
    obtain ⟨zh00, zh01, zh02, _, _, _, zh0l⟩ := blk_cells Xh0_40.out
    refine hK.out _ _ ⟨zad0, zad1, zad2, zab0, zab1, zab2⟩ (fun hH0a => ?_)
    clear hK K hHeld
    try simp only [Act.put, List.setIfInBounds_toArray, List.set_cons_zero, List.set_cons_succ]
    clear zad0 zad1 zad2 zadl
    clear zab0 zab1 zab2 zabl
    clear zw00 zw01 zw02 zw0l
    clear zxd0 zxd1 zxd2 zxdl
    clear zxb0 zxb1 zxb2 zxbl
    clear zg00 zg01 zg02 zg0l
    clear zh00 zh01 zh02 zh0l
    refine wpAnyH_ready (rs := [1]) (by kernel_rfl) (by simp) ?_
    refine AllReadyH.cons rfl (fun K hK => ?_) AllReadyH.nil
    go_simp
    refine (toDiagram_any d0 d2 _ _ _ d _ (Lib.hid (HLd.out.below B40.out)) HXd hsd).mono ?_
    rintro e w41 ⟨gyd, rfl, hge, kk, hb⟩
    have S41 := Lib.hid (hb.size)
    have B41 := Lib.hid (Below.tr B40.out hb)
    have Fw0_41 := Lib.hid (own_below Fw0_40.out hb)
    clear Fw0_40
    have Fg0_41 := Lib.hid (own_below Fg0_40.out hb)
    clear Fg0_40
    have Xad_41 := Lib.hid (Xad_40.out.below hb)
    clear Xad_40
    have Xab_41 := Lib.hid (Xab_40.out.below hb)
    clear Xab_40
    have Xw0_41 := Lib.hid (Xw0_40.out.below hb)
    clear Xw0_40
    have Xxd_41 := Lib.hid (Xxd_40.out.below hb)
    clear Xxd_40
    have Xxb_41 := Lib.hid (Xxb_40.out.below hb)
    clear Xxb_40
    have Xg0_41 := Lib.hid (Xg0_40.out.below hb)
    clear Xg0_40
    have Xh0_41 := Lib.hid (Xh0_40.out.below hb)
    clear Xh0_40
    have Fyd_41 := Lib.hid (own_baseN (own_of_nblk kk HXd.out hsd) hge)
    have Pyd : Hid (∀ g, (.slice (some ⟨gyd, 0, none⟩) nd nd : Value).ownBlock = some g → w40.heap.size ≤ g ∧ g < w41.heap.size) := Lib.hid (fun g h => Fyd_41.out.lt g h)
    clear kk hb hge
    obtain ⟨zad0, zad1, zad2, _, _, _, zadl⟩ := blk_cells Xad_41.out
    obtain ⟨zab0, zab1, zab2, _, _, _, zabl⟩ := blk_cells Xab_41.out
    obtain ⟨zw00, zw01, zw02, _, _, _, zw0l⟩ := blk_cells Xw0_41.out
    obtain ⟨zxd0, zxd1, zxd2, _, _, _, zxdl⟩ := blk_cells Xxd_41.out
    obtain ⟨zxb0, zxb1, zxb2, _, _, _, zxbl⟩ := blk_cells Xxb_41.out
    obtain ⟨zg00, zg01, zg02, _, _, _, zg0l⟩ := blk_cells Xg0_41.out
    obtain ⟨zh00, zh01, zh02, _, _, _, zh0l⟩ := blk_cells Xh0_41.out
    refine hK.out _ _ ⟨zad0, zad1, zad2, zab0, zab1, zab2⟩ (fun hH1a => ?_)
    clear hK K hH0a
    try simp only [Act.put, List.setIfInBounds_toArray, List.set_cons_zero, List.set_cons_succ]
    clear zad0 zad1 zad2 zadl
    clear zab0 zab1 zab2 zabl
    clear zw00 zw01 zw02 zw0l
    clear zxd0 zxd1 zxd2 zxdl
    clear zxb0 zxb1 zxb2 zxbl
    clear zg00 zg01 zg02 zg0l
    clear zh00 zh01 zh02 zh0l
    refine wpAnyH_ready (rs := [3]) (by kernel_rfl) (by simp) ?_
    refine AllReadyH.cons rfl (fun K hK => ?_) AllReadyH.nil
    go_simp
    refine (toDiagram_any b0 b2 _ _ _ b _ (Lib.hid (HLb.out.below B41.out)) HXb hsb).mono ?_
    rintro e w42 ⟨gyb, rfl, hge, kk, hb⟩
    have S42 := Lib.hid (hb.size)
    have B42 := Lib.hid (Below.tr B41.out hb)
    have Fw0_42 := Lib.hid (own_below Fw0_41.out hb)
    clear Fw0_41
    have Fg0_42 := Lib.hid (own_below Fg0_41.out hb)
    clear Fg0_41
    have Fyd_42 := Lib.hid (own_below Fyd_41.out hb)
    clear Fyd_41
    have Xad_42 := Lib.hid (Xad_41.out.below hb)
    clear Xad_41
    have Xab_42 := Lib.hid (Xab_41.out.below hb)
    clear Xab_41
    have Xw0_42 := Lib.hid (Xw0_41.out.below hb)
    clear Xw0_41
    have Xxd_42 := Lib.hid (Xxd_41.out.below hb)
    clear Xxd_41
    have Xxb_42 := Lib.hid (Xxb_41.out.below hb)
    clear Xxb_41
    have Xg0_42 := Lib.hid (Xg0_41.out.below hb)
    clear Xg0_41
    have Xh0_42 := Lib.hid (Xh0_41.out.below hb)
    clear Xh0_41
    have Fyb_42 := Lib.hid (own_baseN (own_of_nblk kk HXb.out hsb) hge)
    have Pyb : Hid (∀ g, (.slice (some ⟨gyb, 0, none⟩) nb nb : Value).ownBlock = some g → w41.heap.size ≤ g ∧ g < w42.heap.size) := Lib.hid (fun g h => Fyb_42.out.lt g h)
    clear kk hb hge
    obtain ⟨zad0, zad1, zad2, _, _, _, zadl⟩ := blk_cells Xad_42.out
    obtain ⟨zab0, zab1, zab2, _, _, _, zabl⟩ := blk_cells Xab_42.out
    obtain ⟨zw00, zw01, zw02, _, _, _, zw0l⟩ := blk_cells Xw0_42.out
    obtain ⟨zxd0, zxd1, zxd2, _, _, _, zxdl⟩ := blk_cells Xxd_42.out
    obtain ⟨zxb0, zxb1, zxb2, _, _, _, zxbl⟩ := blk_cells Xxb_42.out
    obtain ⟨zg00, zg01, zg02, _, _, _, zg0l⟩ := blk_cells Xg0_42.out
    obtain ⟨zh00, zh01, zh02, _, _, _, zh0l⟩ := blk_cells Xh0_42.out
    refine hK.out _ _ ⟨zad0, zad1, zad2, zab0, zab1, zab2⟩ (fun hH2a => ?_)
    clear hK K hH1a
    try simp only [Act.put, List.setIfInBounds_toArray, List.set_cons_zero, List.set_cons_succ]
    clear zad0 zad1 zad2 zadl
    clear zab0 zab1 zab2 zabl
    clear zw00 zw01 zw02 zw0l
    clear zxd0 zxd1 zxd2 zxdl
    clear zxb0 zxb1 zxb2 zxbl
    clear zg00 zg01 zg02 zg0l
    clear zh00 zh01 zh02 zh0l
    refine wpAnyH_ready (rs := [4]) (by kernel_rfl) (by simp) ?_
    refine AllReadyH.cons rfl (fun K hK => ?_) AllReadyH.nil
    go_simp
    refine (implBoth_any d0 d2 b0 b2 _ _ _ _ _ _ d b _ r0a r0 r0b r1 HR (Lib.hid (own_nlies HXd.out Fyd_42.out)) HXd hsd (Lib.hid (own_nlies HXb.out Fyb_42.out)) HXb hsb).mono ?_
    rintro e w43 ⟨Ah0, ch0, rfl, ho0, hb⟩
    have S43 := Lib.hid (hb.size)
    have B43 := Lib.hid (Below.tr B42.out hb)
    have Fw0_43 := Lib.hid (own_below Fw0_42.out hb)
    clear Fw0_42
    have Fg0_43 := Lib.hid (own_below Fg0_42.out hb)
    clear Fg0_42
    have Fyd_43 := Lib.hid (own_below Fyd_42.out hb)
    clear Fyd_42
    have Fyb_43 := Lib.hid (own_below Fyb_42.out hb)
    clear Fyb_42
    have Xad_43 := Lib.hid (Xad_42.out.below hb)
    clear Xad_42
    have Xab_43 := Lib.hid (Xab_42.out.below hb)
    clear Xab_42
    have Xw0_43 := Lib.hid (Xw0_42.out.below hb)
    clear Xw0_42
    have Xxd_43 := Lib.hid (Xxd_42.out.below hb)
    clear Xxd_42
    have Xxb_43 := Lib.hid (Xxb_42.out.below hb)
    clear Xxb_42
    have Xg0_43 := Lib.hid (Xg0_42.out.below hb)
    clear Xg0_42
    have Xh0_43 := Lib.hid (Xh0_42.out.below hb)
    clear Xh0_42
    have Fh0_43 := Lib.hid (ho0)
    have Ph0 : Hid (∀ g, (.slice Ah0 r0.length ch0 : Value).ownBlock = some g → w42.heap.size ≤ g ∧ g < w43.heap.size) := Lib.hid (fun g h => Fh0_43.out.lt g h)
    clear hb ho0
    obtain ⟨zad0, zad1, zad2, _, _, _, zadl⟩ := blk_cells Xad_43.out
    obtain ⟨zab0, zab1, zab2, _, _, _, zabl⟩ := blk_cells Xab_43.out
    obtain ⟨zw00, zw01, zw02, _, _, _, zw0l⟩ := blk_cells Xw0_43.out
    obtain ⟨zxd0, zxd1, zxd2, _, _, _, zxdl⟩ := blk_cells Xxd_43.out
    obtain ⟨zxb0, zxb1, zxb2, _, _, _, zxbl⟩ := blk_cells Xxb_43.out
    obtain ⟨zg00, zg01, zg02, _, _, _, zg0l⟩ := blk_cells Xg0_43.out
    obtain ⟨zh00, zh01, zh02, _, _, _, zh0l⟩ := blk_cells Xh0_43.out
    refine hK.out _ _ ⟨zad0, zad1, zad2, zab0, zab1, zab2⟩ (fun hH3a => ?_)
    clear hK K hH2a
    try simp only [Act.put, List.setIfInBounds_toArray, List.set_cons_zero, List.set_cons_succ]
    clear zad0 zad1 zad2 zadl
    clear zab0 zab1 zab2 zabl
    clear zw00 zw01 zw02 zw0l
    clear zxd0 zxd1 zxd2 zxdl
    clear zxb0 zxb1 zxb2 zxbl
    clear zg00 zg01 zg02 zg0l
    clear zh00 zh01 zh02 zh0l
    refine wpAnyH_take (i := 5) (v := ?_) rfl (by kernel_rfl) (by kernel_rfl) (by kernel_rfl) (fun _ _ _ h => h) (Or.inl ⟨by rfl, ?_⟩) (by assumption) ?_
    rotate_left
    · intro W hSw
      try dsimp only at hSw
      go_simp
      try with_reducible rfl
    simp only [Act.put, List.setIfInBounds_toArray]
    refine wpAnyH_take (i := 6) (v := ?_) rfl (by kernel_rfl) (by kernel_rfl) (by kernel_rfl) (fun _ _ _ h => h) (Or.inl ⟨by rfl, ?_⟩) (by assumption) ?_
    rotate_left
    · intro W hSw
      try dsimp only at hSw
      go_simp
      try with_reducible rfl
    simp only [Act.put]
    refine wpAnyH_take (i := 7) (v := ?_) rfl (by kernel_rfl) (by kernel_rfl) (by kernel_rfl) (fun _ _ _ h => h) (Or.inl ⟨by rfl, ?_⟩) (by assumption) ?_
    rotate_left
    · intro W hSw
      try dsimp only at hSw
      go_simp
      try with_reducible rfl
    simp only [Act.put]
    obtain ⟨zad0, zad1, zad2, _, _, _, zadl⟩ := blk_cells Xad_43.out
    obtain ⟨zab0, zab1, zab2, _, _, _, zabl⟩ := blk_cells Xab_43.out
    obtain ⟨zw00, zw01, zw02, _, _, _, zw0l⟩ := blk_cells Xw0_43.out
    obtain ⟨zxd0, zxd1, zxd2, _, _, _, zxdl⟩ := blk_cells Xxd_43.out
    obtain ⟨zxb0, zxb1, zxb2, _, _, _, zxbl⟩ := blk_cells Xxb_43.out
    obtain ⟨zg00, zg01, zg02, _, _, _, zg0l⟩ := blk_cells Xg0_43.out
    obtain ⟨zh00, zh01, zh02, _, _, _, zh0l⟩ := blk_cells Xh0_43.out
    refine wpAnyH_ready (rs := [9]) (by kernel_rfl) (by simp) ?_
    refine AllReadyH.cons rfl (fun K hK => ?_) AllReadyH.nil
    go_simp
    clear zad0 zad1 zad2 zadl
    clear zab0 zab1 zab2 zabl
    clear zw00 zw01 zw02 zw0l
    clear zxd0 zxd1 zxd2 zxdl
    clear zxb0 zxb1 zxb2 zxbl
    clear zg00 zg01 zg02 zg0l
    clear zh00 zh01 zh02 zh0l
    obtain ⟨w44, hw44⟩ : ∃ W, W = (((w43.setCell ⟨qh, 0, none⟩ (.int .i64 r0a)).setCell ⟨qh, 1, none⟩ (.slice Ah0 r0.length ch0)).setCell ⟨qh, 2, none⟩ (.int .i64 r0b)) := ⟨_, rfl⟩
    have hk : Kept w43 w44 (fun g => g = qh) := by rw [hw44]; exact lb_kept3 _ _ _ _ _
    have hx : Blk w44 qh 28 [.int .i64 r0a, .slice Ah0 r0.length ch0, .int .i64 r0b] := by rw [hw44]; exact lb_set3 Xh0_43.out _ _ _
    rw [← hw44]
    clear hw44
    have S44 := Lib.hid (hk.size)
    have B44 := Lib.hid (hk.below B43.out B43.out.size (fun i hi => by have : i = _ := hi; have := S1.out; have := SE1.out; have := S2.out; have := SE2.out; have := S3.out; have := S4.out; have := S20.out; have := SQw.out; have := S21.out; have := S22.out; have := SE22.out; have := S23.out; have := S24.out; have := SE24.out; have := S25.out; have := S26.out; have := SE26.out; have := S27.out; have := S28.out; have := S29.out; have := S30.out; have := S31.out; have := S32.out; have := S33.out; have := S34.out; have := S35.out; have := S36.out; have := S37.out; have := S38.out; have := S39.out; have := S40.out; have := SE40.out; have := SQh.out; have := S41.out; have := S42.out; have := S43.out; have := S44.out; omega))
    have Fw0_44 := Lib.hid (hk.own3 Fw0_43.out (fun g h q => by have : g = _ := q; have := Pw0.out g h; have := S1.out; have := SE1.out; have := S2.out; have := SE2.out; have := S3.out; have := S4.out; have := S20.out; have := SQw.out; have := S21.out; have := S22.out; have := SE22.out; have := S23.out; have := S24.out; have := SE24.out; have := S25.out; have := S26.out; have := SE26.out; have := S27.out; have := S28.out; have := S29.out; have := S30.out; have := S31.out; have := S32.out; have := S33.out; have := S34.out; have := S35.out; have := S36.out; have := S37.out; have := S38.out; have := S39.out; have := S40.out; have := SE40.out; have := SQh.out; have := S41.out; have := S42.out; have := S43.out; have := S44.out; omega))
    clear Fw0_43
    have Fg0_44 := Lib.hid (hk.own3 Fg0_43.out (fun g h q => by have : g = _ := q; have := Pg0.out g h; have := S1.out; have := SE1.out; have := S2.out; have := SE2.out; have := S3.out; have := S4.out; have := S20.out; have := SQw.out; have := S21.out; have := S22.out; have := SE22.out; have := S23.out; have := S24.out; have := SE24.out; have := S25.out; have := S26.out; have := SE26.out; have := S27.out; have := S28.out; have := S29.out; have := S30.out; have := S31.out; have := S32.out; have := S33.out; have := S34.out; have := S35.out; have := S36.out; have := S37.out; have := S38.out; have := S39.out; have := S40.out; have := SE40.out; have := SQh.out; have := S41.out; have := S42.out; have := S43.out; have := S44.out; omega))
    clear Fg0_43
    have Fyd_44 := Lib.hid (hk.own3 Fyd_43.out (fun g h q => by have : g = _ := q; have := Pyd.out g h; have := S1.out; have := SE1.out; have := S2.out; have := SE2.out; have := S3.out; have := S4.out; have := S20.out; have := SQw.out; have := S21.out; have := S22.out; have := SE22.out; have := S23.out; have := S24.out; have := SE24.out; have := S25.out; have := S26.out; have := SE26.out; have := S27.out; have := S28.out; have := S29.out; have := S30.out; have := S31.out; have := S32.out; have := S33.out; have := S34.out; have := S35.out; have := S36.out; have := S37.out; have := S38.out; have := S39.out; have := S40.out; have := SE40.out; have := SQh.out; have := S41.out; have := S42.out; have := S43.out; have := S44.out; omega))
    clear Fyd_43
    have Fyb_44 := Lib.hid (hk.own3 Fyb_43.out (fun g h q => by have : g = _ := q; have := Pyb.out g h; have := S1.out; have := SE1.out; have := S2.out; have := SE2.out; have := S3.out; have := S4.out; have := S20.out; have := SQw.out; have := S21.out; have := S22.out; have := SE22.out; have := S23.out; have := S24.out; have := SE24.out; have := S25.out; have := S26.out; have := SE26.out; have := S27.out; have := S28.out; have := S29.out; have := S30.out; have := S31.out; have := S32.out; have := S33.out; have := S34.out; have := S35.out; have := S36.out; have := S37.out; have := S38.out; have := S39.out; have := S40.out; have := SE40.out; have := SQh.out; have := S41.out; have := S42.out; have := S43.out; have := S44.out; omega))
    clear Fyb_43
    have Fh0_44 := Lib.hid (hk.own3 Fh0_43.out (fun g h q => by have : g = _ := q; have := Ph0.out g h; have := S1.out; have := SE1.out; have := S2.out; have := SE2.out; have := S3.out; have := S4.out; have := S20.out; have := SQw.out; have := S21.out; have := S22.out; have := SE22.out; have := S23.out; have := S24.out; have := SE24.out; have := S25.out; have := S26.out; have := SE26.out; have := S27.out; have := S28.out; have := S29.out; have := S30.out; have := S31.out; have := S32.out; have := S33.out; have := S34.out; have := S35.out; have := S36.out; have := S37.out; have := S38.out; have := S39.out; have := S40.out; have := SE40.out; have := SQh.out; have := S41.out; have := S42.out; have := S43.out; have := S44.out; omega))
    clear Fh0_43
    have Xad_44 := Lib.hid (hk.blk Xad_43.out (fun q => by have : _ = qh := q; have := Xad_43.out.lt; have := S1.out; have := SE1.out; have := S2.out; have := SE2.out; have := S3.out; have := S4.out; have := S20.out; have := SQw.out; have := S21.out; have := S22.out; have := SE22.out; have := S23.out; have := S24.out; have := SE24.out; have := S25.out; have := S26.out; have := SE26.out; have := S27.out; have := S28.out; have := S29.out; have := S30.out; have := S31.out; have := S32.out; have := S33.out; have := S34.out; have := S35.out; have := S36.out; have := S37.out; have := S38.out; have := S39.out; have := S40.out; have := SE40.out; have := SQh.out; have := S41.out; have := S42.out; have := S43.out; have := S44.out; omega))
    clear Xad_43
    have Xab_44 := Lib.hid (hk.blk Xab_43.out (fun q => by have : _ = qh := q; have := Xab_43.out.lt; have := S1.out; have := SE1.out; have := S2.out; have := SE2.out; have := S3.out; have := S4.out; have := S20.out; have := SQw.out; have := S21.out; have := S22.out; have := SE22.out; have := S23.out; have := S24.out; have := SE24.out; have := S25.out; have := S26.out; have := SE26.out; have := S27.out; have := S28.out; have := S29.out; have := S30.out; have := S31.out; have := S32.out; have := S33.out; have := S34.out; have := S35.out; have := S36.out; have := S37.out; have := S38.out; have := S39.out; have := S40.out; have := SE40.out; have := SQh.out; have := S41.out; have := S42.out; have := S43.out; have := S44.out; omega))
    clear Xab_43
    have Xw0_44 := Lib.hid (hk.blk Xw0_43.out (fun q => by have : _ = qh := q; have := Xw0_43.out.lt; have := S1.out; have := SE1.out; have := S2.out; have := SE2.out; have := S3.out; have := S4.out; have := S20.out; have := SQw.out; have := S21.out; have := S22.out; have := SE22.out; have := S23.out; have := S24.out; have := SE24.out; have := S25.out; have := S26.out; have := SE26.out; have := S27.out; have := S28.out; have := S29.out; have := S30.out; have := S31.out; have := S32.out; have := S33.out; have := S34.out; have := S35.out; have := S36.out; have := S37.out; have := S38.out; have := S39.out; have := S40.out; have := SE40.out; have := SQh.out; have := S41.out; have := S42.out; have := S43.out; have := S44.out; omega))
    clear Xw0_43
    have Xxd_44 := Lib.hid (hk.blk Xxd_43.out (fun q => by have : _ = qh := q; have := Xxd_43.out.lt; have := S1.out; have := SE1.out; have := S2.out; have := SE2.out; have := S3.out; have := S4.out; have := S20.out; have := SQw.out; have := S21.out; have := S22.out; have := SE22.out; have := S23.out; have := S24.out; have := SE24.out; have := S25.out; have := S26.out; have := SE26.out; have := S27.out; have := S28.out; have := S29.out; have := S30.out; have := S31.out; have := S32.out; have := S33.out; have := S34.out; have := S35.out; have := S36.out; have := S37.out; have := S38.out; have := S39.out; have := S40.out; have := SE40.out; have := SQh.out; have := S41.out; have := S42.out; have := S43.out; have := S44.out; omega))
    clear Xxd_43
    have Xxb_44 := Lib.hid (hk.blk Xxb_43.out (fun q => by have : _ = qh := q; have := Xxb_43.out.lt; have := S1.out; have := SE1.out; have := S2.out; have := SE2.out; have := S3.out; have := S4.out; have := S20.out; have := SQw.out; have := S21.out; have := S22.out; have := SE22.out; have := S23.out; have := S24.out; have := SE24.out; have := S25.out; have := S26.out; have := SE26.out; have := S27.out; have := S28.out; have := S29.out; have := S30.out; have := S31.out; have := S32.out; have := S33.out; have := S34.out; have := S35.out; have := S36.out; have := S37.out; have := S38.out; have := S39.out; have := S40.out; have := SE40.out; have := SQh.out; have := S41.out; have := S42.out; have := S43.out; have := S44.out; omega))
    clear Xxb_43
    have Xg0_44 := Lib.hid (hk.blk Xg0_43.out (fun q => by have : _ = qh := q; have := Xg0_43.out.lt; have := S1.out; have := SE1.out; have := S2.out; have := SE2.out; have := S3.out; have := S4.out; have := S20.out; have := SQw.out; have := S21.out; have := S22.out; have := SE22.out; have := S23.out; have := S24.out; have := SE24.out; have := S25.out; have := S26.out; have := SE26.out; have := S27.out; have := S28.out; have := S29.out; have := S30.out; have := S31.out; have := S32.out; have := S33.out; have := S34.out; have := S35.out; have := S36.out; have := S37.out; have := S38.out; have := S39.out; have := S40.out; have := SE40.out; have := SQh.out; have := S41.out; have := S42.out; have := S43.out; have := S44.out; omega))
    clear Xg0_43
    clear Xh0_43
    have Xh0_44 := Lib.hid hx
    clear hx hk
    obtain ⟨zad0, zad1, zad2, _, _, _, zadl⟩ := blk_cells Xad_44.out
    obtain ⟨zab0, zab1, zab2, _, _, _, zabl⟩ := blk_cells Xab_44.out
    obtain ⟨zw00, zw01, zw02, _, _, _, zw0l⟩ := blk_cells Xw0_44.out
    obtain ⟨zxd0, zxd1, zxd2, _, _, _, zxdl⟩ := blk_cells Xxd_44.out
    obtain ⟨zxb0, zxb1, zxb2, _, _, _, zxbl⟩ := blk_cells Xxb_44.out
    obtain ⟨zg00, zg01, zg02, _, _, _, zg0l⟩ := blk_cells Xg0_44.out
    obtain ⟨zh00, zh01, zh02, _, _, _, zh0l⟩ := blk_cells Xh0_44.out
    refine hK.out _ _ ⟨zad0, zad1, zad2, zab0, zab1, zab2⟩ (fun hH9 => ?_)
    clear hK K hH3a
    try simp only [Act.put, List.setIfInBounds_toArray, List.set_cons_zero, List.set_cons_succ]
    clear zad0 zad1 zad2 zadl
    clear zab0 zab1 zab2 zabl
    clear zw00 zw01 zw02 zw0l
    clear zxd0 zxd1 zxd2 zxdl
    clear zxb0 zxb1 zxb2 zxbl
    clear zg00 zg01 zg02 zg0l
    clear zh00 zh01 zh02 zh0l
    refine wpAnyH_take (i := 10) (v := ?_) rfl (by kernel_rfl) (by kernel_rfl) (by kernel_rfl) (fun _ _ _ h => h) (Or.inl ⟨by kernel_rfl, ?_⟩) (by assumption) ?_
    rotate_left
    · intro W hSw
      try dsimp only at hSw
      go_simp
      try with_reducible rfl
    simp only [Act.put, List.setIfInBounds_toArray]
    refine wpAnyH_done (by kernel_rfl) ?_ _
    clear hH9
    clear Fyd_44
    clear Fyb_44
    obtain ⟨zad0, zad1, zad2, _, _, _, zadl⟩ := blk_cells Xad_44.out
    obtain ⟨zab0, zab1, zab2, _, _, _, zabl⟩ := blk_cells Xab_44.out
    obtain ⟨zw00, zw01, zw02, _, _, _, zw0l⟩ := blk_cells Xw0_44.out
    obtain ⟨zxd0, zxd1, zxd2, _, _, _, zxdl⟩ := blk_cells Xxd_44.out
    obtain ⟨zxb0, zxb1, zxb2, _, _, _, zxbl⟩ := blk_cells Xxb_44.out
    obtain ⟨zg00, zg01, zg02, _, _, _, zg0l⟩ := blk_cells Xg0_44.out
    obtain ⟨zh00, zh01, zh02, _, _, _, zh0l⟩ := blk_cells Xh0_44.out
    go_wp2_with fail
    clear zad0 zad1 zad2 zadl
    clear zab0 zab1 zab2 zabl
    clear zw00 zw01 zw02 zw0l
    clear zxd0 zxd1 zxd2 zxdl
    clear zxb0 zxb1 zxb2 zxbl
    clear zg00 zg01 zg02 zg0l
    clear zh00 zh01 zh02 zh0l
    refine (eqDiagram_same r0a r0b _ _ _ _ _ r0 _ (Lib.hid (own_nlies rfl Fh0_44.out)) (Lib.hid (own_nlies rfl Fw0_44.out)) (Lib.hid rfl) (by omega)).mono ?_
    rintro e w45 ⟨rfl, hb⟩
    have S45 := Lib.hid (hb.size)
    have B45 := Lib.hid (Below.tr B44.out hb)
    have Fw0_45 := Lib.hid (own_below Fw0_44.out hb)
    clear Fw0_44
    have Fg0_45 := Lib.hid (own_below Fg0_44.out hb)
    clear Fg0_44
    have Fh0_45 := Lib.hid (own_below Fh0_44.out hb)
    clear Fh0_44
    have Xad_45 := Lib.hid (Xad_44.out.below hb)
    clear Xad_44
    have Xab_45 := Lib.hid (Xab_44.out.below hb)
    clear Xab_44
    have Xw0_45 := Lib.hid (Xw0_44.out.below hb)
    clear Xw0_44
    have Xxd_45 := Lib.hid (Xxd_44.out.below hb)
    clear Xxd_44
    have Xxb_45 := Lib.hid (Xxb_44.out.below hb)
    clear Xxb_44
    have Xg0_45 := Lib.hid (Xg0_44.out.below hb)
    clear Xg0_44
    have Xh0_45 := Lib.hid (Xh0_44.out.below hb)
    clear Xh0_44
    clear hb
    clear Fh0_45
    clear Fw0_45
    obtain ⟨zad0, zad1, zad2, _, _, _, zadl⟩ := blk_cells Xad_45.out
    obtain ⟨zab0, zab1, zab2, _, _, _, zabl⟩ := blk_cells Xab_45.out
    obtain ⟨zw00, zw01, zw02, _, _, _, zw0l⟩ := blk_cells Xw0_45.out
    obtain ⟨zxd0, zxd1, zxd2, _, _, _, zxdl⟩ := blk_cells Xxd_45.out
    obtain ⟨zxb0, zxb1, zxb2, _, _, _, zxbl⟩ := blk_cells Xxb_45.out
    obtain ⟨zg00, zg01, zg02, _, _, _, zg0l⟩ := blk_cells Xg0_45.out
    obtain ⟨zh00, zh01, zh02, _, _, _, zh0l⟩ := blk_cells Xh0_45.out
    go_wp2_with fail
    clear zad0 zad1 zad2 zadl
    clear zab0 zab1 zab2 zabl
    clear zw00 zw01 zw02 zw0l
    clear zxd0 zxd1 zxd2 zxdl
    clear zxb0 zxb1 zxb2 zxbl
    clear zg00 zg01 zg02 zg0l
    clear zh00 zh01 zh02 zh0l
    refine (heldDiagram_any r0a r0b _ _ _ (1) _ (Lib.hid (own_nlies (ndIs_len _ _) Fg0_45.out)) (by omega) (by omega)).mono ?_
    rintro e w46 ⟨rfl, hb⟩
    have S46 := Lib.hid (hb.size)
    have B46 := Lib.hid (Below.tr B45.out hb)
    have Fg0_46 := Lib.hid (own_below Fg0_45.out hb)
    clear Fg0_45
    have Xad_46 := Lib.hid (Xad_45.out.below hb)
    clear Xad_45
    have Xab_46 := Lib.hid (Xab_45.out.below hb)
    clear Xab_45
    have Xw0_46 := Lib.hid (Xw0_45.out.below hb)
    clear Xw0_45
    have Xxd_46 := Lib.hid (Xxd_45.out.below hb)
    clear Xxd_45
    have Xxb_46 := Lib.hid (Xxb_45.out.below hb)
    clear Xxb_45
    have Xg0_46 := Lib.hid (Xg0_45.out.below hb)
    clear Xg0_45
    have Xh0_46 := Lib.hid (Xh0_45.out.below hb)
    clear Xh0_45
    clear hb
    obtain ⟨zad0, zad1, zad2, _, _, _, zadl⟩ := blk_cells Xad_46.out
    obtain ⟨zab0, zab1, zab2, _, _, _, zabl⟩ := blk_cells Xab_46.out
    obtain ⟨zw00, zw01, zw02, _, _, _, zw0l⟩ := blk_cells Xw0_46.out
    obtain ⟨zxd0, zxd1, zxd2, _, _, _, zxdl⟩ := blk_cells Xxd_46.out
    obtain ⟨zxb0, zxb1, zxb2, _, _, _, zxbl⟩ := blk_cells Xxb_46.out
    obtain ⟨zg00, zg01, zg02, _, _, _, zg0l⟩ := blk_cells Xg0_46.out
    obtain ⟨zh00, zh01, zh02, _, _, _, zh0l⟩ := blk_cells Xh0_46.out
    go_wp2
    go_ret
    exact ⟨rfl, B46.out⟩
end Go.Proofs.Ytklcfbjaodildaa
