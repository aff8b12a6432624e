/-
  The model's own copy of a machine.
-/
import Derived.Test.YtkffggnajoohfaaDoorImplDo
import Derived.Deep.RegionLaw
namespace Go.Proofs.YtkffggnajoohfaaDoor
open Go.ChangeShapes Go.WideShapes Go.ChangeAt Go.RowKit

theorem own_S0 {W : World} {b at_ p1 q1 p2 q2 p3 q3 c1 c2 c3 : Nat} (h : Blk W b 27 [.int .i64 at_, .slice (some ⟨p1, q1, none⟩) 6 c1, .slice (some ⟨p2, q2, none⟩) 16 c2, .slice (some ⟨p3, q3, none⟩) 16 c3]) : W.cell? ⟨b, 0, none⟩ = some (.int .i64 at_) ∧ W.cell? ⟨b, 1, none⟩ = some (.slice (some ⟨p1, q1, none⟩) 6 c1) ∧ W.cell? ⟨b, 2, none⟩ = some (.slice (some ⟨p2, q2, none⟩) 16 c2) ∧ W.cell? ⟨b, 3, none⟩ = some (.slice (some ⟨p3, q3, none⟩) 16 c3) :=
  ⟨h.there rfl, h.there rfl, h.there rfl, h.there rfl⟩
theorem own_S {W : World} {b at_ p1 q1 p2 q2 p3 q3 c1 c2 c3 : Nat} {u0 u1 u2 u3 : Value} (h : Blk W b 27 [.int .i64 at_, .slice (some ⟨p1, q1, none⟩) 6 c1, .slice (some ⟨p2, q2, none⟩) 16 c2, .slice (some ⟨p3, q3, none⟩) 16 c3]) : (((((W.setCell ⟨b + 1, 0, none⟩ u0).setCell ⟨b + 1, 1, none⟩ u1).setCell ⟨b + 1, 2, none⟩ u2).setCell ⟨b + 1, 3, none⟩ u3)).cell? ⟨b, 0, none⟩ = some (.int .i64 at_) ∧ (((((W.setCell ⟨b + 1, 0, none⟩ u0).setCell ⟨b + 1, 1, none⟩ u1).setCell ⟨b + 1, 2, none⟩ u2).setCell ⟨b + 1, 3, none⟩ u3)).cell? ⟨b, 1, none⟩ = some (.slice (some ⟨p1, q1, none⟩) 6 c1) ∧ (((((W.setCell ⟨b + 1, 0, none⟩ u0).setCell ⟨b + 1, 1, none⟩ u1).setCell ⟨b + 1, 2, none⟩ u2).setCell ⟨b + 1, 3, none⟩ u3)).cell? ⟨b, 2, none⟩ = some (.slice (some ⟨p2, q2, none⟩) 16 c2) ∧ (((((W.setCell ⟨b + 1, 0, none⟩ u0).setCell ⟨b + 1, 1, none⟩ u1).setCell ⟨b + 1, 2, none⟩ u2).setCell ⟨b + 1, 3, none⟩ u3)).cell? ⟨b, 3, none⟩ = some (.slice (some ⟨p3, q3, none⟩) 16 c3) :=
  own_S0 ((((h.far (by omega) _).far (by omega) _).far (by omega) _).far (by omega) _)
theorem own_empty {W : World} {base b : Nat} {t : TypeId} (h : Blk W b t []) (hb : base ≤ b) : W.ownsRow base t 1 (.slice (some ⟨b, 0, none⟩) 0 0) 0 [] :=
  ⟨rfl, .inr ⟨b, 0, #[], rfl, hb, h, Nat.le_refl _, by unfold maxLen; omega, rfl, rfl⟩⟩
theorem src_at {W : World} {p q : Nat} {vs : List Value} (h : ∀ j v, vs[j]? = some v → ∃ b off, (some ⟨p, q, none⟩ : Option Addr) = some ⟨b, off, none⟩ ∧ b < W.heap.size ∧ W.cell? ⟨b, off + j, none⟩ = some v) : ∀ j u, vs[j]? = some u → W.cell? ((⟨p, q, none⟩ : Addr).add j) = some u := by
  intro j u hj
  obtain ⟨b, off, he, _, hc⟩ := h j u hj
  injection he with he
  injection he with h1 h2 _
  subst h1 h2
  rw [add_plain]
  exact hc
/-- what l3Own answers -/
def GaveOwn (w : World) (at_ : Nat) (m : Mch) (e : Ending) (w' : World) : Prop :=
  ∃ g1 g2 g3 k1 k2 k3, e = .returned (.agg #[.int .i64 at_, .slice (some ⟨g1, 0, none⟩) 6 k1, .slice (some ⟨g2, 0, none⟩) 16 k2, .slice (some ⟨g3, 0, none⟩) 16 k3]) ∧ OwnM w' w.heap.size g1 g2 g3 k1 k2 k3 m ∧ Below w.heap.size w w'
theorem own_shut {P : Program} {fn : Func} {a : Act} {w W : World} {at_ g1 g2 g3 k1 k2 k3 : Nat} {m : Mch} (_KR : Blk W (w.heap.size + 1) 27 [.int .i64 0, .slice none 0 0, .slice none 0 0, .slice none 0 0]) (h : OwnM W w.heap.size g1 g2 g3 k1 k2 k3 m) (hne : w.heap.size + 1 < g1 ∧ w.heap.size + 1 < g2 ∧ w.heap.size + 1 < g3) (hb : Below w.heap.size w W)
    {u0 u1 u2 u3 : Value} (hr : (results fn a.tmps).run P ((((W.setCell ⟨w.heap.size + 1, 0, none⟩ u0).setCell ⟨w.heap.size + 1, 1, none⟩ u1).setCell ⟨w.heap.size + 1, 2, none⟩ u2).setCell ⟨w.heap.size + 1, 3, none⟩ u3) = .ok (.agg #[.int .i64 at_, .slice (some ⟨g1, 0, none⟩) 6 k1, .slice (some ⟨g2, 0, none⟩) 16 k2, .slice (some ⟨g3, 0, none⟩) 16 k3]) ((((W.setCell ⟨w.heap.size + 1, 0, none⟩ u0).setCell ⟨w.heap.size + 1, 1, none⟩ u1).setCell ⟨w.heap.size + 1, 2, none⟩ u2).setCell ⟨w.heap.size + 1, 3, none⟩ u3)) (hd : a.defers = [] := by rfl) :
    bodyPost P fn (GaveOwn w at_ m) .ret a ((((W.setCell ⟨w.heap.size + 1, 0, none⟩ u0).setCell ⟨w.heap.size + 1, 1, none⟩ u1).setCell ⟨w.heap.size + 1, 2, none⟩ u2).setCell ⟨w.heap.size + 1, 3, none⟩ u3) := by
  refine bodyPost_ret hr hd ⟨g1, g2, g3, k1, k2, k3, rfl, ?_, ?_⟩
  · exact (((h.far _ (by omega) (by omega) (by omega)).far _ (by omega) (by omega) (by omega)).far _ (by omega) (by omega) (by omega)).far _ (by omega) (by omega) (by omega)
  · exact (((hb.setCell (by simp) _).setCell (by simp) _).setCell (by simp) _).setCell (by simp) _

set_option maxRecDepth 100000 in
set_option maxHeartbeats 8000000 in
theorem l3Own_any (at_ p1 q1 p2 q2 p3 q3 c1 c2 c3 : Nat) (m : Mch) (w : World) (hl : Hid (MLies w (some ⟨p1, q1, none⟩) (some ⟨p2, q2, none⟩) (some ⟨p3, q3, none⟩) m)) (HX : Hid (Lens m 6 16 16)) :
    Calls Tryd.prog 43 #[.agg #[.int .i64 at_, .slice (some ⟨p1, q1, none⟩) 6 c1, .slice (some ⟨p2, q2, none⟩) 16 c2, .slice (some ⟨p3, q3, none⟩) 16 c3]] w (GaveOwn w at_ m) := by
  obtain ⟨i0, hi0, hz0, hz1, hz2⟩ := info_parts info_int
  obtain ⟨j0, yi0, yz0, yz1, yz2⟩ := info_parts info_bool
  have KA : Hid (Blk ((w.alloc (.cells #[.int .i64 at_, .slice (some ⟨p1, q1, none⟩) 6 c1, .slice (some ⟨p2, q2, none⟩) 16 c2, .slice (some ⟨p3, q3, none⟩) 16 c3] 27)).alloc (.cells #[.int .i64 0, .slice none 0 0, .slice none 0 0, .slice none 0 0] 27)) w.heap.size 27 [.int .i64 at_, .slice (some ⟨p1, q1, none⟩) 6 c1, .slice (some ⟨p2, q2, none⟩) 16 c2, .slice (some ⟨p3, q3, none⟩) 16 c3]) := Lib.hid (n20 w _ _)
  have KR : Hid (Blk ((w.alloc (.cells #[.int .i64 at_, .slice (some ⟨p1, q1, none⟩) 6 c1, .slice (some ⟨p2, q2, none⟩) 16 c2, .slice (some ⟨p3, q3, none⟩) 16 c3] 27)).alloc (.cells #[.int .i64 0, .slice none 0 0, .slice none 0 0, .slice none 0 0] 27)) (w.heap.size + 1) 27 [.int .i64 0, .slice none 0 0, .slice none 0 0, .slice none 0 0]) := Lib.hid (n21 w _ _)
  have B0 := Lib.hid (below2 w (.cells #[.int .i64 at_, .slice (some ⟨p1, q1, none⟩) 6 c1, .slice (some ⟨p2, q2, none⟩) 16 c2, .slice (some ⟨p3, q3, none⟩) 16 c3] 27) (.cells #[.int .i64 0, .slice none 0 0, .slice none 0 0, .slice none 0 0] 27))
  go_enter Tryd.func43, Tryd.ntmps43
  go_wp2_with fail
  generalize (w.alloc (.cells #[.int .i64 at_, .slice (some ⟨p1, q1, none⟩) 6 c1, .slice (some ⟨p2, q2, none⟩) 16 c2, .slice (some ⟨p3, q3, none⟩) 16 c3] 27)).alloc (.cells #[.int .i64 0, .slice none 0 0, .slice none 0 0, .slice none 0 0] 27) = w0 at KA KR B0 ⊢
  refine wp_region_held_drew (S := fun W => W.cell? ⟨w.heap.size, 0, none⟩ = some (.int .i64 at_) ∧ W.cell? ⟨w.heap.size, 1, none⟩ = some (.slice (some ⟨p1, q1, none⟩) 6 c1) ∧ W.cell? ⟨w.heap.size, 2, none⟩ = some (.slice (some ⟨p2, q2, none⟩) 16 c2) ∧ W.cell? ⟨w.heap.size, 3, none⟩ = some (.slice (some ⟨p3, q3, none⟩) 16 c3)) (by kernel_rfl) ?_ (fun hHeld => ?_)
  · exact own_S0 KA.out
  have KA0 : Hid (Blk (World.drew w0) w.heap.size 27 [.int .i64 at_, .slice (some ⟨p1, q1, none⟩) 6 c1, .slice (some ⟨p2, q2, none⟩) 16 c2, .slice (some ⟨p3, q3, none⟩) 16 c3]) := KA
  have KR0 : Hid (Blk (World.drew w0) (w.heap.size + 1) 27 [.int .i64 0, .slice none 0 0, .slice none 0 0, .slice none 0 0]) := KR
  have BW0 : Hid (Below w.heap.size w (World.drew w0)) := Lib.hid B0.out.drew
  have D0 : Hid (w.heap.size + 1 < (World.drew w0).heap.size) := Lib.hid KR.out.lt
  clear KA KR B0
  generalize World.drew w0 = W0 at KA0 KR0 BW0 D0 hHeld ⊢
  refine wpAnyH_take (i := 0) (v := ?_) rfl (by kernel_rfl) (by kernel_rfl) (by kernel_rfl) (fun _ _ _ h => h) (Or.inl ⟨by rfl, ?_⟩) (by assumption) ?_
  rotate_left
  · intro W hSw
    try dsimp only at hSw
    go_simp
    try with_reducible rfl
  try simp only [Act.put, List.setIfInBounds_toArray]
  refine wpAnyH_take (i := 1) (v := ?_) rfl (by kernel_rfl) (by kernel_rfl) (by kernel_rfl) (fun _ _ _ h => h) (Or.inl ⟨by rfl, ?_⟩) (by assumption) ?_
  rotate_left
  · intro W hSw
    try dsimp only at hSw
    go_simp
    try with_reducible rfl
  try simp only [Act.put]
  refine wpAnyH_take (i := 3) (v := ?_) rfl (by kernel_rfl) (by kernel_rfl) (by kernel_rfl) (fun _ _ _ h => h) (Or.inl ⟨by rfl, ?_⟩) (by assumption) ?_
  rotate_left
  · intro W hSw
    try dsimp only at hSw
    go_simp
    try with_reducible rfl
  try simp only [Act.put]
  refine wpAnyH_take (i := 4) (v := ?_) rfl (by kernel_rfl) (by kernel_rfl) (by kernel_rfl) (fun _ _ _ h => h) (Or.inl ⟨by rfl, ?_⟩) (by assumption) ?_
  rotate_left
  · intro W hSw
    try dsimp only at hSw
    go_simp
    try with_reducible rfl
  try simp only [Act.put]
  refine wpAnyH_take (i := 7) (v := ?_) rfl (by kernel_rfl) (by kernel_rfl) (by kernel_rfl) (fun _ _ _ h => h) (Or.inl ⟨by rfl, ?_⟩) (by assumption) ?_
  rotate_left
  · intro W hSw
    try dsimp only at hSw
    go_simp
    try with_reducible rfl
  try simp only [Act.put]
  refine wpAnyH_take (i := 8) (v := ?_) rfl (by kernel_rfl) (by kernel_rfl) (by kernel_rfl) (fun _ _ _ h => h) (Or.inl ⟨by rfl, ?_⟩) (by assumption) ?_
  rotate_left
  · intro W hSw
    try dsimp only at hSw
    go_simp
    try with_reducible rfl
  try simp only [Act.put]
  refine wpAnyH_take (i := 11) (v := ?_) rfl (by kernel_rfl) (by kernel_rfl) (by kernel_rfl) (fun _ _ _ h => h) (Or.inl ⟨by rfl, ?_⟩) (by assumption) ?_
  rotate_left
  · intro W hSw
    try dsimp only at hSw
    go_simp
    try with_reducible rfl
  try simp only [Act.put]
  refine wpAnyH_take (i := 12) (v := ?_) rfl (by kernel_rfl) (by kernel_rfl) (by kernel_rfl) (fun _ _ _ h => h) (Or.inl ⟨by rfl, ?_⟩) (by assumption) ?_
  rotate_left
  · intro W hSw
    try dsimp only at hSw
    go_simp
    try with_reducible rfl
  try simp only [Act.put]
  refine wpAnyH_ready (rs := [2, 6, 10]) (by kernel_rfl) (by simp) ?_
  refine AllReadyH.cons rfl (fun K hK => ?_) (AllReadyH.cons rfl (fun K hK => ?_) (AllReadyH.cons rfl (fun K hK => ?_) AllReadyH.nil))
  · go_simp
    have hb := below1 W0 (.cells #[] 3)
    have KA1 := Lib.hid (KA0.out.below hb)
    have KR1 := Lib.hid (KR0.out.below hb)
    have BW1 := Lib.hid (Below.tr BW0.out hb)
    have E1_1 : Hid (Blk (W0.alloc (.cells #[] 3)) W0.heap.size 3 []) := Lib.hid (heap_alloc_new W0 _)
    have SZ : Hid ((W0.alloc (.cells #[] 3)).heap.size = W0.heap.size + 1) := Lib.hid (by simp)
    clear hb
    obtain ⟨b1_1, hb1_1⟩ : ∃ q, W0.heap.size = q := ⟨_, rfl⟩
    rw [hb1_1] at E1_1 SZ ⊢
    generalize W0.alloc (.cells #[] 3) = W1 at KA1 KR1 BW1 SZ E1_1 ⊢
    have D1 : Hid (w.heap.size + 1 < W1.heap.size ∧ w.heap.size + 1 < b1_1 ∧ b1_1 < W1.heap.size) := Lib.hid (by have := D0.out; have := SZ.out; omega)
    clear SZ hb1_1
    refine hK.out _ _ ?_ (fun hS1 => ?_)
    · exact own_S0 KA1.out
    clear hK K
    try simp only [Act.put, List.setIfInBounds_toArray, List.set_cons_zero, List.set_cons_succ, Nat.zero_add]
    refine wpAnyH_ready (rs := [5, 6, 10]) (by kernel_rfl) (by simp) ?_
    refine AllReadyH.cons rfl (fun K hK => ?_) (AllReadyH.cons rfl (fun K hK => ?_) (AllReadyH.cons rfl (fun K hK => ?_) AllReadyH.nil))
    · refine step_append_lies W1 rfl (.tmp 5) (.tmp 7) 24 rfl w.heap.size 3 i0 (.int .i64 0) 1 8 Tryd.underlying24 hi0 hz0 hz1 hz2 rfl (by omega) (.slice (some ⟨b1_1, 0, none⟩) 0 0) 0 [] rfl (own_empty E1_1.out (by have := D1.out; omega)) ⟨p1, q1, none⟩ 6 c1 (m.r.map (Value.int .i64)) rfl (by simpa using HX.out.1) (src_at (src_i (hl.out.below BW1.out).1)) (one_i _) (by omega) (by unfold maxLen; omega) (by omega) (by have := BW1.out.size; omega) _ rfl ?_
      intro g1_2 k1_2 W2 hown hgr hat hlt
      have kp := Kept.of_grown (S := fun i => i = b1_1) hgr (fun x h => by simpa [Value.ownBlock] using h.symm)
      have KA2 := Lib.hid (kp.blk KA1.out (by have := D1.out; omega))
      have KR2 := Lib.hid (kp.blk KR1.out (by have := D1.out; omega))
      have BW2 := Lib.hid (kp.below BW1.out BW1.out.size (fun x hx => by have := D1.out; have hx' : x = b1_1 := hx; omega))
      have R1_2 : Hid (W2.ownsRow w.heap.size 3 1 (.slice (some ⟨g1_2, 0, none⟩) 6 k1_2) 6 (m.r.map (Value.int .i64))) := Lib.hid (by simpa using hown)
      have D2 : Hid (w.heap.size + 1 < W2.heap.size ∧ w.heap.size + 1 < g1_2 ∧ g1_2 < W2.heap.size) := by
        have h0 := D1.out
        have hs := hgr.size
        show w.heap.size + 1 < W2.heap.size ∧ w.heap.size + 1 < g1_2 ∧ g1_2 < W2.heap.size
        rcases hat with h | h
        · have h' : b1_1 = g1_2 := by simpa [Value.ownBlock] using h
          omega
        · omega
      clear hown hgr hat hlt kp
      refine hK.out _ _ ?_ (fun hS2 => ?_)
      · exact own_S0 KA2.out
      clear hK K
      try simp only [Act.put, List.setIfInBounds_toArray, Nat.zero_add]
      refine wpAnyH_ready (rs := [6, 10]) (by kernel_rfl) (by simp) ?_
      refine AllReadyH.cons rfl (fun K hK => ?_) (AllReadyH.cons rfl (fun K hK => ?_) AllReadyH.nil)
      · go_simp
        have hb := below1 W2 (.cells #[] 3)
        have KA3 := Lib.hid (KA2.out.below hb)
        have KR3 := Lib.hid (KR2.out.below hb)
        have BW3 := Lib.hid (Below.tr BW2.out hb)
        have R1_3 := Lib.hid (own_below R1_2.out hb)
        have E2_3 : Hid (Blk (W2.alloc (.cells #[] 3)) W2.heap.size 3 []) := Lib.hid (heap_alloc_new W2 _)
        have SZ : Hid ((W2.alloc (.cells #[] 3)).heap.size = W2.heap.size + 1) := Lib.hid (by simp)
        clear hb
        obtain ⟨b2_3, hb2_3⟩ : ∃ q, W2.heap.size = q := ⟨_, rfl⟩
        rw [hb2_3] at E2_3 SZ ⊢
        generalize W2.alloc (.cells #[] 3) = W3 at KA3 KR3 BW3 SZ E2_3 R1_3 ⊢
        have D3 : Hid (w.heap.size + 1 < W3.heap.size ∧ w.heap.size + 1 < g1_2 ∧ g1_2 < W3.heap.size ∧ w.heap.size + 1 < b2_3 ∧ b2_3 < W3.heap.size ∧ g1_2 ≠ b2_3) := Lib.hid (by have := D2.out; have := SZ.out; omega)
        clear SZ hb2_3
        refine hK.out _ _ ?_ (fun hS3 => ?_)
        · exact own_S0 KA3.out
        clear hK K
        try simp only [Act.put, List.setIfInBounds_toArray, List.set_cons_zero, List.set_cons_succ, Nat.zero_add]
        refine wpAnyH_ready (rs := [9, 10]) (by kernel_rfl) (by simp) ?_
        refine AllReadyH.cons rfl (fun K hK => ?_) (AllReadyH.cons rfl (fun K hK => ?_) AllReadyH.nil)
        · refine step_append_lies W3 rfl (.tmp 9) (.tmp 11) 24 rfl w.heap.size 3 i0 (.int .i64 0) 1 8 Tryd.underlying24 hi0 hz0 hz1 hz2 rfl (by omega) (.slice (some ⟨b2_3, 0, none⟩) 0 0) 0 [] rfl (own_empty E2_3.out (by have := D3.out; omega)) ⟨p2, q2, none⟩ 16 c2 (m.c.map (Value.int .i64)) rfl (by simpa using HX.out.2.1) (src_at (src_i (hl.out.below BW3.out).2.1)) (one_i _) (by omega) (by unfold maxLen; omega) (by omega) (by have := BW3.out.size; omega) _ rfl ?_
          intro g2_4 k2_4 W4 hown hgr hat hlt
          have kp := Kept.of_grown (S := fun i => i = b2_3) hgr (fun x h => by simpa [Value.ownBlock] using h.symm)
          have KA4 := Lib.hid (kp.blk KA3.out (by have := D3.out; omega))
          have KR4 := Lib.hid (kp.blk KR3.out (by have := D3.out; omega))
          have BW4 := Lib.hid (kp.below BW3.out BW3.out.size (fun x hx => by have := D3.out; have hx' : x = b2_3 := hx; omega))
          have R1_4 := Lib.hid (own_kept3 R1_3.out kp (by have := D3.out; omega))
          have R2_4 : Hid (W4.ownsRow w.heap.size 3 1 (.slice (some ⟨g2_4, 0, none⟩) 16 k2_4) 16 (m.c.map (Value.int .i64))) := Lib.hid (by simpa using hown)
          have D4 : Hid (w.heap.size + 1 < W4.heap.size ∧ w.heap.size + 1 < g1_2 ∧ g1_2 < W4.heap.size ∧ w.heap.size + 1 < g2_4 ∧ g2_4 < W4.heap.size ∧ g1_2 ≠ g2_4) := by
            have h0 := D3.out
            have hs := hgr.size
            show w.heap.size + 1 < W4.heap.size ∧ w.heap.size + 1 < g1_2 ∧ g1_2 < W4.heap.size ∧ w.heap.size + 1 < g2_4 ∧ g2_4 < W4.heap.size ∧ g1_2 ≠ g2_4
            rcases hat with h | h
            · have h' : b2_3 = g2_4 := by simpa [Value.ownBlock] using h
              omega
            · omega
          clear hown hgr hat hlt kp
          refine hK.out _ _ ?_ (fun hS4 => ?_)
          · exact own_S0 KA4.out
          clear hK K
          try simp only [Act.put, List.setIfInBounds_toArray, Nat.zero_add]
          refine wpAnyH_ready (rs := [10]) (by kernel_rfl) (by simp) ?_
          refine AllReadyH.cons rfl (fun K hK => ?_) AllReadyH.nil
          · go_simp
            have hb := below1 W4 (.cells #[] 4)
            have KA5 := Lib.hid (KA4.out.below hb)
            have KR5 := Lib.hid (KR4.out.below hb)
            have BW5 := Lib.hid (Below.tr BW4.out hb)
            have R1_5 := Lib.hid (own_below R1_4.out hb)
            have R2_5 := Lib.hid (own_below R2_4.out hb)
            have E3_5 : Hid (Blk (W4.alloc (.cells #[] 4)) W4.heap.size 4 []) := Lib.hid (heap_alloc_new W4 _)
            have SZ : Hid ((W4.alloc (.cells #[] 4)).heap.size = W4.heap.size + 1) := Lib.hid (by simp)
            clear hb
            obtain ⟨b3_5, hb3_5⟩ : ∃ q, W4.heap.size = q := ⟨_, rfl⟩
            rw [hb3_5] at E3_5 SZ ⊢
            generalize W4.alloc (.cells #[] 4) = W5 at KA5 KR5 BW5 SZ E3_5 R1_5 R2_5 ⊢
            have D5 : Hid (w.heap.size + 1 < W5.heap.size ∧ w.heap.size + 1 < g1_2 ∧ g1_2 < W5.heap.size ∧ w.heap.size + 1 < g2_4 ∧ g2_4 < W5.heap.size ∧ w.heap.size + 1 < b3_5 ∧ b3_5 < W5.heap.size ∧ g1_2 ≠ g2_4 ∧ g1_2 ≠ b3_5 ∧ g2_4 ≠ b3_5) := Lib.hid (by have := D4.out; have := SZ.out; omega)
            clear SZ hb3_5
            refine hK.out _ _ ?_ (fun hS5 => ?_)
            · exact own_S0 KA5.out
            clear hK K
            try simp only [Act.put, List.setIfInBounds_toArray, List.set_cons_zero, List.set_cons_succ, Nat.zero_add]
            refine wpAnyH_ready (rs := [13]) (by kernel_rfl) (by simp) ?_
            refine AllReadyH.cons rfl (fun K hK => ?_) AllReadyH.nil
            · refine step_append_lies W5 rfl (.tmp 13) (.tmp 15) 25 rfl w.heap.size 4 j0 (.bool false) 1 1 Tryd.underlying25 yi0 yz0 yz1 yz2 rfl (by omega) (.slice (some ⟨b3_5, 0, none⟩) 0 0) 0 [] rfl (own_empty E3_5.out (by have := D5.out; omega)) ⟨p3, q3, none⟩ 16 c3 (m.s.map Value.bool) rfl (by simpa using HX.out.2.2) (src_at (src_b (hl.out.below BW5.out).2.2)) (one_b _) (by omega) (by unfold maxLen; omega) (by omega) (by have := BW5.out.size; omega) _ rfl ?_
              intro g3_6 k3_6 W6 hown hgr hat hlt
              have kp := Kept.of_grown (S := fun i => i = b3_5) hgr (fun x h => by simpa [Value.ownBlock] using h.symm)
              have KA6 := Lib.hid (kp.blk KA5.out (by have := D5.out; omega))
              have KR6 := Lib.hid (kp.blk KR5.out (by have := D5.out; omega))
              have BW6 := Lib.hid (kp.below BW5.out BW5.out.size (fun x hx => by have := D5.out; have hx' : x = b3_5 := hx; omega))
              have R1_6 := Lib.hid (own_kept3 R1_5.out kp (by have := D5.out; omega))
              have R2_6 := Lib.hid (own_kept3 R2_5.out kp (by have := D5.out; omega))
              have R3_6 : Hid (W6.ownsRow w.heap.size 4 1 (.slice (some ⟨g3_6, 0, none⟩) 16 k3_6) 16 (m.s.map Value.bool)) := Lib.hid (by simpa using hown)
              have D6 : Hid (w.heap.size + 1 < W6.heap.size ∧ w.heap.size + 1 < g1_2 ∧ g1_2 < W6.heap.size ∧ w.heap.size + 1 < g2_4 ∧ g2_4 < W6.heap.size ∧ w.heap.size + 1 < g3_6 ∧ g3_6 < W6.heap.size ∧ g1_2 ≠ g2_4 ∧ g1_2 ≠ g3_6 ∧ g2_4 ≠ g3_6) := by
                have h0 := D5.out
                have hs := hgr.size
                show w.heap.size + 1 < W6.heap.size ∧ w.heap.size + 1 < g1_2 ∧ g1_2 < W6.heap.size ∧ w.heap.size + 1 < g2_4 ∧ g2_4 < W6.heap.size ∧ w.heap.size + 1 < g3_6 ∧ g3_6 < W6.heap.size ∧ g1_2 ≠ g2_4 ∧ g1_2 ≠ g3_6 ∧ g2_4 ≠ g3_6
                rcases hat with h | h
                · have h' : b3_5 = g3_6 := by simpa [Value.ownBlock] using h
                  omega
                · omega
              clear hown hgr hat hlt kp
              refine hK.out _ _ ?_ (fun hS6 => ?_)
              · exact own_S0 KA6.out
              clear hK K
              try simp only [Act.put, List.setIfInBounds_toArray, Nat.zero_add]
              refine wpAnyH_take (i := 14) (v := ?_) rfl (by kernel_rfl) (by kernel_rfl) (by kernel_rfl) (fun _ _ _ h => h) (Or.inl ⟨by rfl, ?_⟩) (by assumption) ?_
              rotate_left
              · intro W hSw
                try dsimp only at hSw
                go_simp
                try with_reducible rfl
              try simp only [Act.put]
              have v0 : W6.cell? ⟨w.heap.size + 1, 0, none⟩ = some (.int .i64 0) := KR6.out.there rfl
              have e0 := KR6.out.frozen 0
              have v1 : W6.cell? ⟨w.heap.size + 1, 1, none⟩ = some (.slice none 0 0) := KR6.out.there rfl
              have e1 := KR6.out.frozen 1
              have v2 : W6.cell? ⟨w.heap.size + 1, 2, none⟩ = some (.slice none 0 0) := KR6.out.there rfl
              have e2 := KR6.out.frozen 2
              have v3 : W6.cell? ⟨w.heap.size + 1, 3, none⟩ = some (.slice none 0 0) := KR6.out.there rfl
              have e3 := KR6.out.frozen 3
              refine wpAnyH_ready (rs := [15]) (by kernel_rfl) (by simp) ?_
              refine AllReadyH.cons rfl (fun K hK => ?_) AllReadyH.nil
              go_simp
              refine hK.out _ _ ?_ (fun hS2 => ?_)
              · exact own_S KA6.out
              clear hK K
              refine wpAnyH_done (by kernel_rfl) ?_ _
              go_wp2
              exact own_shut KR6.out ⟨R1_6.out, R2_6.out, R3_6.out, by have := D6.out; omega⟩ (by have := D6.out; omega) BW6.out (by simp [results, Tryd.results43, go_sem, v0, v1, v2, v3])
        · go_simp
          have hb := below1 W3 (.cells #[] 4)
          have KA4 := Lib.hid (KA3.out.below hb)
          have KR4 := Lib.hid (KR3.out.below hb)
          have BW4 := Lib.hid (Below.tr BW3.out hb)
          have R1_4 := Lib.hid (own_below R1_3.out hb)
          have E2_4 := Lib.hid (E2_3.out.below hb)
          have E3_4 : Hid (Blk (W3.alloc (.cells #[] 4)) W3.heap.size 4 []) := Lib.hid (heap_alloc_new W3 _)
          have SZ : Hid ((W3.alloc (.cells #[] 4)).heap.size = W3.heap.size + 1) := Lib.hid (by simp)
          clear hb
          obtain ⟨b3_4, hb3_4⟩ : ∃ q, W3.heap.size = q := ⟨_, rfl⟩
          rw [hb3_4] at E3_4 SZ ⊢
          generalize W3.alloc (.cells #[] 4) = W4 at KA4 KR4 BW4 SZ E2_4 E3_4 R1_4 ⊢
          have D4 : Hid (w.heap.size + 1 < W4.heap.size ∧ w.heap.size + 1 < g1_2 ∧ g1_2 < W4.heap.size ∧ w.heap.size + 1 < b2_3 ∧ b2_3 < W4.heap.size ∧ w.heap.size + 1 < b3_4 ∧ b3_4 < W4.heap.size ∧ g1_2 ≠ b2_3 ∧ g1_2 ≠ b3_4 ∧ b2_3 ≠ b3_4) := Lib.hid (by have := D3.out; have := SZ.out; omega)
          clear SZ hb3_4
          refine hK.out _ _ ?_ (fun hS4 => ?_)
          · exact own_S0 KA4.out
          clear hK K
          try simp only [Act.put, List.setIfInBounds_toArray, List.set_cons_zero, List.set_cons_succ, Nat.zero_add]
          refine wpAnyH_ready (rs := [9]) (by kernel_rfl) (by simp) ?_
          refine AllReadyH.cons rfl (fun K hK => ?_) AllReadyH.nil
          · refine step_append_lies W4 rfl (.tmp 9) (.tmp 11) 24 rfl w.heap.size 3 i0 (.int .i64 0) 1 8 Tryd.underlying24 hi0 hz0 hz1 hz2 rfl (by omega) (.slice (some ⟨b2_3, 0, none⟩) 0 0) 0 [] rfl (own_empty E2_4.out (by have := D4.out; omega)) ⟨p2, q2, none⟩ 16 c2 (m.c.map (Value.int .i64)) rfl (by simpa using HX.out.2.1) (src_at (src_i (hl.out.below BW4.out).2.1)) (one_i _) (by omega) (by unfold maxLen; omega) (by omega) (by have := BW4.out.size; omega) _ rfl ?_
            intro g2_5 k2_5 W5 hown hgr hat hlt
            have kp := Kept.of_grown (S := fun i => i = b2_3) hgr (fun x h => by simpa [Value.ownBlock] using h.symm)
            have KA5 := Lib.hid (kp.blk KA4.out (by have := D4.out; omega))
            have KR5 := Lib.hid (kp.blk KR4.out (by have := D4.out; omega))
            have BW5 := Lib.hid (kp.below BW4.out BW4.out.size (fun x hx => by have := D4.out; have hx' : x = b2_3 := hx; omega))
            have R1_5 := Lib.hid (own_kept3 R1_4.out kp (by have := D4.out; omega))
            have E3_5 := Lib.hid (kp.blk E3_4.out (by have := D4.out; omega))
            have R2_5 : Hid (W5.ownsRow w.heap.size 3 1 (.slice (some ⟨g2_5, 0, none⟩) 16 k2_5) 16 (m.c.map (Value.int .i64))) := Lib.hid (by simpa using hown)
            have D5 : Hid (w.heap.size + 1 < W5.heap.size ∧ w.heap.size + 1 < g1_2 ∧ g1_2 < W5.heap.size ∧ w.heap.size + 1 < b3_4 ∧ b3_4 < W5.heap.size ∧ w.heap.size + 1 < g2_5 ∧ g2_5 < W5.heap.size ∧ g1_2 ≠ b3_4 ∧ g1_2 ≠ g2_5 ∧ b3_4 ≠ g2_5) := by
              have h0 := D4.out
              have hs := hgr.size
              show w.heap.size + 1 < W5.heap.size ∧ w.heap.size + 1 < g1_2 ∧ g1_2 < W5.heap.size ∧ w.heap.size + 1 < b3_4 ∧ b3_4 < W5.heap.size ∧ w.heap.size + 1 < g2_5 ∧ g2_5 < W5.heap.size ∧ g1_2 ≠ b3_4 ∧ g1_2 ≠ g2_5 ∧ b3_4 ≠ g2_5
              rcases hat with h | h
              · have h' : b2_3 = g2_5 := by simpa [Value.ownBlock] using h
                omega
              · omega
            clear hown hgr hat hlt kp
            refine hK.out _ _ ?_ (fun hS5 => ?_)
            · exact own_S0 KA5.out
            clear hK K
            try simp only [Act.put, List.setIfInBounds_toArray, Nat.zero_add]
            refine wpAnyH_ready (rs := [13]) (by kernel_rfl) (by simp) ?_
            refine AllReadyH.cons rfl (fun K hK => ?_) AllReadyH.nil
            · refine step_append_lies W5 rfl (.tmp 13) (.tmp 15) 25 rfl w.heap.size 4 j0 (.bool false) 1 1 Tryd.underlying25 yi0 yz0 yz1 yz2 rfl (by omega) (.slice (some ⟨b3_4, 0, none⟩) 0 0) 0 [] rfl (own_empty E3_5.out (by have := D5.out; omega)) ⟨p3, q3, none⟩ 16 c3 (m.s.map Value.bool) rfl (by simpa using HX.out.2.2) (src_at (src_b (hl.out.below BW5.out).2.2)) (one_b _) (by omega) (by unfold maxLen; omega) (by omega) (by have := BW5.out.size; omega) _ rfl ?_
              intro g3_6 k3_6 W6 hown hgr hat hlt
              have kp := Kept.of_grown (S := fun i => i = b3_4) hgr (fun x h => by simpa [Value.ownBlock] using h.symm)
              have KA6 := Lib.hid (kp.blk KA5.out (by have := D5.out; omega))
              have KR6 := Lib.hid (kp.blk KR5.out (by have := D5.out; omega))
              have BW6 := Lib.hid (kp.below BW5.out BW5.out.size (fun x hx => by have := D5.out; have hx' : x = b3_4 := hx; omega))
              have R1_6 := Lib.hid (own_kept3 R1_5.out kp (by have := D5.out; omega))
              have R2_6 := Lib.hid (own_kept3 R2_5.out kp (by have := D5.out; omega))
              have R3_6 : Hid (W6.ownsRow w.heap.size 4 1 (.slice (some ⟨g3_6, 0, none⟩) 16 k3_6) 16 (m.s.map Value.bool)) := Lib.hid (by simpa using hown)
              have D6 : Hid (w.heap.size + 1 < W6.heap.size ∧ w.heap.size + 1 < g1_2 ∧ g1_2 < W6.heap.size ∧ w.heap.size + 1 < g2_5 ∧ g2_5 < W6.heap.size ∧ w.heap.size + 1 < g3_6 ∧ g3_6 < W6.heap.size ∧ g1_2 ≠ g2_5 ∧ g1_2 ≠ g3_6 ∧ g2_5 ≠ g3_6) := by
                have h0 := D5.out
                have hs := hgr.size
                show w.heap.size + 1 < W6.heap.size ∧ w.heap.size + 1 < g1_2 ∧ g1_2 < W6.heap.size ∧ w.heap.size + 1 < g2_5 ∧ g2_5 < W6.heap.size ∧ w.heap.size + 1 < g3_6 ∧ g3_6 < W6.heap.size ∧ g1_2 ≠ g2_5 ∧ g1_2 ≠ g3_6 ∧ g2_5 ≠ g3_6
                rcases hat with h | h
                · have h' : b3_4 = g3_6 := by simpa [Value.ownBlock] using h
                  omega
                · omega
              clear hown hgr hat hlt kp
              refine hK.out _ _ ?_ (fun hS6 => ?_)
              · exact own_S0 KA6.out
              clear hK K
              try simp only [Act.put, Nat.zero_add]
              refine wpAnyH_take (i := 14) (v := ?_) rfl (by kernel_rfl) (by kernel_rfl) (by kernel_rfl) (fun _ _ _ h => h) (Or.inl ⟨by rfl, ?_⟩) (by assumption) ?_
              rotate_left
              · intro W hSw
                try dsimp only at hSw
                go_simp
                try with_reducible rfl
              try simp only [Act.put]
              have v0 : W6.cell? ⟨w.heap.size + 1, 0, none⟩ = some (.int .i64 0) := KR6.out.there rfl
              have e0 := KR6.out.frozen 0
              have v1 : W6.cell? ⟨w.heap.size + 1, 1, none⟩ = some (.slice none 0 0) := KR6.out.there rfl
              have e1 := KR6.out.frozen 1
              have v2 : W6.cell? ⟨w.heap.size + 1, 2, none⟩ = some (.slice none 0 0) := KR6.out.there rfl
              have e2 := KR6.out.frozen 2
              have v3 : W6.cell? ⟨w.heap.size + 1, 3, none⟩ = some (.slice none 0 0) := KR6.out.there rfl
              have e3 := KR6.out.frozen 3
              refine wpAnyH_ready (rs := [15]) (by kernel_rfl) (by simp) ?_
              refine AllReadyH.cons rfl (fun K hK => ?_) AllReadyH.nil
              go_simp
              refine hK.out _ _ ?_ (fun hS2 => ?_)
              · exact own_S KA6.out
              clear hK K
              refine wpAnyH_done (by kernel_rfl) ?_ _
              go_wp2
              exact own_shut KR6.out ⟨R1_6.out, R2_6.out, R3_6.out, by have := D6.out; omega⟩ (by have := D6.out; omega) BW6.out (by simp [results, Tryd.results43, go_sem, v0, v1, v2, v3])
      · go_simp
        have hb := below1 W2 (.cells #[] 4)
        have KA3 := Lib.hid (KA2.out.below hb)
        have KR3 := Lib.hid (KR2.out.below hb)
        have BW3 := Lib.hid (Below.tr BW2.out hb)
        have R1_3 := Lib.hid (own_below R1_2.out hb)
        have E3_3 : Hid (Blk (W2.alloc (.cells #[] 4)) W2.heap.size 4 []) := Lib.hid (heap_alloc_new W2 _)
        have SZ : Hid ((W2.alloc (.cells #[] 4)).heap.size = W2.heap.size + 1) := Lib.hid (by simp)
        clear hb
        obtain ⟨b3_3, hb3_3⟩ : ∃ q, W2.heap.size = q := ⟨_, rfl⟩
        rw [hb3_3] at E3_3 SZ ⊢
        generalize W2.alloc (.cells #[] 4) = W3 at KA3 KR3 BW3 SZ E3_3 R1_3 ⊢
        have D3 : Hid (w.heap.size + 1 < W3.heap.size ∧ w.heap.size + 1 < g1_2 ∧ g1_2 < W3.heap.size ∧ w.heap.size + 1 < b3_3 ∧ b3_3 < W3.heap.size ∧ g1_2 ≠ b3_3) := Lib.hid (by have := D2.out; have := SZ.out; omega)
        clear SZ hb3_3
        refine hK.out _ _ ?_ (fun hS3 => ?_)
        · exact own_S0 KA3.out
        clear hK K
        try simp only [Act.put, List.setIfInBounds_toArray, List.set_cons_zero, List.set_cons_succ, Nat.zero_add]
        refine wpAnyH_ready (rs := [6]) (by kernel_rfl) (by simp) ?_
        refine AllReadyH.cons rfl (fun K hK => ?_) AllReadyH.nil
        · go_simp
          have hb := below1 W3 (.cells #[] 3)
          have KA4 := Lib.hid (KA3.out.below hb)
          have KR4 := Lib.hid (KR3.out.below hb)
          have BW4 := Lib.hid (Below.tr BW3.out hb)
          have R1_4 := Lib.hid (own_below R1_3.out hb)
          have E3_4 := Lib.hid (E3_3.out.below hb)
          have E2_4 : Hid (Blk (W3.alloc (.cells #[] 3)) W3.heap.size 3 []) := Lib.hid (heap_alloc_new W3 _)
          have SZ : Hid ((W3.alloc (.cells #[] 3)).heap.size = W3.heap.size + 1) := Lib.hid (by simp)
          clear hb
          obtain ⟨b2_4, hb2_4⟩ : ∃ q, W3.heap.size = q := ⟨_, rfl⟩
          rw [hb2_4] at E2_4 SZ ⊢
          generalize W3.alloc (.cells #[] 3) = W4 at KA4 KR4 BW4 SZ E2_4 E3_4 R1_4 ⊢
          have D4 : Hid (w.heap.size + 1 < W4.heap.size ∧ w.heap.size + 1 < g1_2 ∧ g1_2 < W4.heap.size ∧ w.heap.size + 1 < b3_3 ∧ b3_3 < W4.heap.size ∧ w.heap.size + 1 < b2_4 ∧ b2_4 < W4.heap.size ∧ g1_2 ≠ b3_3 ∧ g1_2 ≠ b2_4 ∧ b3_3 ≠ b2_4) := Lib.hid (by have := D3.out; have := SZ.out; omega)
          clear SZ hb2_4
          refine hK.out _ _ ?_ (fun hS4 => ?_)
          · exact own_S0 KA4.out
          clear hK K
          try simp only [Act.put, List.setIfInBounds_toArray, List.set_cons_zero, List.set_cons_succ, Nat.zero_add]
          refine wpAnyH_ready (rs := [9]) (by kernel_rfl) (by simp) ?_
          refine AllReadyH.cons rfl (fun K hK => ?_) AllReadyH.nil
          · refine step_append_lies W4 rfl (.tmp 9) (.tmp 11) 24 rfl w.heap.size 3 i0 (.int .i64 0) 1 8 Tryd.underlying24 hi0 hz0 hz1 hz2 rfl (by omega) (.slice (some ⟨b2_4, 0, none⟩) 0 0) 0 [] rfl (own_empty E2_4.out (by have := D4.out; omega)) ⟨p2, q2, none⟩ 16 c2 (m.c.map (Value.int .i64)) rfl (by simpa using HX.out.2.1) (src_at (src_i (hl.out.below BW4.out).2.1)) (one_i _) (by omega) (by unfold maxLen; omega) (by omega) (by have := BW4.out.size; omega) _ rfl ?_
            intro g2_5 k2_5 W5 hown hgr hat hlt
            have kp := Kept.of_grown (S := fun i => i = b2_4) hgr (fun x h => by simpa [Value.ownBlock] using h.symm)
            have KA5 := Lib.hid (kp.blk KA4.out (by have := D4.out; omega))
            have KR5 := Lib.hid (kp.blk KR4.out (by have := D4.out; omega))
            have BW5 := Lib.hid (kp.below BW4.out BW4.out.size (fun x hx => by have := D4.out; have hx' : x = b2_4 := hx; omega))
            have R1_5 := Lib.hid (own_kept3 R1_4.out kp (by have := D4.out; omega))
            have E3_5 := Lib.hid (kp.blk E3_4.out (by have := D4.out; omega))
            have R2_5 : Hid (W5.ownsRow w.heap.size 3 1 (.slice (some ⟨g2_5, 0, none⟩) 16 k2_5) 16 (m.c.map (Value.int .i64))) := Lib.hid (by simpa using hown)
            have D5 : Hid (w.heap.size + 1 < W5.heap.size ∧ w.heap.size + 1 < g1_2 ∧ g1_2 < W5.heap.size ∧ w.heap.size + 1 < b3_3 ∧ b3_3 < W5.heap.size ∧ w.heap.size + 1 < g2_5 ∧ g2_5 < W5.heap.size ∧ g1_2 ≠ b3_3 ∧ g1_2 ≠ g2_5 ∧ b3_3 ≠ g2_5) := by
              have h0 := D4.out
              have hs := hgr.size
              show w.heap.size + 1 < W5.heap.size ∧ w.heap.size + 1 < g1_2 ∧ g1_2 < W5.heap.size ∧ w.heap.size + 1 < b3_3 ∧ b3_3 < W5.heap.size ∧ w.heap.size + 1 < g2_5 ∧ g2_5 < W5.heap.size ∧ g1_2 ≠ b3_3 ∧ g1_2 ≠ g2_5 ∧ b3_3 ≠ g2_5
              rcases hat with h | h
              · have h' : b2_4 = g2_5 := by simpa [Value.ownBlock] using h
                omega
              · omega
            clear hown hgr hat hlt kp
            refine hK.out _ _ ?_ (fun hS5 => ?_)
            · exact own_S0 KA5.out
            clear hK K
            try simp only [Act.put, List.setIfInBounds_toArray, Nat.zero_add]
            refine wpAnyH_ready (rs := [13]) (by kernel_rfl) (by simp) ?_
            refine AllReadyH.cons rfl (fun K hK => ?_) AllReadyH.nil
            · refine step_append_lies W5 rfl (.tmp 13) (.tmp 15) 25 rfl w.heap.size 4 j0 (.bool false) 1 1 Tryd.underlying25 yi0 yz0 yz1 yz2 rfl (by omega) (.slice (some ⟨b3_3, 0, none⟩) 0 0) 0 [] rfl (own_empty E3_5.out (by have := D5.out; omega)) ⟨p3, q3, none⟩ 16 c3 (m.s.map Value.bool) rfl (by simpa using HX.out.2.2) (src_at (src_b (hl.out.below BW5.out).2.2)) (one_b _) (by omega) (by unfold maxLen; omega) (by omega) (by have := BW5.out.size; omega) _ rfl ?_
              intro g3_6 k3_6 W6 hown hgr hat hlt
              have kp := Kept.of_grown (S := fun i => i = b3_3) hgr (fun x h => by simpa [Value.ownBlock] using h.symm)
              have KA6 := Lib.hid (kp.blk KA5.out (by have := D5.out; omega))
              have KR6 := Lib.hid (kp.blk KR5.out (by have := D5.out; omega))
              have BW6 := Lib.hid (kp.below BW5.out BW5.out.size (fun x hx => by have := D5.out; have hx' : x = b3_3 := hx; omega))
              have R1_6 := Lib.hid (own_kept3 R1_5.out kp (by have := D5.out; omega))
              have R2_6 := Lib.hid (own_kept3 R2_5.out kp (by have := D5.out; omega))
              have R3_6 : Hid (W6.ownsRow w.heap.size 4 1 (.slice (some ⟨g3_6, 0, none⟩) 16 k3_6) 16 (m.s.map Value.bool)) := Lib.hid (by simpa using hown)
              have D6 : Hid (w.heap.size + 1 < W6.heap.size ∧ w.heap.size + 1 < g1_2 ∧ g1_2 < W6.heap.size ∧ w.heap.size + 1 < g2_5 ∧ g2_5 < W6.heap.size ∧ w.heap.size + 1 < g3_6 ∧ g3_6 < W6.heap.size ∧ g1_2 ≠ g2_5 ∧ g1_2 ≠ g3_6 ∧ g2_5 ≠ g3_6) := by
                have h0 := D5.out
                have hs := hgr.size
                show w.heap.size + 1 < W6.heap.size ∧ w.heap.size + 1 < g1_2 ∧ g1_2 < W6.heap.size ∧ w.heap.size + 1 < g2_5 ∧ g2_5 < W6.heap.size ∧ w.heap.size + 1 < g3_6 ∧ g3_6 < W6.heap.size ∧ g1_2 ≠ g2_5 ∧ g1_2 ≠ g3_6 ∧ g2_5 ≠ g3_6
                rcases hat with h | h
                · have h' : b3_3 = g3_6 := by simpa [Value.ownBlock] using h
                  omega
                · omega
              clear hown hgr hat hlt kp
              refine hK.out _ _ ?_ (fun hS6 => ?_)
              · exact own_S0 KA6.out
              clear hK K
              try simp only [Act.put, Nat.zero_add]
              refine wpAnyH_take (i := 14) (v := ?_) rfl (by kernel_rfl) (by kernel_rfl) (by kernel_rfl) (fun _ _ _ h => h) (Or.inl ⟨by rfl, ?_⟩) (by assumption) ?_
              rotate_left
              · intro W hSw
                try dsimp only at hSw
                go_simp
                try with_reducible rfl
              try simp only [Act.put]
              have v0 : W6.cell? ⟨w.heap.size + 1, 0, none⟩ = some (.int .i64 0) := KR6.out.there rfl
              have e0 := KR6.out.frozen 0
              have v1 : W6.cell? ⟨w.heap.size + 1, 1, none⟩ = some (.slice none 0 0) := KR6.out.there rfl
              have e1 := KR6.out.frozen 1
              have v2 : W6.cell? ⟨w.heap.size + 1, 2, none⟩ = some (.slice none 0 0) := KR6.out.there rfl
              have e2 := KR6.out.frozen 2
              have v3 : W6.cell? ⟨w.heap.size + 1, 3, none⟩ = some (.slice none 0 0) := KR6.out.there rfl
              have e3 := KR6.out.frozen 3
              refine wpAnyH_ready (rs := [15]) (by kernel_rfl) (by simp) ?_
              refine AllReadyH.cons rfl (fun K hK => ?_) AllReadyH.nil
              go_simp
              refine hK.out _ _ ?_ (fun hS2 => ?_)
              · exact own_S KA6.out
              clear hK K
              refine wpAnyH_done (by kernel_rfl) ?_ _
              go_wp2
              exact own_shut KR6.out ⟨R1_6.out, R2_6.out, R3_6.out, by have := D6.out; omega⟩ (by have := D6.out; omega) BW6.out (by simp [results, Tryd.results43, go_sem, v0, v1, v2, v3])
    · go_simp
      have hb := below1 W1 (.cells #[] 3)
      have KA2 := Lib.hid (KA1.out.below hb)
      have KR2 := Lib.hid (KR1.out.below hb)
      have BW2 := Lib.hid (Below.tr BW1.out hb)
      have E1_2 := Lib.hid (E1_1.out.below hb)
      have E2_2 : Hid (Blk (W1.alloc (.cells #[] 3)) W1.heap.size 3 []) := Lib.hid (heap_alloc_new W1 _)
      have SZ : Hid ((W1.alloc (.cells #[] 3)).heap.size = W1.heap.size + 1) := Lib.hid (by simp)
      clear hb
      obtain ⟨b2_2, hb2_2⟩ : ∃ q, W1.heap.size = q := ⟨_, rfl⟩
      rw [hb2_2] at E2_2 SZ ⊢
      generalize W1.alloc (.cells #[] 3) = W2 at KA2 KR2 BW2 SZ E1_2 E2_2 ⊢
      have D2 : Hid (w.heap.size + 1 < W2.heap.size ∧ w.heap.size + 1 < b1_1 ∧ b1_1 < W2.heap.size ∧ w.heap.size + 1 < b2_2 ∧ b2_2 < W2.heap.size ∧ b1_1 ≠ b2_2) := Lib.hid (by have := D1.out; have := SZ.out; omega)
      clear SZ hb2_2
      refine hK.out _ _ ?_ (fun hS2 => ?_)
      · exact own_S0 KA2.out
      clear hK K
      try simp only [Act.put, List.setIfInBounds_toArray, List.set_cons_zero, List.set_cons_succ, Nat.zero_add]
      refine wpAnyH_ready (rs := [5, 10]) (by kernel_rfl) (by simp) ?_
      refine AllReadyH.cons rfl (fun K hK => ?_) (AllReadyH.cons rfl (fun K hK => ?_) AllReadyH.nil)
      · refine step_append_lies W2 rfl (.tmp 5) (.tmp 7) 24 rfl w.heap.size 3 i0 (.int .i64 0) 1 8 Tryd.underlying24 hi0 hz0 hz1 hz2 rfl (by omega) (.slice (some ⟨b1_1, 0, none⟩) 0 0) 0 [] rfl (own_empty E1_2.out (by have := D2.out; omega)) ⟨p1, q1, none⟩ 6 c1 (m.r.map (Value.int .i64)) rfl (by simpa using HX.out.1) (src_at (src_i (hl.out.below BW2.out).1)) (one_i _) (by omega) (by unfold maxLen; omega) (by omega) (by have := BW2.out.size; omega) _ rfl ?_
        intro g1_3 k1_3 W3 hown hgr hat hlt
        have kp := Kept.of_grown (S := fun i => i = b1_1) hgr (fun x h => by simpa [Value.ownBlock] using h.symm)
        have KA3 := Lib.hid (kp.blk KA2.out (by have := D2.out; omega))
        have KR3 := Lib.hid (kp.blk KR2.out (by have := D2.out; omega))
        have BW3 := Lib.hid (kp.below BW2.out BW2.out.size (fun x hx => by have := D2.out; have hx' : x = b1_1 := hx; omega))
        have E2_3 := Lib.hid (kp.blk E2_2.out (by have := D2.out; omega))
        have R1_3 : Hid (W3.ownsRow w.heap.size 3 1 (.slice (some ⟨g1_3, 0, none⟩) 6 k1_3) 6 (m.r.map (Value.int .i64))) := Lib.hid (by simpa using hown)
        have D3 : Hid (w.heap.size + 1 < W3.heap.size ∧ w.heap.size + 1 < b2_2 ∧ b2_2 < W3.heap.size ∧ w.heap.size + 1 < g1_3 ∧ g1_3 < W3.heap.size ∧ b2_2 ≠ g1_3) := by
          have h0 := D2.out
          have hs := hgr.size
          show w.heap.size + 1 < W3.heap.size ∧ w.heap.size + 1 < b2_2 ∧ b2_2 < W3.heap.size ∧ w.heap.size + 1 < g1_3 ∧ g1_3 < W3.heap.size ∧ b2_2 ≠ g1_3
          rcases hat with h | h
          · have h' : b1_1 = g1_3 := by simpa [Value.ownBlock] using h
            omega
          · omega
        clear hown hgr hat hlt kp
        refine hK.out _ _ ?_ (fun hS3 => ?_)
        · exact own_S0 KA3.out
        clear hK K
        try simp only [Act.put, List.setIfInBounds_toArray, Nat.zero_add]
        refine wpAnyH_ready (rs := [9, 10]) (by kernel_rfl) (by simp) ?_
        refine AllReadyH.cons rfl (fun K hK => ?_) (AllReadyH.cons rfl (fun K hK => ?_) AllReadyH.nil)
        · refine step_append_lies W3 rfl (.tmp 9) (.tmp 11) 24 rfl w.heap.size 3 i0 (.int .i64 0) 1 8 Tryd.underlying24 hi0 hz0 hz1 hz2 rfl (by omega) (.slice (some ⟨b2_2, 0, none⟩) 0 0) 0 [] rfl (own_empty E2_3.out (by have := D3.out; omega)) ⟨p2, q2, none⟩ 16 c2 (m.c.map (Value.int .i64)) rfl (by simpa using HX.out.2.1) (src_at (src_i (hl.out.below BW3.out).2.1)) (one_i _) (by omega) (by unfold maxLen; omega) (by omega) (by have := BW3.out.size; omega) _ rfl ?_
          intro g2_4 k2_4 W4 hown hgr hat hlt
          have kp := Kept.of_grown (S := fun i => i = b2_2) hgr (fun x h => by simpa [Value.ownBlock] using h.symm)
          have KA4 := Lib.hid (kp.blk KA3.out (by have := D3.out; omega))
          have KR4 := Lib.hid (kp.blk KR3.out (by have := D3.out; omega))
          have BW4 := Lib.hid (kp.below BW3.out BW3.out.size (fun x hx => by have := D3.out; have hx' : x = b2_2 := hx; omega))
          have R1_4 := Lib.hid (own_kept3 R1_3.out kp (by have := D3.out; omega))
          have R2_4 : Hid (W4.ownsRow w.heap.size 3 1 (.slice (some ⟨g2_4, 0, none⟩) 16 k2_4) 16 (m.c.map (Value.int .i64))) := Lib.hid (by simpa using hown)
          have D4 : Hid (w.heap.size + 1 < W4.heap.size ∧ w.heap.size + 1 < g1_3 ∧ g1_3 < W4.heap.size ∧ w.heap.size + 1 < g2_4 ∧ g2_4 < W4.heap.size ∧ g1_3 ≠ g2_4) := by
            have h0 := D3.out
            have hs := hgr.size
            show w.heap.size + 1 < W4.heap.size ∧ w.heap.size + 1 < g1_3 ∧ g1_3 < W4.heap.size ∧ w.heap.size + 1 < g2_4 ∧ g2_4 < W4.heap.size ∧ g1_3 ≠ g2_4
            rcases hat with h | h
            · have h' : b2_2 = g2_4 := by simpa [Value.ownBlock] using h
              omega
            · omega
          clear hown hgr hat hlt kp
          refine hK.out _ _ ?_ (fun hS4 => ?_)
          · exact own_S0 KA4.out
          clear hK K
          try simp only [Act.put, Nat.zero_add]
          refine wpAnyH_ready (rs := [10]) (by kernel_rfl) (by simp) ?_
          refine AllReadyH.cons rfl (fun K hK => ?_) AllReadyH.nil
          · go_simp
            have hb := below1 W4 (.cells #[] 4)
            have KA5 := Lib.hid (KA4.out.below hb)
            have KR5 := Lib.hid (KR4.out.below hb)
            have BW5 := Lib.hid (Below.tr BW4.out hb)
            have R1_5 := Lib.hid (own_below R1_4.out hb)
            have R2_5 := Lib.hid (own_below R2_4.out hb)
            have E3_5 : Hid (Blk (W4.alloc (.cells #[] 4)) W4.heap.size 4 []) := Lib.hid (heap_alloc_new W4 _)
            have SZ : Hid ((W4.alloc (.cells #[] 4)).heap.size = W4.heap.size + 1) := Lib.hid (by simp)
            clear hb
            obtain ⟨b3_5, hb3_5⟩ : ∃ q, W4.heap.size = q := ⟨_, rfl⟩
            rw [hb3_5] at E3_5 SZ ⊢
            generalize W4.alloc (.cells #[] 4) = W5 at KA5 KR5 BW5 SZ E3_5 R1_5 R2_5 ⊢
            have D5 : Hid (w.heap.size + 1 < W5.heap.size ∧ w.heap.size + 1 < g1_3 ∧ g1_3 < W5.heap.size ∧ w.heap.size + 1 < g2_4 ∧ g2_4 < W5.heap.size ∧ w.heap.size + 1 < b3_5 ∧ b3_5 < W5.heap.size ∧ g1_3 ≠ g2_4 ∧ g1_3 ≠ b3_5 ∧ g2_4 ≠ b3_5) := Lib.hid (by have := D4.out; have := SZ.out; omega)
            clear SZ hb3_5
            refine hK.out _ _ ?_ (fun hS5 => ?_)
            · exact own_S0 KA5.out
            clear hK K
            try simp only [Act.put, List.setIfInBounds_toArray, List.set_cons_zero, List.set_cons_succ, Nat.zero_add]
            refine wpAnyH_ready (rs := [13]) (by kernel_rfl) (by simp) ?_
            refine AllReadyH.cons rfl (fun K hK => ?_) AllReadyH.nil
            · refine step_append_lies W5 rfl (.tmp 13) (.tmp 15) 25 rfl w.heap.size 4 j0 (.bool false) 1 1 Tryd.underlying25 yi0 yz0 yz1 yz2 rfl (by omega) (.slice (some ⟨b3_5, 0, none⟩) 0 0) 0 [] rfl (own_empty E3_5.out (by have := D5.out; omega)) ⟨p3, q3, none⟩ 16 c3 (m.s.map Value.bool) rfl (by simpa using HX.out.2.2) (src_at (src_b (hl.out.below BW5.out).2.2)) (one_b _) (by omega) (by unfold maxLen; omega) (by omega) (by have := BW5.out.size; omega) _ rfl ?_
              intro g3_6 k3_6 W6 hown hgr hat hlt
              have kp := Kept.of_grown (S := fun i => i = b3_5) hgr (fun x h => by simpa [Value.ownBlock] using h.symm)
              have KA6 := Lib.hid (kp.blk KA5.out (by have := D5.out; omega))
              have KR6 := Lib.hid (kp.blk KR5.out (by have := D5.out; omega))
              have BW6 := Lib.hid (kp.below BW5.out BW5.out.size (fun x hx => by have := D5.out; have hx' : x = b3_5 := hx; omega))
              have R1_6 := Lib.hid (own_kept3 R1_5.out kp (by have := D5.out; omega))
              have R2_6 := Lib.hid (own_kept3 R2_5.out kp (by have := D5.out; omega))
              have R3_6 : Hid (W6.ownsRow w.heap.size 4 1 (.slice (some ⟨g3_6, 0, none⟩) 16 k3_6) 16 (m.s.map Value.bool)) := Lib.hid (by simpa using hown)
              have D6 : Hid (w.heap.size + 1 < W6.heap.size ∧ w.heap.size + 1 < g1_3 ∧ g1_3 < W6.heap.size ∧ w.heap.size + 1 < g2_4 ∧ g2_4 < W6.heap.size ∧ w.heap.size + 1 < g3_6 ∧ g3_6 < W6.heap.size ∧ g1_3 ≠ g2_4 ∧ g1_3 ≠ g3_6 ∧ g2_4 ≠ g3_6) := by
                have h0 := D5.out
                have hs := hgr.size
                show w.heap.size + 1 < W6.heap.size ∧ w.heap.size + 1 < g1_3 ∧ g1_3 < W6.heap.size ∧ w.heap.size + 1 < g2_4 ∧ g2_4 < W6.heap.size ∧ w.heap.size + 1 < g3_6 ∧ g3_6 < W6.heap.size ∧ g1_3 ≠ g2_4 ∧ g1_3 ≠ g3_6 ∧ g2_4 ≠ g3_6
                rcases hat with h | h
                · have h' : b3_5 = g3_6 := by simpa [Value.ownBlock] using h
                  omega
                · omega
              clear hown hgr hat hlt kp
              refine hK.out _ _ ?_ (fun hS6 => ?_)
              · exact own_S0 KA6.out
              clear hK K
              try simp only [Act.put, List.setIfInBounds_toArray, Nat.zero_add]
              refine wpAnyH_take (i := 14) (v := ?_) rfl (by kernel_rfl) (by kernel_rfl) (by kernel_rfl) (fun _ _ _ h => h) (Or.inl ⟨by rfl, ?_⟩) (by assumption) ?_
              rotate_left
              · intro W hSw
                try dsimp only at hSw
                go_simp
                try with_reducible rfl
              try simp only [Act.put]
              have v0 : W6.cell? ⟨w.heap.size + 1, 0, none⟩ = some (.int .i64 0) := KR6.out.there rfl
              have e0 := KR6.out.frozen 0
              have v1 : W6.cell? ⟨w.heap.size + 1, 1, none⟩ = some (.slice none 0 0) := KR6.out.there rfl
              have e1 := KR6.out.frozen 1
              have v2 : W6.cell? ⟨w.heap.size + 1, 2, none⟩ = some (.slice none 0 0) := KR6.out.there rfl
              have e2 := KR6.out.frozen 2
              have v3 : W6.cell? ⟨w.heap.size + 1, 3, none⟩ = some (.slice none 0 0) := KR6.out.there rfl
              have e3 := KR6.out.frozen 3
              refine wpAnyH_ready (rs := [15]) (by kernel_rfl) (by simp) ?_
              refine AllReadyH.cons rfl (fun K hK => ?_) AllReadyH.nil
              go_simp
              refine hK.out _ _ ?_ (fun hS2 => ?_)
              · exact own_S KA6.out
              clear hK K
              refine wpAnyH_done (by kernel_rfl) ?_ _
              go_wp2
              exact own_shut KR6.out ⟨R1_6.out, R2_6.out, R3_6.out, by have := D6.out; omega⟩ (by have := D6.out; omega) BW6.out (by simp [results, Tryd.results43, go_sem, v0, v1, v2, v3])
        · go_simp
          have hb := below1 W3 (.cells #[] 4)
          have KA4 := Lib.hid (KA3.out.below hb)
          have KR4 := Lib.hid (KR3.out.below hb)
          have BW4 := Lib.hid (Below.tr BW3.out hb)
          have R1_4 := Lib.hid (own_below R1_3.out hb)
          have E2_4 := Lib.hid (E2_3.out.below hb)
          have E3_4 : Hid (Blk (W3.alloc (.cells #[] 4)) W3.heap.size 4 []) := Lib.hid (heap_alloc_new W3 _)
          have SZ : Hid ((W3.alloc (.cells #[] 4)).heap.size = W3.heap.size + 1) := Lib.hid (by simp)
          clear hb
          obtain ⟨b3_4, hb3_4⟩ : ∃ q, W3.heap.size = q := ⟨_, rfl⟩
          rw [hb3_4] at E3_4 SZ ⊢
          generalize W3.alloc (.cells #[] 4) = W4 at KA4 KR4 BW4 SZ E2_4 E3_4 R1_4 ⊢
          have D4 : Hid (w.heap.size + 1 < W4.heap.size ∧ w.heap.size + 1 < g1_3 ∧ g1_3 < W4.heap.size ∧ w.heap.size + 1 < b2_2 ∧ b2_2 < W4.heap.size ∧ w.heap.size + 1 < b3_4 ∧ b3_4 < W4.heap.size ∧ g1_3 ≠ b2_2 ∧ g1_3 ≠ b3_4 ∧ b2_2 ≠ b3_4) := Lib.hid (by have := D3.out; have := SZ.out; omega)
          clear SZ hb3_4
          refine hK.out _ _ ?_ (fun hS4 => ?_)
          · exact own_S0 KA4.out
          clear hK K
          try simp only [Act.put, List.setIfInBounds_toArray, List.set_cons_zero, List.set_cons_succ, Nat.zero_add]
          refine wpAnyH_ready (rs := [9]) (by kernel_rfl) (by simp) ?_
          refine AllReadyH.cons rfl (fun K hK => ?_) AllReadyH.nil
          · refine step_append_lies W4 rfl (.tmp 9) (.tmp 11) 24 rfl w.heap.size 3 i0 (.int .i64 0) 1 8 Tryd.underlying24 hi0 hz0 hz1 hz2 rfl (by omega) (.slice (some ⟨b2_2, 0, none⟩) 0 0) 0 [] rfl (own_empty E2_4.out (by have := D4.out; omega)) ⟨p2, q2, none⟩ 16 c2 (m.c.map (Value.int .i64)) rfl (by simpa using HX.out.2.1) (src_at (src_i (hl.out.below BW4.out).2.1)) (one_i _) (by omega) (by unfold maxLen; omega) (by omega) (by have := BW4.out.size; omega) _ rfl ?_
            intro g2_5 k2_5 W5 hown hgr hat hlt
            have kp := Kept.of_grown (S := fun i => i = b2_2) hgr (fun x h => by simpa [Value.ownBlock] using h.symm)
            have KA5 := Lib.hid (kp.blk KA4.out (by have := D4.out; omega))
            have KR5 := Lib.hid (kp.blk KR4.out (by have := D4.out; omega))
            have BW5 := Lib.hid (kp.below BW4.out BW4.out.size (fun x hx => by have := D4.out; have hx' : x = b2_2 := hx; omega))
            have R1_5 := Lib.hid (own_kept3 R1_4.out kp (by have := D4.out; omega))
            have E3_5 := Lib.hid (kp.blk E3_4.out (by have := D4.out; omega))
            have R2_5 : Hid (W5.ownsRow w.heap.size 3 1 (.slice (some ⟨g2_5, 0, none⟩) 16 k2_5) 16 (m.c.map (Value.int .i64))) := Lib.hid (by simpa using hown)
            have D5 : Hid (w.heap.size + 1 < W5.heap.size ∧ w.heap.size + 1 < g1_3 ∧ g1_3 < W5.heap.size ∧ w.heap.size + 1 < b3_4 ∧ b3_4 < W5.heap.size ∧ w.heap.size + 1 < g2_5 ∧ g2_5 < W5.heap.size ∧ g1_3 ≠ b3_4 ∧ g1_3 ≠ g2_5 ∧ b3_4 ≠ g2_5) := by
              have h0 := D4.out
              have hs := hgr.size
              show w.heap.size + 1 < W5.heap.size ∧ w.heap.size + 1 < g1_3 ∧ g1_3 < W5.heap.size ∧ w.heap.size + 1 < b3_4 ∧ b3_4 < W5.heap.size ∧ w.heap.size + 1 < g2_5 ∧ g2_5 < W5.heap.size ∧ g1_3 ≠ b3_4 ∧ g1_3 ≠ g2_5 ∧ b3_4 ≠ g2_5
              rcases hat with h | h
              · have h' : b2_2 = g2_5 := by simpa [Value.ownBlock] using h
                omega
              · omega
            clear hown hgr hat hlt kp
            refine hK.out _ _ ?_ (fun hS5 => ?_)
            · exact own_S0 KA5.out
            clear hK K
            try simp only [Act.put, List.setIfInBounds_toArray, Nat.zero_add]
            refine wpAnyH_ready (rs := [13]) (by kernel_rfl) (by simp) ?_
            refine AllReadyH.cons rfl (fun K hK => ?_) AllReadyH.nil
            · refine step_append_lies W5 rfl (.tmp 13) (.tmp 15) 25 rfl w.heap.size 4 j0 (.bool false) 1 1 Tryd.underlying25 yi0 yz0 yz1 yz2 rfl (by omega) (.slice (some ⟨b3_4, 0, none⟩) 0 0) 0 [] rfl (own_empty E3_5.out (by have := D5.out; omega)) ⟨p3, q3, none⟩ 16 c3 (m.s.map Value.bool) rfl (by simpa using HX.out.2.2) (src_at (src_b (hl.out.below BW5.out).2.2)) (one_b _) (by omega) (by unfold maxLen; omega) (by omega) (by have := BW5.out.size; omega) _ rfl ?_
              intro g3_6 k3_6 W6 hown hgr hat hlt
              have kp := Kept.of_grown (S := fun i => i = b3_4) hgr (fun x h => by simpa [Value.ownBlock] using h.symm)
              have KA6 := Lib.hid (kp.blk KA5.out (by have := D5.out; omega))
              have KR6 := Lib.hid (kp.blk KR5.out (by have := D5.out; omega))
              have BW6 := Lib.hid (kp.below BW5.out BW5.out.size (fun x hx => by have := D5.out; have hx' : x = b3_4 := hx; omega))
              have R1_6 := Lib.hid (own_kept3 R1_5.out kp (by have := D5.out; omega))
              have R2_6 := Lib.hid (own_kept3 R2_5.out kp (by have := D5.out; omega))
              have R3_6 : Hid (W6.ownsRow w.heap.size 4 1 (.slice (some ⟨g3_6, 0, none⟩) 16 k3_6) 16 (m.s.map Value.bool)) := Lib.hid (by simpa using hown)
              have D6 : Hid (w.heap.size + 1 < W6.heap.size ∧ w.heap.size + 1 < g1_3 ∧ g1_3 < W6.heap.size ∧ w.heap.size + 1 < g2_5 ∧ g2_5 < W6.heap.size ∧ w.heap.size + 1 < g3_6 ∧ g3_6 < W6.heap.size ∧ g1_3 ≠ g2_5 ∧ g1_3 ≠ g3_6 ∧ g2_5 ≠ g3_6) := by
                have h0 := D5.out
                have hs := hgr.size
                show w.heap.size + 1 < W6.heap.size ∧ w.heap.size + 1 < g1_3 ∧ g1_3 < W6.heap.size ∧ w.heap.size + 1 < g2_5 ∧ g2_5 < W6.heap.size ∧ w.heap.size + 1 < g3_6 ∧ g3_6 < W6.heap.size ∧ g1_3 ≠ g2_5 ∧ g1_3 ≠ g3_6 ∧ g2_5 ≠ g3_6
                rcases hat with h | h
                · have h' : b3_4 = g3_6 := by simpa [Value.ownBlock] using h
                  omega
                · omega
              clear hown hgr hat hlt kp
              refine hK.out _ _ ?_ (fun hS6 => ?_)
              · exact own_S0 KA6.out
              clear hK K
              try simp only [Act.put, Nat.zero_add]
              refine wpAnyH_take (i := 14) (v := ?_) rfl (by kernel_rfl) (by kernel_rfl) (by kernel_rfl) (fun _ _ _ h => h) (Or.inl ⟨by rfl, ?_⟩) (by assumption) ?_
              rotate_left
              · intro W hSw
                try dsimp only at hSw
                go_simp
                try with_reducible rfl
              try simp only [Act.put]
              have v0 : W6.cell? ⟨w.heap.size + 1, 0, none⟩ = some (.int .i64 0) := KR6.out.there rfl
              have e0 := KR6.out.frozen 0
              have v1 : W6.cell? ⟨w.heap.size + 1, 1, none⟩ = some (.slice none 0 0) := KR6.out.there rfl
              have e1 := KR6.out.frozen 1
              have v2 : W6.cell? ⟨w.heap.size + 1, 2, none⟩ = some (.slice none 0 0) := KR6.out.there rfl
              have e2 := KR6.out.frozen 2
              have v3 : W6.cell? ⟨w.heap.size + 1, 3, none⟩ = some (.slice none 0 0) := KR6.out.there rfl
              have e3 := KR6.out.frozen 3
              refine wpAnyH_ready (rs := [15]) (by kernel_rfl) (by simp) ?_
              refine AllReadyH.cons rfl (fun K hK => ?_) AllReadyH.nil
              go_simp
              refine hK.out _ _ ?_ (fun hS2 => ?_)
              · exact own_S KA6.out
              clear hK K
              refine wpAnyH_done (by kernel_rfl) ?_ _
              go_wp2
              exact own_shut KR6.out ⟨R1_6.out, R2_6.out, R3_6.out, by have := D6.out; omega⟩ (by have := D6.out; omega) BW6.out (by simp [results, Tryd.results43, go_sem, v0, v1, v2, v3])
      · go_simp
        have hb := below1 W2 (.cells #[] 4)
        have KA3 := Lib.hid (KA2.out.below hb)
        have KR3 := Lib.hid (KR2.out.below hb)
        have BW3 := Lib.hid (Below.tr BW2.out hb)
        have E1_3 := Lib.hid (E1_2.out.below hb)
        have E2_3 := Lib.hid (E2_2.out.below hb)
        have E3_3 : Hid (Blk (W2.alloc (.cells #[] 4)) W2.heap.size 4 []) := Lib.hid (heap_alloc_new W2 _)
        have SZ : Hid ((W2.alloc (.cells #[] 4)).heap.size = W2.heap.size + 1) := Lib.hid (by simp)
        clear hb
        obtain ⟨b3_3, hb3_3⟩ : ∃ q, W2.heap.size = q := ⟨_, rfl⟩
        rw [hb3_3] at E3_3 SZ ⊢
        generalize W2.alloc (.cells #[] 4) = W3 at KA3 KR3 BW3 SZ E1_3 E2_3 E3_3 ⊢
        have D3 : Hid (w.heap.size + 1 < W3.heap.size ∧ w.heap.size + 1 < b1_1 ∧ b1_1 < W3.heap.size ∧ w.heap.size + 1 < b2_2 ∧ b2_2 < W3.heap.size ∧ w.heap.size + 1 < b3_3 ∧ b3_3 < W3.heap.size ∧ b1_1 ≠ b2_2 ∧ b1_1 ≠ b3_3 ∧ b2_2 ≠ b3_3) := Lib.hid (by have := D2.out; have := SZ.out; omega)
        clear SZ hb3_3
        refine hK.out _ _ ?_ (fun hS3 => ?_)
        · exact own_S0 KA3.out
        clear hK K
        try simp only [Act.put, List.setIfInBounds_toArray, List.set_cons_zero, List.set_cons_succ, Nat.zero_add]
        refine wpAnyH_ready (rs := [5]) (by kernel_rfl) (by simp) ?_
        refine AllReadyH.cons rfl (fun K hK => ?_) AllReadyH.nil
        · refine step_append_lies W3 rfl (.tmp 5) (.tmp 7) 24 rfl w.heap.size 3 i0 (.int .i64 0) 1 8 Tryd.underlying24 hi0 hz0 hz1 hz2 rfl (by omega) (.slice (some ⟨b1_1, 0, none⟩) 0 0) 0 [] rfl (own_empty E1_3.out (by have := D3.out; omega)) ⟨p1, q1, none⟩ 6 c1 (m.r.map (Value.int .i64)) rfl (by simpa using HX.out.1) (src_at (src_i (hl.out.below BW3.out).1)) (one_i _) (by omega) (by unfold maxLen; omega) (by omega) (by have := BW3.out.size; omega) _ rfl ?_
          intro g1_4 k1_4 W4 hown hgr hat hlt
          have kp := Kept.of_grown (S := fun i => i = b1_1) hgr (fun x h => by simpa [Value.ownBlock] using h.symm)
          have KA4 := Lib.hid (kp.blk KA3.out (by have := D3.out; omega))
          have KR4 := Lib.hid (kp.blk KR3.out (by have := D3.out; omega))
          have BW4 := Lib.hid (kp.below BW3.out BW3.out.size (fun x hx => by have := D3.out; have hx' : x = b1_1 := hx; omega))
          have E2_4 := Lib.hid (kp.blk E2_3.out (by have := D3.out; omega))
          have E3_4 := Lib.hid (kp.blk E3_3.out (by have := D3.out; omega))
          have R1_4 : Hid (W4.ownsRow w.heap.size 3 1 (.slice (some ⟨g1_4, 0, none⟩) 6 k1_4) 6 (m.r.map (Value.int .i64))) := Lib.hid (by simpa using hown)
          have D4 : Hid (w.heap.size + 1 < W4.heap.size ∧ w.heap.size + 1 < b2_2 ∧ b2_2 < W4.heap.size ∧ w.heap.size + 1 < b3_3 ∧ b3_3 < W4.heap.size ∧ w.heap.size + 1 < g1_4 ∧ g1_4 < W4.heap.size ∧ b2_2 ≠ b3_3 ∧ b2_2 ≠ g1_4 ∧ b3_3 ≠ g1_4) := by
            have h0 := D3.out
            have hs := hgr.size
            show w.heap.size + 1 < W4.heap.size ∧ w.heap.size + 1 < b2_2 ∧ b2_2 < W4.heap.size ∧ w.heap.size + 1 < b3_3 ∧ b3_3 < W4.heap.size ∧ w.heap.size + 1 < g1_4 ∧ g1_4 < W4.heap.size ∧ b2_2 ≠ b3_3 ∧ b2_2 ≠ g1_4 ∧ b3_3 ≠ g1_4
            rcases hat with h | h
            · have h' : b1_1 = g1_4 := by simpa [Value.ownBlock] using h
              omega
            · omega
          clear hown hgr hat hlt kp
          refine hK.out _ _ ?_ (fun hS4 => ?_)
          · exact own_S0 KA4.out
          clear hK K
          try simp only [Act.put, List.setIfInBounds_toArray, Nat.zero_add]
          refine wpAnyH_ready (rs := [9]) (by kernel_rfl) (by simp) ?_
          refine AllReadyH.cons rfl (fun K hK => ?_) AllReadyH.nil
          · refine step_append_lies W4 rfl (.tmp 9) (.tmp 11) 24 rfl w.heap.size 3 i0 (.int .i64 0) 1 8 Tryd.underlying24 hi0 hz0 hz1 hz2 rfl (by omega) (.slice (some ⟨b2_2, 0, none⟩) 0 0) 0 [] rfl (own_empty E2_4.out (by have := D4.out; omega)) ⟨p2, q2, none⟩ 16 c2 (m.c.map (Value.int .i64)) rfl (by simpa using HX.out.2.1) (src_at (src_i (hl.out.below BW4.out).2.1)) (one_i _) (by omega) (by unfold maxLen; omega) (by omega) (by have := BW4.out.size; omega) _ rfl ?_
            intro g2_5 k2_5 W5 hown hgr hat hlt
            have kp := Kept.of_grown (S := fun i => i = b2_2) hgr (fun x h => by simpa [Value.ownBlock] using h.symm)
            have KA5 := Lib.hid (kp.blk KA4.out (by have := D4.out; omega))
            have KR5 := Lib.hid (kp.blk KR4.out (by have := D4.out; omega))
            have BW5 := Lib.hid (kp.below BW4.out BW4.out.size (fun x hx => by have := D4.out; have hx' : x = b2_2 := hx; omega))
            have R1_5 := Lib.hid (own_kept3 R1_4.out kp (by have := D4.out; omega))
            have E3_5 := Lib.hid (kp.blk E3_4.out (by have := D4.out; omega))
            have R2_5 : Hid (W5.ownsRow w.heap.size 3 1 (.slice (some ⟨g2_5, 0, none⟩) 16 k2_5) 16 (m.c.map (Value.int .i64))) := Lib.hid (by simpa using hown)
            have D5 : Hid (w.heap.size + 1 < W5.heap.size ∧ w.heap.size + 1 < g1_4 ∧ g1_4 < W5.heap.size ∧ w.heap.size + 1 < b3_3 ∧ b3_3 < W5.heap.size ∧ w.heap.size + 1 < g2_5 ∧ g2_5 < W5.heap.size ∧ g1_4 ≠ b3_3 ∧ g1_4 ≠ g2_5 ∧ b3_3 ≠ g2_5) := by
              have h0 := D4.out
              have hs := hgr.size
              show w.heap.size + 1 < W5.heap.size ∧ w.heap.size + 1 < g1_4 ∧ g1_4 < W5.heap.size ∧ w.heap.size + 1 < b3_3 ∧ b3_3 < W5.heap.size ∧ w.heap.size + 1 < g2_5 ∧ g2_5 < W5.heap.size ∧ g1_4 ≠ b3_3 ∧ g1_4 ≠ g2_5 ∧ b3_3 ≠ g2_5
              rcases hat with h | h
              · have h' : b2_2 = g2_5 := by simpa [Value.ownBlock] using h
                omega
              · omega
            clear hown hgr hat hlt kp
            refine hK.out _ _ ?_ (fun hS5 => ?_)
            · exact own_S0 KA5.out
            clear hK K
            try simp only [Act.put, Nat.zero_add]
            refine wpAnyH_ready (rs := [13]) (by kernel_rfl) (by simp) ?_
            refine AllReadyH.cons rfl (fun K hK => ?_) AllReadyH.nil
            · refine step_append_lies W5 rfl (.tmp 13) (.tmp 15) 25 rfl w.heap.size 4 j0 (.bool false) 1 1 Tryd.underlying25 yi0 yz0 yz1 yz2 rfl (by omega) (.slice (some ⟨b3_3, 0, none⟩) 0 0) 0 [] rfl (own_empty E3_5.out (by have := D5.out; omega)) ⟨p3, q3, none⟩ 16 c3 (m.s.map Value.bool) rfl (by simpa using HX.out.2.2) (src_at (src_b (hl.out.below BW5.out).2.2)) (one_b _) (by omega) (by unfold maxLen; omega) (by omega) (by have := BW5.out.size; omega) _ rfl ?_
              intro g3_6 k3_6 W6 hown hgr hat hlt
              have kp := Kept.of_grown (S := fun i => i = b3_3) hgr (fun x h => by simpa [Value.ownBlock] using h.symm)
              have KA6 := Lib.hid (kp.blk KA5.out (by have := D5.out; omega))
              have KR6 := Lib.hid (kp.blk KR5.out (by have := D5.out; omega))
              have BW6 := Lib.hid (kp.below BW5.out BW5.out.size (fun x hx => by have := D5.out; have hx' : x = b3_3 := hx; omega))
              have R1_6 := Lib.hid (own_kept3 R1_5.out kp (by have := D5.out; omega))
              have R2_6 := Lib.hid (own_kept3 R2_5.out kp (by have := D5.out; omega))
              have R3_6 : Hid (W6.ownsRow w.heap.size 4 1 (.slice (some ⟨g3_6, 0, none⟩) 16 k3_6) 16 (m.s.map Value.bool)) := Lib.hid (by simpa using hown)
              have D6 : Hid (w.heap.size + 1 < W6.heap.size ∧ w.heap.size + 1 < g1_4 ∧ g1_4 < W6.heap.size ∧ w.heap.size + 1 < g2_5 ∧ g2_5 < W6.heap.size ∧ w.heap.size + 1 < g3_6 ∧ g3_6 < W6.heap.size ∧ g1_4 ≠ g2_5 ∧ g1_4 ≠ g3_6 ∧ g2_5 ≠ g3_6) := by
                have h0 := D5.out
                have hs := hgr.size
                show w.heap.size + 1 < W6.heap.size ∧ w.heap.size + 1 < g1_4 ∧ g1_4 < W6.heap.size ∧ w.heap.size + 1 < g2_5 ∧ g2_5 < W6.heap.size ∧ w.heap.size + 1 < g3_6 ∧ g3_6 < W6.heap.size ∧ g1_4 ≠ g2_5 ∧ g1_4 ≠ g3_6 ∧ g2_5 ≠ g3_6
                rcases hat with h | h
                · have h' : b3_3 = g3_6 := by simpa [Value.ownBlock] using h
                  omega
                · omega
              clear hown hgr hat hlt kp
              refine hK.out _ _ ?_ (fun hS6 => ?_)
              · exact own_S0 KA6.out
              clear hK K
              try simp only [Act.put, Nat.zero_add]
              refine wpAnyH_take (i := 14) (v := ?_) rfl (by kernel_rfl) (by kernel_rfl) (by kernel_rfl) (fun _ _ _ h => h) (Or.inl ⟨by rfl, ?_⟩) (by assumption) ?_
              rotate_left
              · intro W hSw
                try dsimp only at hSw
                go_simp
                try with_reducible rfl
              try simp only [Act.put]
              have v0 : W6.cell? ⟨w.heap.size + 1, 0, none⟩ = some (.int .i64 0) := KR6.out.there rfl
              have e0 := KR6.out.frozen 0
              have v1 : W6.cell? ⟨w.heap.size + 1, 1, none⟩ = some (.slice none 0 0) := KR6.out.there rfl
              have e1 := KR6.out.frozen 1
              have v2 : W6.cell? ⟨w.heap.size + 1, 2, none⟩ = some (.slice none 0 0) := KR6.out.there rfl
              have e2 := KR6.out.frozen 2
              have v3 : W6.cell? ⟨w.heap.size + 1, 3, none⟩ = some (.slice none 0 0) := KR6.out.there rfl
              have e3 := KR6.out.frozen 3
              refine wpAnyH_ready (rs := [15]) (by kernel_rfl) (by simp) ?_
              refine AllReadyH.cons rfl (fun K hK => ?_) AllReadyH.nil
              go_simp
              refine hK.out _ _ ?_ (fun hS2 => ?_)
              · exact own_S KA6.out
              clear hK K
              refine wpAnyH_done (by kernel_rfl) ?_ _
              go_wp2
              exact own_shut KR6.out ⟨R1_6.out, R2_6.out, R3_6.out, by have := D6.out; omega⟩ (by have := D6.out; omega) BW6.out (by simp [results, Tryd.results43, go_sem, v0, v1, v2, v3])
    · go_simp
      have hb := below1 W1 (.cells #[] 4)
      have KA2 := Lib.hid (KA1.out.below hb)
      have KR2 := Lib.hid (KR1.out.below hb)
      have BW2 := Lib.hid (Below.tr BW1.out hb)
      have E1_2 := Lib.hid (E1_1.out.below hb)
      have E3_2 : Hid (Blk (W1.alloc (.cells #[] 4)) W1.heap.size 4 []) := Lib.hid (heap_alloc_new W1 _)
      have SZ : Hid ((W1.alloc (.cells #[] 4)).heap.size = W1.heap.size + 1) := Lib.hid (by simp)
      clear hb
      obtain ⟨b3_2, hb3_2⟩ : ∃ q, W1.heap.size = q := ⟨_, rfl⟩
      rw [hb3_2] at E3_2 SZ ⊢
      generalize W1.alloc (.cells #[] 4) = W2 at KA2 KR2 BW2 SZ E1_2 E3_2 ⊢
      have D2 : Hid (w.heap.size + 1 < W2.heap.size ∧ w.heap.size + 1 < b1_1 ∧ b1_1 < W2.heap.size ∧ w.heap.size + 1 < b3_2 ∧ b3_2 < W2.heap.size ∧ b1_1 ≠ b3_2) := Lib.hid (by have := D1.out; have := SZ.out; omega)
      clear SZ hb3_2
      refine hK.out _ _ ?_ (fun hS2 => ?_)
      · exact own_S0 KA2.out
      clear hK K
      try simp only [Act.put, List.setIfInBounds_toArray, List.set_cons_zero, List.set_cons_succ, Nat.zero_add]
      refine wpAnyH_ready (rs := [5, 6]) (by kernel_rfl) (by simp) ?_
      refine AllReadyH.cons rfl (fun K hK => ?_) (AllReadyH.cons rfl (fun K hK => ?_) AllReadyH.nil)
      · refine step_append_lies W2 rfl (.tmp 5) (.tmp 7) 24 rfl w.heap.size 3 i0 (.int .i64 0) 1 8 Tryd.underlying24 hi0 hz0 hz1 hz2 rfl (by omega) (.slice (some ⟨b1_1, 0, none⟩) 0 0) 0 [] rfl (own_empty E1_2.out (by have := D2.out; omega)) ⟨p1, q1, none⟩ 6 c1 (m.r.map (Value.int .i64)) rfl (by simpa using HX.out.1) (src_at (src_i (hl.out.below BW2.out).1)) (one_i _) (by omega) (by unfold maxLen; omega) (by omega) (by have := BW2.out.size; omega) _ rfl ?_
        intro g1_3 k1_3 W3 hown hgr hat hlt
        have kp := Kept.of_grown (S := fun i => i = b1_1) hgr (fun x h => by simpa [Value.ownBlock] using h.symm)
        have KA3 := Lib.hid (kp.blk KA2.out (by have := D2.out; omega))
        have KR3 := Lib.hid (kp.blk KR2.out (by have := D2.out; omega))
        have BW3 := Lib.hid (kp.below BW2.out BW2.out.size (fun x hx => by have := D2.out; have hx' : x = b1_1 := hx; omega))
        have E3_3 := Lib.hid (kp.blk E3_2.out (by have := D2.out; omega))
        have R1_3 : Hid (W3.ownsRow w.heap.size 3 1 (.slice (some ⟨g1_3, 0, none⟩) 6 k1_3) 6 (m.r.map (Value.int .i64))) := Lib.hid (by simpa using hown)
        have D3 : Hid (w.heap.size + 1 < W3.heap.size ∧ w.heap.size + 1 < b3_2 ∧ b3_2 < W3.heap.size ∧ w.heap.size + 1 < g1_3 ∧ g1_3 < W3.heap.size ∧ b3_2 ≠ g1_3) := by
          have h0 := D2.out
          have hs := hgr.size
          show w.heap.size + 1 < W3.heap.size ∧ w.heap.size + 1 < b3_2 ∧ b3_2 < W3.heap.size ∧ w.heap.size + 1 < g1_3 ∧ g1_3 < W3.heap.size ∧ b3_2 ≠ g1_3
          rcases hat with h | h
          · have h' : b1_1 = g1_3 := by simpa [Value.ownBlock] using h
            omega
          · omega
        clear hown hgr hat hlt kp
        refine hK.out _ _ ?_ (fun hS3 => ?_)
        · exact own_S0 KA3.out
        clear hK K
        try simp only [Act.put, List.setIfInBounds_toArray, Nat.zero_add]
        refine wpAnyH_ready (rs := [6]) (by kernel_rfl) (by simp) ?_
        refine AllReadyH.cons rfl (fun K hK => ?_) AllReadyH.nil
        · go_simp
          have hb := below1 W3 (.cells #[] 3)
          have KA4 := Lib.hid (KA3.out.below hb)
          have KR4 := Lib.hid (KR3.out.below hb)
          have BW4 := Lib.hid (Below.tr BW3.out hb)
          have R1_4 := Lib.hid (own_below R1_3.out hb)
          have E3_4 := Lib.hid (E3_3.out.below hb)
          have E2_4 : Hid (Blk (W3.alloc (.cells #[] 3)) W3.heap.size 3 []) := Lib.hid (heap_alloc_new W3 _)
          have SZ : Hid ((W3.alloc (.cells #[] 3)).heap.size = W3.heap.size + 1) := Lib.hid (by simp)
          clear hb
          obtain ⟨b2_4, hb2_4⟩ : ∃ q, W3.heap.size = q := ⟨_, rfl⟩
          rw [hb2_4] at E2_4 SZ ⊢
          generalize W3.alloc (.cells #[] 3) = W4 at KA4 KR4 BW4 SZ E2_4 E3_4 R1_4 ⊢
          have D4 : Hid (w.heap.size + 1 < W4.heap.size ∧ w.heap.size + 1 < g1_3 ∧ g1_3 < W4.heap.size ∧ w.heap.size + 1 < b3_2 ∧ b3_2 < W4.heap.size ∧ w.heap.size + 1 < b2_4 ∧ b2_4 < W4.heap.size ∧ g1_3 ≠ b3_2 ∧ g1_3 ≠ b2_4 ∧ b3_2 ≠ b2_4) := Lib.hid (by have := D3.out; have := SZ.out; omega)
          clear SZ hb2_4
          refine hK.out _ _ ?_ (fun hS4 => ?_)
          · exact own_S0 KA4.out
          clear hK K
          try simp only [Act.put, List.setIfInBounds_toArray, List.set_cons_zero, List.set_cons_succ, Nat.zero_add]
          refine wpAnyH_ready (rs := [9]) (by kernel_rfl) (by simp) ?_
          refine AllReadyH.cons rfl (fun K hK => ?_) AllReadyH.nil
          · refine step_append_lies W4 rfl (.tmp 9) (.tmp 11) 24 rfl w.heap.size 3 i0 (.int .i64 0) 1 8 Tryd.underlying24 hi0 hz0 hz1 hz2 rfl (by omega) (.slice (some ⟨b2_4, 0, none⟩) 0 0) 0 [] rfl (own_empty E2_4.out (by have := D4.out; omega)) ⟨p2, q2, none⟩ 16 c2 (m.c.map (Value.int .i64)) rfl (by simpa using HX.out.2.1) (src_at (src_i (hl.out.below BW4.out).2.1)) (one_i _) (by omega) (by unfold maxLen; omega) (by omega) (by have := BW4.out.size; omega) _ rfl ?_
            intro g2_5 k2_5 W5 hown hgr hat hlt
            have kp := Kept.of_grown (S := fun i => i = b2_4) hgr (fun x h => by simpa [Value.ownBlock] using h.symm)
            have KA5 := Lib.hid (kp.blk KA4.out (by have := D4.out; omega))
            have KR5 := Lib.hid (kp.blk KR4.out (by have := D4.out; omega))
            have BW5 := Lib.hid (kp.below BW4.out BW4.out.size (fun x hx => by have := D4.out; have hx' : x = b2_4 := hx; omega))
            have R1_5 := Lib.hid (own_kept3 R1_4.out kp (by have := D4.out; omega))
            have E3_5 := Lib.hid (kp.blk E3_4.out (by have := D4.out; omega))
            have R2_5 : Hid (W5.ownsRow w.heap.size 3 1 (.slice (some ⟨g2_5, 0, none⟩) 16 k2_5) 16 (m.c.map (Value.int .i64))) := Lib.hid (by simpa using hown)
            have D5 : Hid (w.heap.size + 1 < W5.heap.size ∧ w.heap.size + 1 < g1_3 ∧ g1_3 < W5.heap.size ∧ w.heap.size + 1 < b3_2 ∧ b3_2 < W5.heap.size ∧ w.heap.size + 1 < g2_5 ∧ g2_5 < W5.heap.size ∧ g1_3 ≠ b3_2 ∧ g1_3 ≠ g2_5 ∧ b3_2 ≠ g2_5) := by
              have h0 := D4.out
              have hs := hgr.size
              show w.heap.size + 1 < W5.heap.size ∧ w.heap.size + 1 < g1_3 ∧ g1_3 < W5.heap.size ∧ w.heap.size + 1 < b3_2 ∧ b3_2 < W5.heap.size ∧ w.heap.size + 1 < g2_5 ∧ g2_5 < W5.heap.size ∧ g1_3 ≠ b3_2 ∧ g1_3 ≠ g2_5 ∧ b3_2 ≠ g2_5
              rcases hat with h | h
              · have h' : b2_4 = g2_5 := by simpa [Value.ownBlock] using h
                omega
              · omega
            clear hown hgr hat hlt kp
            refine hK.out _ _ ?_ (fun hS5 => ?_)
            · exact own_S0 KA5.out
            clear hK K
            try simp only [Act.put, List.setIfInBounds_toArray, Nat.zero_add]
            refine wpAnyH_ready (rs := [13]) (by kernel_rfl) (by simp) ?_
            refine AllReadyH.cons rfl (fun K hK => ?_) AllReadyH.nil
            · refine step_append_lies W5 rfl (.tmp 13) (.tmp 15) 25 rfl w.heap.size 4 j0 (.bool false) 1 1 Tryd.underlying25 yi0 yz0 yz1 yz2 rfl (by omega) (.slice (some ⟨b3_2, 0, none⟩) 0 0) 0 [] rfl (own_empty E3_5.out (by have := D5.out; omega)) ⟨p3, q3, none⟩ 16 c3 (m.s.map Value.bool) rfl (by simpa using HX.out.2.2) (src_at (src_b (hl.out.below BW5.out).2.2)) (one_b _) (by omega) (by unfold maxLen; omega) (by omega) (by have := BW5.out.size; omega) _ rfl ?_
              intro g3_6 k3_6 W6 hown hgr hat hlt
              have kp := Kept.of_grown (S := fun i => i = b3_2) hgr (fun x h => by simpa [Value.ownBlock] using h.symm)
              have KA6 := Lib.hid (kp.blk KA5.out (by have := D5.out; omega))
              have KR6 := Lib.hid (kp.blk KR5.out (by have := D5.out; omega))
              have BW6 := Lib.hid (kp.below BW5.out BW5.out.size (fun x hx => by have := D5.out; have hx' : x = b3_2 := hx; omega))
              have R1_6 := Lib.hid (own_kept3 R1_5.out kp (by have := D5.out; omega))
              have R2_6 := Lib.hid (own_kept3 R2_5.out kp (by have := D5.out; omega))
              have R3_6 : Hid (W6.ownsRow w.heap.size 4 1 (.slice (some ⟨g3_6, 0, none⟩) 16 k3_6) 16 (m.s.map Value.bool)) := Lib.hid (by simpa using hown)
              have D6 : Hid (w.heap.size + 1 < W6.heap.size ∧ w.heap.size + 1 < g1_3 ∧ g1_3 < W6.heap.size ∧ w.heap.size + 1 < g2_5 ∧ g2_5 < W6.heap.size ∧ w.heap.size + 1 < g3_6 ∧ g3_6 < W6.heap.size ∧ g1_3 ≠ g2_5 ∧ g1_3 ≠ g3_6 ∧ g2_5 ≠ g3_6) := by
                have h0 := D5.out
                have hs := hgr.size
                show w.heap.size + 1 < W6.heap.size ∧ w.heap.size + 1 < g1_3 ∧ g1_3 < W6.heap.size ∧ w.heap.size + 1 < g2_5 ∧ g2_5 < W6.heap.size ∧ w.heap.size + 1 < g3_6 ∧ g3_6 < W6.heap.size ∧ g1_3 ≠ g2_5 ∧ g1_3 ≠ g3_6 ∧ g2_5 ≠ g3_6
                rcases hat with h | h
                · have h' : b3_2 = g3_6 := by simpa [Value.ownBlock] using h
                  omega
                · omega
              clear hown hgr hat hlt kp
              refine hK.out _ _ ?_ (fun hS6 => ?_)
              · exact own_S0 KA6.out
              clear hK K
              try simp only [Act.put, Nat.zero_add]
              refine wpAnyH_take (i := 14) (v := ?_) rfl (by kernel_rfl) (by kernel_rfl) (by kernel_rfl) (fun _ _ _ h => h) (Or.inl ⟨by rfl, ?_⟩) (by assumption) ?_
              rotate_left
              · intro W hSw
                try dsimp only at hSw
                go_simp
                try with_reducible rfl
              try simp only [Act.put]
              have v0 : W6.cell? ⟨w.heap.size + 1, 0, none⟩ = some (.int .i64 0) := KR6.out.there rfl
              have e0 := KR6.out.frozen 0
              have v1 : W6.cell? ⟨w.heap.size + 1, 1, none⟩ = some (.slice none 0 0) := KR6.out.there rfl
              have e1 := KR6.out.frozen 1
              have v2 : W6.cell? ⟨w.heap.size + 1, 2, none⟩ = some (.slice none 0 0) := KR6.out.there rfl
              have e2 := KR6.out.frozen 2
              have v3 : W6.cell? ⟨w.heap.size + 1, 3, none⟩ = some (.slice none 0 0) := KR6.out.there rfl
              have e3 := KR6.out.frozen 3
              refine wpAnyH_ready (rs := [15]) (by kernel_rfl) (by simp) ?_
              refine AllReadyH.cons rfl (fun K hK => ?_) AllReadyH.nil
              go_simp
              refine hK.out _ _ ?_ (fun hS2 => ?_)
              · exact own_S KA6.out
              clear hK K
              refine wpAnyH_done (by kernel_rfl) ?_ _
              go_wp2
              exact own_shut KR6.out ⟨R1_6.out, R2_6.out, R3_6.out, by have := D6.out; omega⟩ (by have := D6.out; omega) BW6.out (by simp [results, Tryd.results43, go_sem, v0, v1, v2, v3])
      · go_simp
        have hb := below1 W2 (.cells #[] 3)
        have KA3 := Lib.hid (KA2.out.below hb)
        have KR3 := Lib.hid (KR2.out.below hb)
        have BW3 := Lib.hid (Below.tr BW2.out hb)
        have E1_3 := Lib.hid (E1_2.out.below hb)
        have E3_3 := Lib.hid (E3_2.out.below hb)
        have E2_3 : Hid (Blk (W2.alloc (.cells #[] 3)) W2.heap.size 3 []) := Lib.hid (heap_alloc_new W2 _)
        have SZ : Hid ((W2.alloc (.cells #[] 3)).heap.size = W2.heap.size + 1) := Lib.hid (by simp)
        clear hb
        obtain ⟨b2_3, hb2_3⟩ : ∃ q, W2.heap.size = q := ⟨_, rfl⟩
        rw [hb2_3] at E2_3 SZ ⊢
        generalize W2.alloc (.cells #[] 3) = W3 at KA3 KR3 BW3 SZ E1_3 E2_3 E3_3 ⊢
        have D3 : Hid (w.heap.size + 1 < W3.heap.size ∧ w.heap.size + 1 < b1_1 ∧ b1_1 < W3.heap.size ∧ w.heap.size + 1 < b3_2 ∧ b3_2 < W3.heap.size ∧ w.heap.size + 1 < b2_3 ∧ b2_3 < W3.heap.size ∧ b1_1 ≠ b3_2 ∧ b1_1 ≠ b2_3 ∧ b3_2 ≠ b2_3) := Lib.hid (by have := D2.out; have := SZ.out; omega)
        clear SZ hb2_3
        refine hK.out _ _ ?_ (fun hS3 => ?_)
        · exact own_S0 KA3.out
        clear hK K
        try simp only [Act.put, List.setIfInBounds_toArray, List.set_cons_zero, List.set_cons_succ, Nat.zero_add]
        refine wpAnyH_ready (rs := [5]) (by kernel_rfl) (by simp) ?_
        refine AllReadyH.cons rfl (fun K hK => ?_) AllReadyH.nil
        · refine step_append_lies W3 rfl (.tmp 5) (.tmp 7) 24 rfl w.heap.size 3 i0 (.int .i64 0) 1 8 Tryd.underlying24 hi0 hz0 hz1 hz2 rfl (by omega) (.slice (some ⟨b1_1, 0, none⟩) 0 0) 0 [] rfl (own_empty E1_3.out (by have := D3.out; omega)) ⟨p1, q1, none⟩ 6 c1 (m.r.map (Value.int .i64)) rfl (by simpa using HX.out.1) (src_at (src_i (hl.out.below BW3.out).1)) (one_i _) (by omega) (by unfold maxLen; omega) (by omega) (by have := BW3.out.size; omega) _ rfl ?_
          intro g1_4 k1_4 W4 hown hgr hat hlt
          have kp := Kept.of_grown (S := fun i => i = b1_1) hgr (fun x h => by simpa [Value.ownBlock] using h.symm)
          have KA4 := Lib.hid (kp.blk KA3.out (by have := D3.out; omega))
          have KR4 := Lib.hid (kp.blk KR3.out (by have := D3.out; omega))
          have BW4 := Lib.hid (kp.below BW3.out BW3.out.size (fun x hx => by have := D3.out; have hx' : x = b1_1 := hx; omega))
          have E2_4 := Lib.hid (kp.blk E2_3.out (by have := D3.out; omega))
          have E3_4 := Lib.hid (kp.blk E3_3.out (by have := D3.out; omega))
          have R1_4 : Hid (W4.ownsRow w.heap.size 3 1 (.slice (some ⟨g1_4, 0, none⟩) 6 k1_4) 6 (m.r.map (Value.int .i64))) := Lib.hid (by simpa using hown)
          have D4 : Hid (w.heap.size + 1 < W4.heap.size ∧ w.heap.size + 1 < b2_3 ∧ b2_3 < W4.heap.size ∧ w.heap.size + 1 < b3_2 ∧ b3_2 < W4.heap.size ∧ w.heap.size + 1 < g1_4 ∧ g1_4 < W4.heap.size ∧ b2_3 ≠ b3_2 ∧ b2_3 ≠ g1_4 ∧ b3_2 ≠ g1_4) := by
            have h0 := D3.out
            have hs := hgr.size
            show w.heap.size + 1 < W4.heap.size ∧ w.heap.size + 1 < b2_3 ∧ b2_3 < W4.heap.size ∧ w.heap.size + 1 < b3_2 ∧ b3_2 < W4.heap.size ∧ w.heap.size + 1 < g1_4 ∧ g1_4 < W4.heap.size ∧ b2_3 ≠ b3_2 ∧ b2_3 ≠ g1_4 ∧ b3_2 ≠ g1_4
            rcases hat with h | h
            · have h' : b1_1 = g1_4 := by simpa [Value.ownBlock] using h
              omega
            · omega
          clear hown hgr hat hlt kp
          refine hK.out _ _ ?_ (fun hS4 => ?_)
          · exact own_S0 KA4.out
          clear hK K
          try simp only [Act.put, List.setIfInBounds_toArray, Nat.zero_add]
          refine wpAnyH_ready (rs := [9]) (by kernel_rfl) (by simp) ?_
          refine AllReadyH.cons rfl (fun K hK => ?_) AllReadyH.nil
          · refine step_append_lies W4 rfl (.tmp 9) (.tmp 11) 24 rfl w.heap.size 3 i0 (.int .i64 0) 1 8 Tryd.underlying24 hi0 hz0 hz1 hz2 rfl (by omega) (.slice (some ⟨b2_3, 0, none⟩) 0 0) 0 [] rfl (own_empty E2_4.out (by have := D4.out; omega)) ⟨p2, q2, none⟩ 16 c2 (m.c.map (Value.int .i64)) rfl (by simpa using HX.out.2.1) (src_at (src_i (hl.out.below BW4.out).2.1)) (one_i _) (by omega) (by unfold maxLen; omega) (by omega) (by have := BW4.out.size; omega) _ rfl ?_
            intro g2_5 k2_5 W5 hown hgr hat hlt
            have kp := Kept.of_grown (S := fun i => i = b2_3) hgr (fun x h => by simpa [Value.ownBlock] using h.symm)
            have KA5 := Lib.hid (kp.blk KA4.out (by have := D4.out; omega))
            have KR5 := Lib.hid (kp.blk KR4.out (by have := D4.out; omega))
            have BW5 := Lib.hid (kp.below BW4.out BW4.out.size (fun x hx => by have := D4.out; have hx' : x = b2_3 := hx; omega))
            have R1_5 := Lib.hid (own_kept3 R1_4.out kp (by have := D4.out; omega))
            have E3_5 := Lib.hid (kp.blk E3_4.out (by have := D4.out; omega))
            have R2_5 : Hid (W5.ownsRow w.heap.size 3 1 (.slice (some ⟨g2_5, 0, none⟩) 16 k2_5) 16 (m.c.map (Value.int .i64))) := Lib.hid (by simpa using hown)
            have D5 : Hid (w.heap.size + 1 < W5.heap.size ∧ w.heap.size + 1 < g1_4 ∧ g1_4 < W5.heap.size ∧ w.heap.size + 1 < b3_2 ∧ b3_2 < W5.heap.size ∧ w.heap.size + 1 < g2_5 ∧ g2_5 < W5.heap.size ∧ g1_4 ≠ b3_2 ∧ g1_4 ≠ g2_5 ∧ b3_2 ≠ g2_5) := by
              have h0 := D4.out
              have hs := hgr.size
              show w.heap.size + 1 < W5.heap.size ∧ w.heap.size + 1 < g1_4 ∧ g1_4 < W5.heap.size ∧ w.heap.size + 1 < b3_2 ∧ b3_2 < W5.heap.size ∧ w.heap.size + 1 < g2_5 ∧ g2_5 < W5.heap.size ∧ g1_4 ≠ b3_2 ∧ g1_4 ≠ g2_5 ∧ b3_2 ≠ g2_5
              rcases hat with h | h
              · have h' : b2_3 = g2_5 := by simpa [Value.ownBlock] using h
                omega
              · omega
            clear hown hgr hat hlt kp
            refine hK.out _ _ ?_ (fun hS5 => ?_)
            · exact own_S0 KA5.out
            clear hK K
            try simp only [Act.put, Nat.zero_add]
            refine wpAnyH_ready (rs := [13]) (by kernel_rfl) (by simp) ?_
            refine AllReadyH.cons rfl (fun K hK => ?_) AllReadyH.nil
            · refine step_append_lies W5 rfl (.tmp 13) (.tmp 15) 25 rfl w.heap.size 4 j0 (.bool false) 1 1 Tryd.underlying25 yi0 yz0 yz1 yz2 rfl (by omega) (.slice (some ⟨b3_2, 0, none⟩) 0 0) 0 [] rfl (own_empty E3_5.out (by have := D5.out; omega)) ⟨p3, q3, none⟩ 16 c3 (m.s.map Value.bool) rfl (by simpa using HX.out.2.2) (src_at (src_b (hl.out.below BW5.out).2.2)) (one_b _) (by omega) (by unfold maxLen; omega) (by omega) (by have := BW5.out.size; omega) _ rfl ?_
              intro g3_6 k3_6 W6 hown hgr hat hlt
              have kp := Kept.of_grown (S := fun i => i = b3_2) hgr (fun x h => by simpa [Value.ownBlock] using h.symm)
              have KA6 := Lib.hid (kp.blk KA5.out (by have := D5.out; omega))
              have KR6 := Lib.hid (kp.blk KR5.out (by have := D5.out; omega))
              have BW6 := Lib.hid (kp.below BW5.out BW5.out.size (fun x hx => by have := D5.out; have hx' : x = b3_2 := hx; omega))
              have R1_6 := Lib.hid (own_kept3 R1_5.out kp (by have := D5.out; omega))
              have R2_6 := Lib.hid (own_kept3 R2_5.out kp (by have := D5.out; omega))
              have R3_6 : Hid (W6.ownsRow w.heap.size 4 1 (.slice (some ⟨g3_6, 0, none⟩) 16 k3_6) 16 (m.s.map Value.bool)) := Lib.hid (by simpa using hown)
              have D6 : Hid (w.heap.size + 1 < W6.heap.size ∧ w.heap.size + 1 < g1_4 ∧ g1_4 < W6.heap.size ∧ w.heap.size + 1 < g2_5 ∧ g2_5 < W6.heap.size ∧ w.heap.size + 1 < g3_6 ∧ g3_6 < W6.heap.size ∧ g1_4 ≠ g2_5 ∧ g1_4 ≠ g3_6 ∧ g2_5 ≠ g3_6) := by
                have h0 := D5.out
                have hs := hgr.size
                show w.heap.size + 1 < W6.heap.size ∧ w.heap.size + 1 < g1_4 ∧ g1_4 < W6.heap.size ∧ w.heap.size + 1 < g2_5 ∧ g2_5 < W6.heap.size ∧ w.heap.size + 1 < g3_6 ∧ g3_6 < W6.heap.size ∧ g1_4 ≠ g2_5 ∧ g1_4 ≠ g3_6 ∧ g2_5 ≠ g3_6
                rcases hat with h | h
                · have h' : b3_2 = g3_6 := by simpa [Value.ownBlock] using h
                  omega
                · omega
              clear hown hgr hat hlt kp
              refine hK.out _ _ ?_ (fun hS6 => ?_)
              · exact own_S0 KA6.out
              clear hK K
              try simp only [Act.put, Nat.zero_add]
              refine wpAnyH_take (i := 14) (v := ?_) rfl (by kernel_rfl) (by kernel_rfl) (by kernel_rfl) (fun _ _ _ h => h) (Or.inl ⟨by rfl, ?_⟩) (by assumption) ?_
              rotate_left
              · intro W hSw
                try dsimp only at hSw
                go_simp
                try with_reducible rfl
              try simp only [Act.put]
              have v0 : W6.cell? ⟨w.heap.size + 1, 0, none⟩ = some (.int .i64 0) := KR6.out.there rfl
              have e0 := KR6.out.frozen 0
              have v1 : W6.cell? ⟨w.heap.size + 1, 1, none⟩ = some (.slice none 0 0) := KR6.out.there rfl
              have e1 := KR6.out.frozen 1
              have v2 : W6.cell? ⟨w.heap.size + 1, 2, none⟩ = some (.slice none 0 0) := KR6.out.there rfl
              have e2 := KR6.out.frozen 2
              have v3 : W6.cell? ⟨w.heap.size + 1, 3, none⟩ = some (.slice none 0 0) := KR6.out.there rfl
              have e3 := KR6.out.frozen 3
              refine wpAnyH_ready (rs := [15]) (by kernel_rfl) (by simp) ?_
              refine AllReadyH.cons rfl (fun K hK => ?_) AllReadyH.nil
              go_simp
              refine hK.out _ _ ?_ (fun hS2 => ?_)
              · exact own_S KA6.out
              clear hK K
              refine wpAnyH_done (by kernel_rfl) ?_ _
              go_wp2
              exact own_shut KR6.out ⟨R1_6.out, R2_6.out, R3_6.out, by have := D6.out; omega⟩ (by have := D6.out; omega) BW6.out (by simp [results, Tryd.results43, go_sem, v0, v1, v2, v3])
  · go_simp
    have hb := below1 W0 (.cells #[] 3)
    have KA1 := Lib.hid (KA0.out.below hb)
    have KR1 := Lib.hid (KR0.out.below hb)
    have BW1 := Lib.hid (Below.tr BW0.out hb)
    have E2_1 : Hid (Blk (W0.alloc (.cells #[] 3)) W0.heap.size 3 []) := Lib.hid (heap_alloc_new W0 _)
    have SZ : Hid ((W0.alloc (.cells #[] 3)).heap.size = W0.heap.size + 1) := Lib.hid (by simp)
    clear hb
    obtain ⟨b2_1, hb2_1⟩ : ∃ q, W0.heap.size = q := ⟨_, rfl⟩
    rw [hb2_1] at E2_1 SZ ⊢
    generalize W0.alloc (.cells #[] 3) = W1 at KA1 KR1 BW1 SZ E2_1 ⊢
    have D1 : Hid (w.heap.size + 1 < W1.heap.size ∧ w.heap.size + 1 < b2_1 ∧ b2_1 < W1.heap.size) := Lib.hid (by have := D0.out; have := SZ.out; omega)
    clear SZ hb2_1
    refine hK.out _ _ ?_ (fun hS1 => ?_)
    · exact own_S0 KA1.out
    clear hK K
    try simp only [Act.put, List.setIfInBounds_toArray, List.set_cons_zero, List.set_cons_succ, Nat.zero_add]
    refine wpAnyH_ready (rs := [2, 10]) (by kernel_rfl) (by simp) ?_
    refine AllReadyH.cons rfl (fun K hK => ?_) (AllReadyH.cons rfl (fun K hK => ?_) AllReadyH.nil)
    · go_simp
      have hb := below1 W1 (.cells #[] 3)
      have KA2 := Lib.hid (KA1.out.below hb)
      have KR2 := Lib.hid (KR1.out.below hb)
      have BW2 := Lib.hid (Below.tr BW1.out hb)
      have E2_2 := Lib.hid (E2_1.out.below hb)
      have E1_2 : Hid (Blk (W1.alloc (.cells #[] 3)) W1.heap.size 3 []) := Lib.hid (heap_alloc_new W1 _)
      have SZ : Hid ((W1.alloc (.cells #[] 3)).heap.size = W1.heap.size + 1) := Lib.hid (by simp)
      clear hb
      obtain ⟨b1_2, hb1_2⟩ : ∃ q, W1.heap.size = q := ⟨_, rfl⟩
      rw [hb1_2] at E1_2 SZ ⊢
      generalize W1.alloc (.cells #[] 3) = W2 at KA2 KR2 BW2 SZ E1_2 E2_2 ⊢
      have D2 : Hid (w.heap.size + 1 < W2.heap.size ∧ w.heap.size + 1 < b2_1 ∧ b2_1 < W2.heap.size ∧ w.heap.size + 1 < b1_2 ∧ b1_2 < W2.heap.size ∧ b2_1 ≠ b1_2) := Lib.hid (by have := D1.out; have := SZ.out; omega)
      clear SZ hb1_2
      refine hK.out _ _ ?_ (fun hS2 => ?_)
      · exact own_S0 KA2.out
      clear hK K
      try simp only [Act.put, List.setIfInBounds_toArray, List.set_cons_zero, List.set_cons_succ, Nat.zero_add]
      refine wpAnyH_ready (rs := [5, 10]) (by kernel_rfl) (by simp) ?_
      refine AllReadyH.cons rfl (fun K hK => ?_) (AllReadyH.cons rfl (fun K hK => ?_) AllReadyH.nil)
      · refine step_append_lies W2 rfl (.tmp 5) (.tmp 7) 24 rfl w.heap.size 3 i0 (.int .i64 0) 1 8 Tryd.underlying24 hi0 hz0 hz1 hz2 rfl (by omega) (.slice (some ⟨b1_2, 0, none⟩) 0 0) 0 [] rfl (own_empty E1_2.out (by have := D2.out; omega)) ⟨p1, q1, none⟩ 6 c1 (m.r.map (Value.int .i64)) rfl (by simpa using HX.out.1) (src_at (src_i (hl.out.below BW2.out).1)) (one_i _) (by omega) (by unfold maxLen; omega) (by omega) (by have := BW2.out.size; omega) _ rfl ?_
        intro g1_3 k1_3 W3 hown hgr hat hlt
        have kp := Kept.of_grown (S := fun i => i = b1_2) hgr (fun x h => by simpa [Value.ownBlock] using h.symm)
        have KA3 := Lib.hid (kp.blk KA2.out (by have := D2.out; omega))
        have KR3 := Lib.hid (kp.blk KR2.out (by have := D2.out; omega))
        have BW3 := Lib.hid (kp.below BW2.out BW2.out.size (fun x hx => by have := D2.out; have hx' : x = b1_2 := hx; omega))
        have E2_3 := Lib.hid (kp.blk E2_2.out (by have := D2.out; omega))
        have R1_3 : Hid (W3.ownsRow w.heap.size 3 1 (.slice (some ⟨g1_3, 0, none⟩) 6 k1_3) 6 (m.r.map (Value.int .i64))) := Lib.hid (by simpa using hown)
        have D3 : Hid (w.heap.size + 1 < W3.heap.size ∧ w.heap.size + 1 < b2_1 ∧ b2_1 < W3.heap.size ∧ w.heap.size + 1 < g1_3 ∧ g1_3 < W3.heap.size ∧ b2_1 ≠ g1_3) := by
          have h0 := D2.out
          have hs := hgr.size
          show w.heap.size + 1 < W3.heap.size ∧ w.heap.size + 1 < b2_1 ∧ b2_1 < W3.heap.size ∧ w.heap.size + 1 < g1_3 ∧ g1_3 < W3.heap.size ∧ b2_1 ≠ g1_3
          rcases hat with h | h
          · have h' : b1_2 = g1_3 := by simpa [Value.ownBlock] using h
            omega
          · omega
        clear hown hgr hat hlt kp
        refine hK.out _ _ ?_ (fun hS3 => ?_)
        · exact own_S0 KA3.out
        clear hK K
        try simp only [Act.put, List.setIfInBounds_toArray, Nat.zero_add]
        refine wpAnyH_ready (rs := [9, 10]) (by kernel_rfl) (by simp) ?_
        refine AllReadyH.cons rfl (fun K hK => ?_) (AllReadyH.cons rfl (fun K hK => ?_) AllReadyH.nil)
        · refine step_append_lies W3 rfl (.tmp 9) (.tmp 11) 24 rfl w.heap.size 3 i0 (.int .i64 0) 1 8 Tryd.underlying24 hi0 hz0 hz1 hz2 rfl (by omega) (.slice (some ⟨b2_1, 0, none⟩) 0 0) 0 [] rfl (own_empty E2_3.out (by have := D3.out; omega)) ⟨p2, q2, none⟩ 16 c2 (m.c.map (Value.int .i64)) rfl (by simpa using HX.out.2.1) (src_at (src_i (hl.out.below BW3.out).2.1)) (one_i _) (by omega) (by unfold maxLen; omega) (by omega) (by have := BW3.out.size; omega) _ rfl ?_
          intro g2_4 k2_4 W4 hown hgr hat hlt
          have kp := Kept.of_grown (S := fun i => i = b2_1) hgr (fun x h => by simpa [Value.ownBlock] using h.symm)
          have KA4 := Lib.hid (kp.blk KA3.out (by have := D3.out; omega))
          have KR4 := Lib.hid (kp.blk KR3.out (by have := D3.out; omega))
          have BW4 := Lib.hid (kp.below BW3.out BW3.out.size (fun x hx => by have := D3.out; have hx' : x = b2_1 := hx; omega))
          have R1_4 := Lib.hid (own_kept3 R1_3.out kp (by have := D3.out; omega))
          have R2_4 : Hid (W4.ownsRow w.heap.size 3 1 (.slice (some ⟨g2_4, 0, none⟩) 16 k2_4) 16 (m.c.map (Value.int .i64))) := Lib.hid (by simpa using hown)
          have D4 : Hid (w.heap.size + 1 < W4.heap.size ∧ w.heap.size + 1 < g1_3 ∧ g1_3 < W4.heap.size ∧ w.heap.size + 1 < g2_4 ∧ g2_4 < W4.heap.size ∧ g1_3 ≠ g2_4) := by
            have h0 := D3.out
            have hs := hgr.size
            show w.heap.size + 1 < W4.heap.size ∧ w.heap.size + 1 < g1_3 ∧ g1_3 < W4.heap.size ∧ w.heap.size + 1 < g2_4 ∧ g2_4 < W4.heap.size ∧ g1_3 ≠ g2_4
            rcases hat with h | h
            · have h' : b2_1 = g2_4 := by simpa [Value.ownBlock] using h
              omega
            · omega
          clear hown hgr hat hlt kp
          refine hK.out _ _ ?_ (fun hS4 => ?_)
          · exact own_S0 KA4.out
          clear hK K
          try simp only [Act.put, Nat.zero_add]
          refine wpAnyH_ready (rs := [10]) (by kernel_rfl) (by simp) ?_
          refine AllReadyH.cons rfl (fun K hK => ?_) AllReadyH.nil
          · go_simp
            have hb := below1 W4 (.cells #[] 4)
            have KA5 := Lib.hid (KA4.out.below hb)
            have KR5 := Lib.hid (KR4.out.below hb)
            have BW5 := Lib.hid (Below.tr BW4.out hb)
            have R1_5 := Lib.hid (own_below R1_4.out hb)
            have R2_5 := Lib.hid (own_below R2_4.out hb)
            have E3_5 : Hid (Blk (W4.alloc (.cells #[] 4)) W4.heap.size 4 []) := Lib.hid (heap_alloc_new W4 _)
            have SZ : Hid ((W4.alloc (.cells #[] 4)).heap.size = W4.heap.size + 1) := Lib.hid (by simp)
            clear hb
            obtain ⟨b3_5, hb3_5⟩ : ∃ q, W4.heap.size = q := ⟨_, rfl⟩
            rw [hb3_5] at E3_5 SZ ⊢
            generalize W4.alloc (.cells #[] 4) = W5 at KA5 KR5 BW5 SZ E3_5 R1_5 R2_5 ⊢
            have D5 : Hid (w.heap.size + 1 < W5.heap.size ∧ w.heap.size + 1 < g1_3 ∧ g1_3 < W5.heap.size ∧ w.heap.size + 1 < g2_4 ∧ g2_4 < W5.heap.size ∧ w.heap.size + 1 < b3_5 ∧ b3_5 < W5.heap.size ∧ g1_3 ≠ g2_4 ∧ g1_3 ≠ b3_5 ∧ g2_4 ≠ b3_5) := Lib.hid (by have := D4.out; have := SZ.out; omega)
            clear SZ hb3_5
            refine hK.out _ _ ?_ (fun hS5 => ?_)
            · exact own_S0 KA5.out
            clear hK K
            try simp only [Act.put, List.setIfInBounds_toArray, List.set_cons_zero, List.set_cons_succ, Nat.zero_add]
            refine wpAnyH_ready (rs := [13]) (by kernel_rfl) (by simp) ?_
            refine AllReadyH.cons rfl (fun K hK => ?_) AllReadyH.nil
            · refine step_append_lies W5 rfl (.tmp 13) (.tmp 15) 25 rfl w.heap.size 4 j0 (.bool false) 1 1 Tryd.underlying25 yi0 yz0 yz1 yz2 rfl (by omega) (.slice (some ⟨b3_5, 0, none⟩) 0 0) 0 [] rfl (own_empty E3_5.out (by have := D5.out; omega)) ⟨p3, q3, none⟩ 16 c3 (m.s.map Value.bool) rfl (by simpa using HX.out.2.2) (src_at (src_b (hl.out.below BW5.out).2.2)) (one_b _) (by omega) (by unfold maxLen; omega) (by omega) (by have := BW5.out.size; omega) _ rfl ?_
              intro g3_6 k3_6 W6 hown hgr hat hlt
              have kp := Kept.of_grown (S := fun i => i = b3_5) hgr (fun x h => by simpa [Value.ownBlock] using h.symm)
              have KA6 := Lib.hid (kp.blk KA5.out (by have := D5.out; omega))
              have KR6 := Lib.hid (kp.blk KR5.out (by have := D5.out; omega))
              have BW6 := Lib.hid (kp.below BW5.out BW5.out.size (fun x hx => by have := D5.out; have hx' : x = b3_5 := hx; omega))
              have R1_6 := Lib.hid (own_kept3 R1_5.out kp (by have := D5.out; omega))
              have R2_6 := Lib.hid (own_kept3 R2_5.out kp (by have := D5.out; omega))
              have R3_6 : Hid (W6.ownsRow w.heap.size 4 1 (.slice (some ⟨g3_6, 0, none⟩) 16 k3_6) 16 (m.s.map Value.bool)) := Lib.hid (by simpa using hown)
              have D6 : Hid (w.heap.size + 1 < W6.heap.size ∧ w.heap.size + 1 < g1_3 ∧ g1_3 < W6.heap.size ∧ w.heap.size + 1 < g2_4 ∧ g2_4 < W6.heap.size ∧ w.heap.size + 1 < g3_6 ∧ g3_6 < W6.heap.size ∧ g1_3 ≠ g2_4 ∧ g1_3 ≠ g3_6 ∧ g2_4 ≠ g3_6) := by
                have h0 := D5.out
                have hs := hgr.size
                show w.heap.size + 1 < W6.heap.size ∧ w.heap.size + 1 < g1_3 ∧ g1_3 < W6.heap.size ∧ w.heap.size + 1 < g2_4 ∧ g2_4 < W6.heap.size ∧ w.heap.size + 1 < g3_6 ∧ g3_6 < W6.heap.size ∧ g1_3 ≠ g2_4 ∧ g1_3 ≠ g3_6 ∧ g2_4 ≠ g3_6
                rcases hat with h | h
                · have h' : b3_5 = g3_6 := by simpa [Value.ownBlock] using h
                  omega
                · omega
              clear hown hgr hat hlt kp
              refine hK.out _ _ ?_ (fun hS6 => ?_)
              · exact own_S0 KA6.out
              clear hK K
              try simp only [Act.put, List.setIfInBounds_toArray, Nat.zero_add]
              refine wpAnyH_take (i := 14) (v := ?_) rfl (by kernel_rfl) (by kernel_rfl) (by kernel_rfl) (fun _ _ _ h => h) (Or.inl ⟨by rfl, ?_⟩) (by assumption) ?_
              rotate_left
              · intro W hSw
                try dsimp only at hSw
                go_simp
                try with_reducible rfl
              try simp only [Act.put]
              have v0 : W6.cell? ⟨w.heap.size + 1, 0, none⟩ = some (.int .i64 0) := KR6.out.there rfl
              have e0 := KR6.out.frozen 0
              have v1 : W6.cell? ⟨w.heap.size + 1, 1, none⟩ = some (.slice none 0 0) := KR6.out.there rfl
              have e1 := KR6.out.frozen 1
              have v2 : W6.cell? ⟨w.heap.size + 1, 2, none⟩ = some (.slice none 0 0) := KR6.out.there rfl
              have e2 := KR6.out.frozen 2
              have v3 : W6.cell? ⟨w.heap.size + 1, 3, none⟩ = some (.slice none 0 0) := KR6.out.there rfl
              have e3 := KR6.out.frozen 3
              refine wpAnyH_ready (rs := [15]) (by kernel_rfl) (by simp) ?_
              refine AllReadyH.cons rfl (fun K hK => ?_) AllReadyH.nil
              go_simp
              refine hK.out _ _ ?_ (fun hS2 => ?_)
              · exact own_S KA6.out
              clear hK K
              refine wpAnyH_done (by kernel_rfl) ?_ _
              go_wp2
              exact own_shut KR6.out ⟨R1_6.out, R2_6.out, R3_6.out, by have := D6.out; omega⟩ (by have := D6.out; omega) BW6.out (by simp [results, Tryd.results43, go_sem, v0, v1, v2, v3])
        · go_simp
          have hb := below1 W3 (.cells #[] 4)
          have KA4 := Lib.hid (KA3.out.below hb)
          have KR4 := Lib.hid (KR3.out.below hb)
          have BW4 := Lib.hid (Below.tr BW3.out hb)
          have R1_4 := Lib.hid (own_below R1_3.out hb)
          have E2_4 := Lib.hid (E2_3.out.below hb)
          have E3_4 : Hid (Blk (W3.alloc (.cells #[] 4)) W3.heap.size 4 []) := Lib.hid (heap_alloc_new W3 _)
          have SZ : Hid ((W3.alloc (.cells #[] 4)).heap.size = W3.heap.size + 1) := Lib.hid (by simp)
          clear hb
          obtain ⟨b3_4, hb3_4⟩ : ∃ q, W3.heap.size = q := ⟨_, rfl⟩
          rw [hb3_4] at E3_4 SZ ⊢
          generalize W3.alloc (.cells #[] 4) = W4 at KA4 KR4 BW4 SZ E2_4 E3_4 R1_4 ⊢
          have D4 : Hid (w.heap.size + 1 < W4.heap.size ∧ w.heap.size + 1 < g1_3 ∧ g1_3 < W4.heap.size ∧ w.heap.size + 1 < b2_1 ∧ b2_1 < W4.heap.size ∧ w.heap.size + 1 < b3_4 ∧ b3_4 < W4.heap.size ∧ g1_3 ≠ b2_1 ∧ g1_3 ≠ b3_4 ∧ b2_1 ≠ b3_4) := Lib.hid (by have := D3.out; have := SZ.out; omega)
          clear SZ hb3_4
          refine hK.out _ _ ?_ (fun hS4 => ?_)
          · exact own_S0 KA4.out
          clear hK K
          try simp only [Act.put, List.setIfInBounds_toArray, List.set_cons_zero, List.set_cons_succ, Nat.zero_add]
          refine wpAnyH_ready (rs := [9]) (by kernel_rfl) (by simp) ?_
          refine AllReadyH.cons rfl (fun K hK => ?_) AllReadyH.nil
          · refine step_append_lies W4 rfl (.tmp 9) (.tmp 11) 24 rfl w.heap.size 3 i0 (.int .i64 0) 1 8 Tryd.underlying24 hi0 hz0 hz1 hz2 rfl (by omega) (.slice (some ⟨b2_1, 0, none⟩) 0 0) 0 [] rfl (own_empty E2_4.out (by have := D4.out; omega)) ⟨p2, q2, none⟩ 16 c2 (m.c.map (Value.int .i64)) rfl (by simpa using HX.out.2.1) (src_at (src_i (hl.out.below BW4.out).2.1)) (one_i _) (by omega) (by unfold maxLen; omega) (by omega) (by have := BW4.out.size; omega) _ rfl ?_
            intro g2_5 k2_5 W5 hown hgr hat hlt
            have kp := Kept.of_grown (S := fun i => i = b2_1) hgr (fun x h => by simpa [Value.ownBlock] using h.symm)
            have KA5 := Lib.hid (kp.blk KA4.out (by have := D4.out; omega))
            have KR5 := Lib.hid (kp.blk KR4.out (by have := D4.out; omega))
            have BW5 := Lib.hid (kp.below BW4.out BW4.out.size (fun x hx => by have := D4.out; have hx' : x = b2_1 := hx; omega))
            have R1_5 := Lib.hid (own_kept3 R1_4.out kp (by have := D4.out; omega))
            have E3_5 := Lib.hid (kp.blk E3_4.out (by have := D4.out; omega))
            have R2_5 : Hid (W5.ownsRow w.heap.size 3 1 (.slice (some ⟨g2_5, 0, none⟩) 16 k2_5) 16 (m.c.map (Value.int .i64))) := Lib.hid (by simpa using hown)
            have D5 : Hid (w.heap.size + 1 < W5.heap.size ∧ w.heap.size + 1 < g1_3 ∧ g1_3 < W5.heap.size ∧ w.heap.size + 1 < b3_4 ∧ b3_4 < W5.heap.size ∧ w.heap.size + 1 < g2_5 ∧ g2_5 < W5.heap.size ∧ g1_3 ≠ b3_4 ∧ g1_3 ≠ g2_5 ∧ b3_4 ≠ g2_5) := by
              have h0 := D4.out
              have hs := hgr.size
              show w.heap.size + 1 < W5.heap.size ∧ w.heap.size + 1 < g1_3 ∧ g1_3 < W5.heap.size ∧ w.heap.size + 1 < b3_4 ∧ b3_4 < W5.heap.size ∧ w.heap.size + 1 < g2_5 ∧ g2_5 < W5.heap.size ∧ g1_3 ≠ b3_4 ∧ g1_3 ≠ g2_5 ∧ b3_4 ≠ g2_5
              rcases hat with h | h
              · have h' : b2_1 = g2_5 := by simpa [Value.ownBlock] using h
                omega
              · omega
            clear hown hgr hat hlt kp
            refine hK.out _ _ ?_ (fun hS5 => ?_)
            · exact own_S0 KA5.out
            clear hK K
            try simp only [Act.put, List.setIfInBounds_toArray, Nat.zero_add]
            refine wpAnyH_ready (rs := [13]) (by kernel_rfl) (by simp) ?_
            refine AllReadyH.cons rfl (fun K hK => ?_) AllReadyH.nil
            · refine step_append_lies W5 rfl (.tmp 13) (.tmp 15) 25 rfl w.heap.size 4 j0 (.bool false) 1 1 Tryd.underlying25 yi0 yz0 yz1 yz2 rfl (by omega) (.slice (some ⟨b3_4, 0, none⟩) 0 0) 0 [] rfl (own_empty E3_5.out (by have := D5.out; omega)) ⟨p3, q3, none⟩ 16 c3 (m.s.map Value.bool) rfl (by simpa using HX.out.2.2) (src_at (src_b (hl.out.below BW5.out).2.2)) (one_b _) (by omega) (by unfold maxLen; omega) (by omega) (by have := BW5.out.size; omega) _ rfl ?_
              intro g3_6 k3_6 W6 hown hgr hat hlt
              have kp := Kept.of_grown (S := fun i => i = b3_4) hgr (fun x h => by simpa [Value.ownBlock] using h.symm)
              have KA6 := Lib.hid (kp.blk KA5.out (by have := D5.out; omega))
              have KR6 := Lib.hid (kp.blk KR5.out (by have := D5.out; omega))
              have BW6 := Lib.hid (kp.below BW5.out BW5.out.size (fun x hx => by have := D5.out; have hx' : x = b3_4 := hx; omega))
              have R1_6 := Lib.hid (own_kept3 R1_5.out kp (by have := D5.out; omega))
              have R2_6 := Lib.hid (own_kept3 R2_5.out kp (by have := D5.out; omega))
              have R3_6 : Hid (W6.ownsRow w.heap.size 4 1 (.slice (some ⟨g3_6, 0, none⟩) 16 k3_6) 16 (m.s.map Value.bool)) := Lib.hid (by simpa using hown)
              have D6 : Hid (w.heap.size + 1 < W6.heap.size ∧ w.heap.size + 1 < g1_3 ∧ g1_3 < W6.heap.size ∧ w.heap.size + 1 < g2_5 ∧ g2_5 < W6.heap.size ∧ w.heap.size + 1 < g3_6 ∧ g3_6 < W6.heap.size ∧ g1_3 ≠ g2_5 ∧ g1_3 ≠ g3_6 ∧ g2_5 ≠ g3_6) := by
                have h0 := D5.out
                have hs := hgr.size
                show w.heap.size + 1 < W6.heap.size ∧ w.heap.size + 1 < g1_3 ∧ g1_3 < W6.heap.size ∧ w.heap.size + 1 < g2_5 ∧ g2_5 < W6.heap.size ∧ w.heap.size + 1 < g3_6 ∧ g3_6 < W6.heap.size ∧ g1_3 ≠ g2_5 ∧ g1_3 ≠ g3_6 ∧ g2_5 ≠ g3_6
                rcases hat with h | h
                · have h' : b3_4 = g3_6 := by simpa [Value.ownBlock] using h
                  omega
                · omega
              clear hown hgr hat hlt kp
              refine hK.out _ _ ?_ (fun hS6 => ?_)
              · exact own_S0 KA6.out
              clear hK K
              try simp only [Act.put, Nat.zero_add]
              refine wpAnyH_take (i := 14) (v := ?_) rfl (by kernel_rfl) (by kernel_rfl) (by kernel_rfl) (fun _ _ _ h => h) (Or.inl ⟨by rfl, ?_⟩) (by assumption) ?_
              rotate_left
              · intro W hSw
                try dsimp only at hSw
                go_simp
                try with_reducible rfl
              try simp only [Act.put]
              have v0 : W6.cell? ⟨w.heap.size + 1, 0, none⟩ = some (.int .i64 0) := KR6.out.there rfl
              have e0 := KR6.out.frozen 0
              have v1 : W6.cell? ⟨w.heap.size + 1, 1, none⟩ = some (.slice none 0 0) := KR6.out.there rfl
              have e1 := KR6.out.frozen 1
              have v2 : W6.cell? ⟨w.heap.size + 1, 2, none⟩ = some (.slice none 0 0) := KR6.out.there rfl
              have e2 := KR6.out.frozen 2
              have v3 : W6.cell? ⟨w.heap.size + 1, 3, none⟩ = some (.slice none 0 0) := KR6.out.there rfl
              have e3 := KR6.out.frozen 3
              refine wpAnyH_ready (rs := [15]) (by kernel_rfl) (by simp) ?_
              refine AllReadyH.cons rfl (fun K hK => ?_) AllReadyH.nil
              go_simp
              refine hK.out _ _ ?_ (fun hS2 => ?_)
              · exact own_S KA6.out
              clear hK K
              refine wpAnyH_done (by kernel_rfl) ?_ _
              go_wp2
              exact own_shut KR6.out ⟨R1_6.out, R2_6.out, R3_6.out, by have := D6.out; omega⟩ (by have := D6.out; omega) BW6.out (by simp [results, Tryd.results43, go_sem, v0, v1, v2, v3])
      · go_simp
        have hb := below1 W2 (.cells #[] 4)
        have KA3 := Lib.hid (KA2.out.below hb)
        have KR3 := Lib.hid (KR2.out.below hb)
        have BW3 := Lib.hid (Below.tr BW2.out hb)
        have E1_3 := Lib.hid (E1_2.out.below hb)
        have E2_3 := Lib.hid (E2_2.out.below hb)
        have E3_3 : Hid (Blk (W2.alloc (.cells #[] 4)) W2.heap.size 4 []) := Lib.hid (heap_alloc_new W2 _)
        have SZ : Hid ((W2.alloc (.cells #[] 4)).heap.size = W2.heap.size + 1) := Lib.hid (by simp)
        clear hb
        obtain ⟨b3_3, hb3_3⟩ : ∃ q, W2.heap.size = q := ⟨_, rfl⟩
        rw [hb3_3] at E3_3 SZ ⊢
        generalize W2.alloc (.cells #[] 4) = W3 at KA3 KR3 BW3 SZ E1_3 E2_3 E3_3 ⊢
        have D3 : Hid (w.heap.size + 1 < W3.heap.size ∧ w.heap.size + 1 < b1_2 ∧ b1_2 < W3.heap.size ∧ w.heap.size + 1 < b2_1 ∧ b2_1 < W3.heap.size ∧ w.heap.size + 1 < b3_3 ∧ b3_3 < W3.heap.size ∧ b1_2 ≠ b2_1 ∧ b1_2 ≠ b3_3 ∧ b2_1 ≠ b3_3) := Lib.hid (by have := D2.out; have := SZ.out; omega)
        clear SZ hb3_3
        refine hK.out _ _ ?_ (fun hS3 => ?_)
        · exact own_S0 KA3.out
        clear hK K
        try simp only [Act.put, List.setIfInBounds_toArray, List.set_cons_zero, List.set_cons_succ, Nat.zero_add]
        refine wpAnyH_ready (rs := [5]) (by kernel_rfl) (by simp) ?_
        refine AllReadyH.cons rfl (fun K hK => ?_) AllReadyH.nil
        · refine step_append_lies W3 rfl (.tmp 5) (.tmp 7) 24 rfl w.heap.size 3 i0 (.int .i64 0) 1 8 Tryd.underlying24 hi0 hz0 hz1 hz2 rfl (by omega) (.slice (some ⟨b1_2, 0, none⟩) 0 0) 0 [] rfl (own_empty E1_3.out (by have := D3.out; omega)) ⟨p1, q1, none⟩ 6 c1 (m.r.map (Value.int .i64)) rfl (by simpa using HX.out.1) (src_at (src_i (hl.out.below BW3.out).1)) (one_i _) (by omega) (by unfold maxLen; omega) (by omega) (by have := BW3.out.size; omega) _ rfl ?_
          intro g1_4 k1_4 W4 hown hgr hat hlt
          have kp := Kept.of_grown (S := fun i => i = b1_2) hgr (fun x h => by simpa [Value.ownBlock] using h.symm)
          have KA4 := Lib.hid (kp.blk KA3.out (by have := D3.out; omega))
          have KR4 := Lib.hid (kp.blk KR3.out (by have := D3.out; omega))
          have BW4 := Lib.hid (kp.below BW3.out BW3.out.size (fun x hx => by have := D3.out; have hx' : x = b1_2 := hx; omega))
          have E2_4 := Lib.hid (kp.blk E2_3.out (by have := D3.out; omega))
          have E3_4 := Lib.hid (kp.blk E3_3.out (by have := D3.out; omega))
          have R1_4 : Hid (W4.ownsRow w.heap.size 3 1 (.slice (some ⟨g1_4, 0, none⟩) 6 k1_4) 6 (m.r.map (Value.int .i64))) := Lib.hid (by simpa using hown)
          have D4 : Hid (w.heap.size + 1 < W4.heap.size ∧ w.heap.size + 1 < b2_1 ∧ b2_1 < W4.heap.size ∧ w.heap.size + 1 < b3_3 ∧ b3_3 < W4.heap.size ∧ w.heap.size + 1 < g1_4 ∧ g1_4 < W4.heap.size ∧ b2_1 ≠ b3_3 ∧ b2_1 ≠ g1_4 ∧ b3_3 ≠ g1_4) := by
            have h0 := D3.out
            have hs := hgr.size
            show w.heap.size + 1 < W4.heap.size ∧ w.heap.size + 1 < b2_1 ∧ b2_1 < W4.heap.size ∧ w.heap.size + 1 < b3_3 ∧ b3_3 < W4.heap.size ∧ w.heap.size + 1 < g1_4 ∧ g1_4 < W4.heap.size ∧ b2_1 ≠ b3_3 ∧ b2_1 ≠ g1_4 ∧ b3_3 ≠ g1_4
            rcases hat with h | h
            · have h' : b1_2 = g1_4 := by simpa [Value.ownBlock] using h
              omega
            · omega
          clear hown hgr hat hlt kp
          refine hK.out _ _ ?_ (fun hS4 => ?_)
          · exact own_S0 KA4.out
          clear hK K
          try simp only [Act.put, List.setIfInBounds_toArray, Nat.zero_add]
          refine wpAnyH_ready (rs := [9]) (by kernel_rfl) (by simp) ?_
          refine AllReadyH.cons rfl (fun K hK => ?_) AllReadyH.nil
          · refine step_append_lies W4 rfl (.tmp 9) (.tmp 11) 24 rfl w.heap.size 3 i0 (.int .i64 0) 1 8 Tryd.underlying24 hi0 hz0 hz1 hz2 rfl (by omega) (.slice (some ⟨b2_1, 0, none⟩) 0 0) 0 [] rfl (own_empty E2_4.out (by have := D4.out; omega)) ⟨p2, q2, none⟩ 16 c2 (m.c.map (Value.int .i64)) rfl (by simpa using HX.out.2.1) (src_at (src_i (hl.out.below BW4.out).2.1)) (one_i _) (by omega) (by unfold maxLen; omega) (by omega) (by have := BW4.out.size; omega) _ rfl ?_
            intro g2_5 k2_5 W5 hown hgr hat hlt
            have kp := Kept.of_grown (S := fun i => i = b2_1) hgr (fun x h => by simpa [Value.ownBlock] using h.symm)
            have KA5 := Lib.hid (kp.blk KA4.out (by have := D4.out; omega))
            have KR5 := Lib.hid (kp.blk KR4.out (by have := D4.out; omega))
            have BW5 := Lib.hid (kp.below BW4.out BW4.out.size (fun x hx => by have := D4.out; have hx' : x = b2_1 := hx; omega))
            have R1_5 := Lib.hid (own_kept3 R1_4.out kp (by have := D4.out; omega))
            have E3_5 := Lib.hid (kp.blk E3_4.out (by have := D4.out; omega))
            have R2_5 : Hid (W5.ownsRow w.heap.size 3 1 (.slice (some ⟨g2_5, 0, none⟩) 16 k2_5) 16 (m.c.map (Value.int .i64))) := Lib.hid (by simpa using hown)
            have D5 : Hid (w.heap.size + 1 < W5.heap.size ∧ w.heap.size + 1 < g1_4 ∧ g1_4 < W5.heap.size ∧ w.heap.size + 1 < b3_3 ∧ b3_3 < W5.heap.size ∧ w.heap.size + 1 < g2_5 ∧ g2_5 < W5.heap.size ∧ g1_4 ≠ b3_3 ∧ g1_4 ≠ g2_5 ∧ b3_3 ≠ g2_5) := by
              have h0 := D4.out
              have hs := hgr.size
              show w.heap.size + 1 < W5.heap.size ∧ w.heap.size + 1 < g1_4 ∧ g1_4 < W5.heap.size ∧ w.heap.size + 1 < b3_3 ∧ b3_3 < W5.heap.size ∧ w.heap.size + 1 < g2_5 ∧ g2_5 < W5.heap.size ∧ g1_4 ≠ b3_3 ∧ g1_4 ≠ g2_5 ∧ b3_3 ≠ g2_5
              rcases hat with h | h
              · have h' : b2_1 = g2_5 := by simpa [Value.ownBlock] using h
                omega
              · omega
            clear hown hgr hat hlt kp
            refine hK.out _ _ ?_ (fun hS5 => ?_)
            · exact own_S0 KA5.out
            clear hK K
            try simp only [Act.put, Nat.zero_add]
            refine wpAnyH_ready (rs := [13]) (by kernel_rfl) (by simp) ?_
            refine AllReadyH.cons rfl (fun K hK => ?_) AllReadyH.nil
            · refine step_append_lies W5 rfl (.tmp 13) (.tmp 15) 25 rfl w.heap.size 4 j0 (.bool false) 1 1 Tryd.underlying25 yi0 yz0 yz1 yz2 rfl (by omega) (.slice (some ⟨b3_3, 0, none⟩) 0 0) 0 [] rfl (own_empty E3_5.out (by have := D5.out; omega)) ⟨p3, q3, none⟩ 16 c3 (m.s.map Value.bool) rfl (by simpa using HX.out.2.2) (src_at (src_b (hl.out.below BW5.out).2.2)) (one_b _) (by omega) (by unfold maxLen; omega) (by omega) (by have := BW5.out.size; omega) _ rfl ?_
              intro g3_6 k3_6 W6 hown hgr hat hlt
              have kp := Kept.of_grown (S := fun i => i = b3_3) hgr (fun x h => by simpa [Value.ownBlock] using h.symm)
              have KA6 := Lib.hid (kp.blk KA5.out (by have := D5.out; omega))
              have KR6 := Lib.hid (kp.blk KR5.out (by have := D5.out; omega))
              have BW6 := Lib.hid (kp.below BW5.out BW5.out.size (fun x hx => by have := D5.out; have hx' : x = b3_3 := hx; omega))
              have R1_6 := Lib.hid (own_kept3 R1_5.out kp (by have := D5.out; omega))
              have R2_6 := Lib.hid (own_kept3 R2_5.out kp (by have := D5.out; omega))
              have R3_6 : Hid (W6.ownsRow w.heap.size 4 1 (.slice (some ⟨g3_6, 0, none⟩) 16 k3_6) 16 (m.s.map Value.bool)) := Lib.hid (by simpa using hown)
              have D6 : Hid (w.heap.size + 1 < W6.heap.size ∧ w.heap.size + 1 < g1_4 ∧ g1_4 < W6.heap.size ∧ w.heap.size + 1 < g2_5 ∧ g2_5 < W6.heap.size ∧ w.heap.size + 1 < g3_6 ∧ g3_6 < W6.heap.size ∧ g1_4 ≠ g2_5 ∧ g1_4 ≠ g3_6 ∧ g2_5 ≠ g3_6) := by
                have h0 := D5.out
                have hs := hgr.size
                show w.heap.size + 1 < W6.heap.size ∧ w.heap.size + 1 < g1_4 ∧ g1_4 < W6.heap.size ∧ w.heap.size + 1 < g2_5 ∧ g2_5 < W6.heap.size ∧ w.heap.size + 1 < g3_6 ∧ g3_6 < W6.heap.size ∧ g1_4 ≠ g2_5 ∧ g1_4 ≠ g3_6 ∧ g2_5 ≠ g3_6
                rcases hat with h | h
                · have h' : b3_3 = g3_6 := by simpa [Value.ownBlock] using h
                  omega
                · omega
              clear hown hgr hat hlt kp
              refine hK.out _ _ ?_ (fun hS6 => ?_)
              · exact own_S0 KA6.out
              clear hK K
              try simp only [Act.put, Nat.zero_add]
              refine wpAnyH_take (i := 14) (v := ?_) rfl (by kernel_rfl) (by kernel_rfl) (by kernel_rfl) (fun _ _ _ h => h) (Or.inl ⟨by rfl, ?_⟩) (by assumption) ?_
              rotate_left
              · intro W hSw
                try dsimp only at hSw
                go_simp
                try with_reducible rfl
              try simp only [Act.put]
              have v0 : W6.cell? ⟨w.heap.size + 1, 0, none⟩ = some (.int .i64 0) := KR6.out.there rfl
              have e0 := KR6.out.frozen 0
              have v1 : W6.cell? ⟨w.heap.size + 1, 1, none⟩ = some (.slice none 0 0) := KR6.out.there rfl
              have e1 := KR6.out.frozen 1
              have v2 : W6.cell? ⟨w.heap.size + 1, 2, none⟩ = some (.slice none 0 0) := KR6.out.there rfl
              have e2 := KR6.out.frozen 2
              have v3 : W6.cell? ⟨w.heap.size + 1, 3, none⟩ = some (.slice none 0 0) := KR6.out.there rfl
              have e3 := KR6.out.frozen 3
              refine wpAnyH_ready (rs := [15]) (by kernel_rfl) (by simp) ?_
              refine AllReadyH.cons rfl (fun K hK => ?_) AllReadyH.nil
              go_simp
              refine hK.out _ _ ?_ (fun hS2 => ?_)
              · exact own_S KA6.out
              clear hK K
              refine wpAnyH_done (by kernel_rfl) ?_ _
              go_wp2
              exact own_shut KR6.out ⟨R1_6.out, R2_6.out, R3_6.out, by have := D6.out; omega⟩ (by have := D6.out; omega) BW6.out (by simp [results, Tryd.results43, go_sem, v0, v1, v2, v3])
    · go_simp
      have hb := below1 W1 (.cells #[] 4)
      have KA2 := Lib.hid (KA1.out.below hb)
      have KR2 := Lib.hid (KR1.out.below hb)
      have BW2 := Lib.hid (Below.tr BW1.out hb)
      have E2_2 := Lib.hid (E2_1.out.below hb)
      have E3_2 : Hid (Blk (W1.alloc (.cells #[] 4)) W1.heap.size 4 []) := Lib.hid (heap_alloc_new W1 _)
      have SZ : Hid ((W1.alloc (.cells #[] 4)).heap.size = W1.heap.size + 1) := Lib.hid (by simp)
      clear hb
      obtain ⟨b3_2, hb3_2⟩ : ∃ q, W1.heap.size = q := ⟨_, rfl⟩
      rw [hb3_2] at E3_2 SZ ⊢
      generalize W1.alloc (.cells #[] 4) = W2 at KA2 KR2 BW2 SZ E2_2 E3_2 ⊢
      have D2 : Hid (w.heap.size + 1 < W2.heap.size ∧ w.heap.size + 1 < b2_1 ∧ b2_1 < W2.heap.size ∧ w.heap.size + 1 < b3_2 ∧ b3_2 < W2.heap.size ∧ b2_1 ≠ b3_2) := Lib.hid (by have := D1.out; have := SZ.out; omega)
      clear SZ hb3_2
      refine hK.out _ _ ?_ (fun hS2 => ?_)
      · exact own_S0 KA2.out
      clear hK K
      try simp only [Act.put, List.setIfInBounds_toArray, List.set_cons_zero, List.set_cons_succ, Nat.zero_add]
      refine wpAnyH_ready (rs := [2]) (by kernel_rfl) (by simp) ?_
      refine AllReadyH.cons rfl (fun K hK => ?_) AllReadyH.nil
      · go_simp
        have hb := below1 W2 (.cells #[] 3)
        have KA3 := Lib.hid (KA2.out.below hb)
        have KR3 := Lib.hid (KR2.out.below hb)
        have BW3 := Lib.hid (Below.tr BW2.out hb)
        have E2_3 := Lib.hid (E2_2.out.below hb)
        have E3_3 := Lib.hid (E3_2.out.below hb)
        have E1_3 : Hid (Blk (W2.alloc (.cells #[] 3)) W2.heap.size 3 []) := Lib.hid (heap_alloc_new W2 _)
        have SZ : Hid ((W2.alloc (.cells #[] 3)).heap.size = W2.heap.size + 1) := Lib.hid (by simp)
        clear hb
        obtain ⟨b1_3, hb1_3⟩ : ∃ q, W2.heap.size = q := ⟨_, rfl⟩
        rw [hb1_3] at E1_3 SZ ⊢
        generalize W2.alloc (.cells #[] 3) = W3 at KA3 KR3 BW3 SZ E1_3 E2_3 E3_3 ⊢
        have D3 : Hid (w.heap.size + 1 < W3.heap.size ∧ w.heap.size + 1 < b2_1 ∧ b2_1 < W3.heap.size ∧ w.heap.size + 1 < b3_2 ∧ b3_2 < W3.heap.size ∧ w.heap.size + 1 < b1_3 ∧ b1_3 < W3.heap.size ∧ b2_1 ≠ b3_2 ∧ b2_1 ≠ b1_3 ∧ b3_2 ≠ b1_3) := Lib.hid (by have := D2.out; have := SZ.out; omega)
        clear SZ hb1_3
        refine hK.out _ _ ?_ (fun hS3 => ?_)
        · exact own_S0 KA3.out
        clear hK K
        try simp only [Act.put, List.setIfInBounds_toArray, List.set_cons_zero, List.set_cons_succ, Nat.zero_add]
        refine wpAnyH_ready (rs := [5]) (by kernel_rfl) (by simp) ?_
        refine AllReadyH.cons rfl (fun K hK => ?_) AllReadyH.nil
        · refine step_append_lies W3 rfl (.tmp 5) (.tmp 7) 24 rfl w.heap.size 3 i0 (.int .i64 0) 1 8 Tryd.underlying24 hi0 hz0 hz1 hz2 rfl (by omega) (.slice (some ⟨b1_3, 0, none⟩) 0 0) 0 [] rfl (own_empty E1_3.out (by have := D3.out; omega)) ⟨p1, q1, none⟩ 6 c1 (m.r.map (Value.int .i64)) rfl (by simpa using HX.out.1) (src_at (src_i (hl.out.below BW3.out).1)) (one_i _) (by omega) (by unfold maxLen; omega) (by omega) (by have := BW3.out.size; omega) _ rfl ?_
          intro g1_4 k1_4 W4 hown hgr hat hlt
          have kp := Kept.of_grown (S := fun i => i = b1_3) hgr (fun x h => by simpa [Value.ownBlock] using h.symm)
          have KA4 := Lib.hid (kp.blk KA3.out (by have := D3.out; omega))
          have KR4 := Lib.hid (kp.blk KR3.out (by have := D3.out; omega))
          have BW4 := Lib.hid (kp.below BW3.out BW3.out.size (fun x hx => by have := D3.out; have hx' : x = b1_3 := hx; omega))
          have E2_4 := Lib.hid (kp.blk E2_3.out (by have := D3.out; omega))
          have E3_4 := Lib.hid (kp.blk E3_3.out (by have := D3.out; omega))
          have R1_4 : Hid (W4.ownsRow w.heap.size 3 1 (.slice (some ⟨g1_4, 0, none⟩) 6 k1_4) 6 (m.r.map (Value.int .i64))) := Lib.hid (by simpa using hown)
          have D4 : Hid (w.heap.size + 1 < W4.heap.size ∧ w.heap.size + 1 < b2_1 ∧ b2_1 < W4.heap.size ∧ w.heap.size + 1 < b3_2 ∧ b3_2 < W4.heap.size ∧ w.heap.size + 1 < g1_4 ∧ g1_4 < W4.heap.size ∧ b2_1 ≠ b3_2 ∧ b2_1 ≠ g1_4 ∧ b3_2 ≠ g1_4) := by
            have h0 := D3.out
            have hs := hgr.size
            show w.heap.size + 1 < W4.heap.size ∧ w.heap.size + 1 < b2_1 ∧ b2_1 < W4.heap.size ∧ w.heap.size + 1 < b3_2 ∧ b3_2 < W4.heap.size ∧ w.heap.size + 1 < g1_4 ∧ g1_4 < W4.heap.size ∧ b2_1 ≠ b3_2 ∧ b2_1 ≠ g1_4 ∧ b3_2 ≠ g1_4
            rcases hat with h | h
            · have h' : b1_3 = g1_4 := by simpa [Value.ownBlock] using h
              omega
            · omega
          clear hown hgr hat hlt kp
          refine hK.out _ _ ?_ (fun hS4 => ?_)
          · exact own_S0 KA4.out
          clear hK K
          try simp only [Act.put, List.setIfInBounds_toArray, Nat.zero_add]
          refine wpAnyH_ready (rs := [9]) (by kernel_rfl) (by simp) ?_
          refine AllReadyH.cons rfl (fun K hK => ?_) AllReadyH.nil
          · refine step_append_lies W4 rfl (.tmp 9) (.tmp 11) 24 rfl w.heap.size 3 i0 (.int .i64 0) 1 8 Tryd.underlying24 hi0 hz0 hz1 hz2 rfl (by omega) (.slice (some ⟨b2_1, 0, none⟩) 0 0) 0 [] rfl (own_empty E2_4.out (by have := D4.out; omega)) ⟨p2, q2, none⟩ 16 c2 (m.c.map (Value.int .i64)) rfl (by simpa using HX.out.2.1) (src_at (src_i (hl.out.below BW4.out).2.1)) (one_i _) (by omega) (by unfold maxLen; omega) (by omega) (by have := BW4.out.size; omega) _ rfl ?_
            intro g2_5 k2_5 W5 hown hgr hat hlt
            have kp := Kept.of_grown (S := fun i => i = b2_1) hgr (fun x h => by simpa [Value.ownBlock] using h.symm)
            have KA5 := Lib.hid (kp.blk KA4.out (by have := D4.out; omega))
            have KR5 := Lib.hid (kp.blk KR4.out (by have := D4.out; omega))
            have BW5 := Lib.hid (kp.below BW4.out BW4.out.size (fun x hx => by have := D4.out; have hx' : x = b2_1 := hx; omega))
            have R1_5 := Lib.hid (own_kept3 R1_4.out kp (by have := D4.out; omega))
            have E3_5 := Lib.hid (kp.blk E3_4.out (by have := D4.out; omega))
            have R2_5 : Hid (W5.ownsRow w.heap.size 3 1 (.slice (some ⟨g2_5, 0, none⟩) 16 k2_5) 16 (m.c.map (Value.int .i64))) := Lib.hid (by simpa using hown)
            have D5 : Hid (w.heap.size + 1 < W5.heap.size ∧ w.heap.size + 1 < g1_4 ∧ g1_4 < W5.heap.size ∧ w.heap.size + 1 < b3_2 ∧ b3_2 < W5.heap.size ∧ w.heap.size + 1 < g2_5 ∧ g2_5 < W5.heap.size ∧ g1_4 ≠ b3_2 ∧ g1_4 ≠ g2_5 ∧ b3_2 ≠ g2_5) := by
              have h0 := D4.out
              have hs := hgr.size
              show w.heap.size + 1 < W5.heap.size ∧ w.heap.size + 1 < g1_4 ∧ g1_4 < W5.heap.size ∧ w.heap.size + 1 < b3_2 ∧ b3_2 < W5.heap.size ∧ w.heap.size + 1 < g2_5 ∧ g2_5 < W5.heap.size ∧ g1_4 ≠ b3_2 ∧ g1_4 ≠ g2_5 ∧ b3_2 ≠ g2_5
              rcases hat with h | h
              · have h' : b2_1 = g2_5 := by simpa [Value.ownBlock] using h
                omega
              · omega
            clear hown hgr hat hlt kp
            refine hK.out _ _ ?_ (fun hS5 => ?_)
            · exact own_S0 KA5.out
            clear hK K
            try simp only [Act.put, Nat.zero_add]
            refine wpAnyH_ready (rs := [13]) (by kernel_rfl) (by simp) ?_
            refine AllReadyH.cons rfl (fun K hK => ?_) AllReadyH.nil
            · refine step_append_lies W5 rfl (.tmp 13) (.tmp 15) 25 rfl w.heap.size 4 j0 (.bool false) 1 1 Tryd.underlying25 yi0 yz0 yz1 yz2 rfl (by omega) (.slice (some ⟨b3_2, 0, none⟩) 0 0) 0 [] rfl (own_empty E3_5.out (by have := D5.out; omega)) ⟨p3, q3, none⟩ 16 c3 (m.s.map Value.bool) rfl (by simpa using HX.out.2.2) (src_at (src_b (hl.out.below BW5.out).2.2)) (one_b _) (by omega) (by unfold maxLen; omega) (by omega) (by have := BW5.out.size; omega) _ rfl ?_
              intro g3_6 k3_6 W6 hown hgr hat hlt
              have kp := Kept.of_grown (S := fun i => i = b3_2) hgr (fun x h => by simpa [Value.ownBlock] using h.symm)
              have KA6 := Lib.hid (kp.blk KA5.out (by have := D5.out; omega))
              have KR6 := Lib.hid (kp.blk KR5.out (by have := D5.out; omega))
              have BW6 := Lib.hid (kp.below BW5.out BW5.out.size (fun x hx => by have := D5.out; have hx' : x = b3_2 := hx; omega))
              have R1_6 := Lib.hid (own_kept3 R1_5.out kp (by have := D5.out; omega))
              have R2_6 := Lib.hid (own_kept3 R2_5.out kp (by have := D5.out; omega))
              have R3_6 : Hid (W6.ownsRow w.heap.size 4 1 (.slice (some ⟨g3_6, 0, none⟩) 16 k3_6) 16 (m.s.map Value.bool)) := Lib.hid (by simpa using hown)
              have D6 : Hid (w.heap.size + 1 < W6.heap.size ∧ w.heap.size + 1 < g1_4 ∧ g1_4 < W6.heap.size ∧ w.heap.size + 1 < g2_5 ∧ g2_5 < W6.heap.size ∧ w.heap.size + 1 < g3_6 ∧ g3_6 < W6.heap.size ∧ g1_4 ≠ g2_5 ∧ g1_4 ≠ g3_6 ∧ g2_5 ≠ g3_6) := by
                have h0 := D5.out
                have hs := hgr.size
                show w.heap.size + 1 < W6.heap.size ∧ w.heap.size + 1 < g1_4 ∧ g1_4 < W6.heap.size ∧ w.heap.size + 1 < g2_5 ∧ g2_5 < W6.heap.size ∧ w.heap.size + 1 < g3_6 ∧ g3_6 < W6.heap.size ∧ g1_4 ≠ g2_5 ∧ g1_4 ≠ g3_6 ∧ g2_5 ≠ g3_6
                rcases hat with h | h
                · have h' : b3_2 = g3_6 := by simpa [Value.ownBlock] using h
                  omega
                · omega
              clear hown hgr hat hlt kp
              refine hK.out _ _ ?_ (fun hS6 => ?_)
              · exact own_S0 KA6.out
              clear hK K
              try simp only [Act.put, Nat.zero_add]
              refine wpAnyH_take (i := 14) (v := ?_) rfl (by kernel_rfl) (by kernel_rfl) (by kernel_rfl) (fun _ _ _ h => h) (Or.inl ⟨by rfl, ?_⟩) (by assumption) ?_
              rotate_left
              · intro W hSw
                try dsimp only at hSw
                go_simp
                try with_reducible rfl
              try simp only [Act.put]
              have v0 : W6.cell? ⟨w.heap.size + 1, 0, none⟩ = some (.int .i64 0) := KR6.out.there rfl
              have e0 := KR6.out.frozen 0
              have v1 : W6.cell? ⟨w.heap.size + 1, 1, none⟩ = some (.slice none 0 0) := KR6.out.there rfl
              have e1 := KR6.out.frozen 1
              have v2 : W6.cell? ⟨w.heap.size + 1, 2, none⟩ = some (.slice none 0 0) := KR6.out.there rfl
              have e2 := KR6.out.frozen 2
              have v3 : W6.cell? ⟨w.heap.size + 1, 3, none⟩ = some (.slice none 0 0) := KR6.out.there rfl
              have e3 := KR6.out.frozen 3
              refine wpAnyH_ready (rs := [15]) (by kernel_rfl) (by simp) ?_
              refine AllReadyH.cons rfl (fun K hK => ?_) AllReadyH.nil
              go_simp
              refine hK.out _ _ ?_ (fun hS2 => ?_)
              · exact own_S KA6.out
              clear hK K
              refine wpAnyH_done (by kernel_rfl) ?_ _
              go_wp2
              exact own_shut KR6.out ⟨R1_6.out, R2_6.out, R3_6.out, by have := D6.out; omega⟩ (by have := D6.out; omega) BW6.out (by simp [results, Tryd.results43, go_sem, v0, v1, v2, v3])
  · go_simp
    have hb := below1 W0 (.cells #[] 4)
    have KA1 := Lib.hid (KA0.out.below hb)
    have KR1 := Lib.hid (KR0.out.below hb)
    have BW1 := Lib.hid (Below.tr BW0.out hb)
    have E3_1 : Hid (Blk (W0.alloc (.cells #[] 4)) W0.heap.size 4 []) := Lib.hid (heap_alloc_new W0 _)
    have SZ : Hid ((W0.alloc (.cells #[] 4)).heap.size = W0.heap.size + 1) := Lib.hid (by simp)
    clear hb
    obtain ⟨b3_1, hb3_1⟩ : ∃ q, W0.heap.size = q := ⟨_, rfl⟩
    rw [hb3_1] at E3_1 SZ ⊢
    generalize W0.alloc (.cells #[] 4) = W1 at KA1 KR1 BW1 SZ E3_1 ⊢
    have D1 : Hid (w.heap.size + 1 < W1.heap.size ∧ w.heap.size + 1 < b3_1 ∧ b3_1 < W1.heap.size) := Lib.hid (by have := D0.out; have := SZ.out; omega)
    clear SZ hb3_1
    refine hK.out _ _ ?_ (fun hS1 => ?_)
    · exact own_S0 KA1.out
    clear hK K
    try simp only [Act.put, List.setIfInBounds_toArray, List.set_cons_zero, List.set_cons_succ, Nat.zero_add]
    refine wpAnyH_ready (rs := [2, 6]) (by kernel_rfl) (by simp) ?_
    refine AllReadyH.cons rfl (fun K hK => ?_) (AllReadyH.cons rfl (fun K hK => ?_) AllReadyH.nil)
    · go_simp
      have hb := below1 W1 (.cells #[] 3)
      have KA2 := Lib.hid (KA1.out.below hb)
      have KR2 := Lib.hid (KR1.out.below hb)
      have BW2 := Lib.hid (Below.tr BW1.out hb)
      have E3_2 := Lib.hid (E3_1.out.below hb)
      have E1_2 : Hid (Blk (W1.alloc (.cells #[] 3)) W1.heap.size 3 []) := Lib.hid (heap_alloc_new W1 _)
      have SZ : Hid ((W1.alloc (.cells #[] 3)).heap.size = W1.heap.size + 1) := Lib.hid (by simp)
      clear hb
      obtain ⟨b1_2, hb1_2⟩ : ∃ q, W1.heap.size = q := ⟨_, rfl⟩
      rw [hb1_2] at E1_2 SZ ⊢
      generalize W1.alloc (.cells #[] 3) = W2 at KA2 KR2 BW2 SZ E1_2 E3_2 ⊢
      have D2 : Hid (w.heap.size + 1 < W2.heap.size ∧ w.heap.size + 1 < b3_1 ∧ b3_1 < W2.heap.size ∧ w.heap.size + 1 < b1_2 ∧ b1_2 < W2.heap.size ∧ b3_1 ≠ b1_2) := Lib.hid (by have := D1.out; have := SZ.out; omega)
      clear SZ hb1_2
      refine hK.out _ _ ?_ (fun hS2 => ?_)
      · exact own_S0 KA2.out
      clear hK K
      try simp only [Act.put, List.setIfInBounds_toArray, List.set_cons_zero, List.set_cons_succ, Nat.zero_add]
      refine wpAnyH_ready (rs := [5, 6]) (by kernel_rfl) (by simp) ?_
      refine AllReadyH.cons rfl (fun K hK => ?_) (AllReadyH.cons rfl (fun K hK => ?_) AllReadyH.nil)
      · refine step_append_lies W2 rfl (.tmp 5) (.tmp 7) 24 rfl w.heap.size 3 i0 (.int .i64 0) 1 8 Tryd.underlying24 hi0 hz0 hz1 hz2 rfl (by omega) (.slice (some ⟨b1_2, 0, none⟩) 0 0) 0 [] rfl (own_empty E1_2.out (by have := D2.out; omega)) ⟨p1, q1, none⟩ 6 c1 (m.r.map (Value.int .i64)) rfl (by simpa using HX.out.1) (src_at (src_i (hl.out.below BW2.out).1)) (one_i _) (by omega) (by unfold maxLen; omega) (by omega) (by have := BW2.out.size; omega) _ rfl ?_
        intro g1_3 k1_3 W3 hown hgr hat hlt
        have kp := Kept.of_grown (S := fun i => i = b1_2) hgr (fun x h => by simpa [Value.ownBlock] using h.symm)
        have KA3 := Lib.hid (kp.blk KA2.out (by have := D2.out; omega))
        have KR3 := Lib.hid (kp.blk KR2.out (by have := D2.out; omega))
        have BW3 := Lib.hid (kp.below BW2.out BW2.out.size (fun x hx => by have := D2.out; have hx' : x = b1_2 := hx; omega))
        have E3_3 := Lib.hid (kp.blk E3_2.out (by have := D2.out; omega))
        have R1_3 : Hid (W3.ownsRow w.heap.size 3 1 (.slice (some ⟨g1_3, 0, none⟩) 6 k1_3) 6 (m.r.map (Value.int .i64))) := Lib.hid (by simpa using hown)
        have D3 : Hid (w.heap.size + 1 < W3.heap.size ∧ w.heap.size + 1 < b3_1 ∧ b3_1 < W3.heap.size ∧ w.heap.size + 1 < g1_3 ∧ g1_3 < W3.heap.size ∧ b3_1 ≠ g1_3) := by
          have h0 := D2.out
          have hs := hgr.size
          show w.heap.size + 1 < W3.heap.size ∧ w.heap.size + 1 < b3_1 ∧ b3_1 < W3.heap.size ∧ w.heap.size + 1 < g1_3 ∧ g1_3 < W3.heap.size ∧ b3_1 ≠ g1_3
          rcases hat with h | h
          · have h' : b1_2 = g1_3 := by simpa [Value.ownBlock] using h
            omega
          · omega
        clear hown hgr hat hlt kp
        refine hK.out _ _ ?_ (fun hS3 => ?_)
        · exact own_S0 KA3.out
        clear hK K
        try simp only [Act.put, List.setIfInBounds_toArray, Nat.zero_add]
        refine wpAnyH_ready (rs := [6]) (by kernel_rfl) (by simp) ?_
        refine AllReadyH.cons rfl (fun K hK => ?_) AllReadyH.nil
        · go_simp
          have hb := below1 W3 (.cells #[] 3)
          have KA4 := Lib.hid (KA3.out.below hb)
          have KR4 := Lib.hid (KR3.out.below hb)
          have BW4 := Lib.hid (Below.tr BW3.out hb)
          have R1_4 := Lib.hid (own_below R1_3.out hb)
          have E3_4 := Lib.hid (E3_3.out.below hb)
          have E2_4 : Hid (Blk (W3.alloc (.cells #[] 3)) W3.heap.size 3 []) := Lib.hid (heap_alloc_new W3 _)
          have SZ : Hid ((W3.alloc (.cells #[] 3)).heap.size = W3.heap.size + 1) := Lib.hid (by simp)
          clear hb
          obtain ⟨b2_4, hb2_4⟩ : ∃ q, W3.heap.size = q := ⟨_, rfl⟩
          rw [hb2_4] at E2_4 SZ ⊢
          generalize W3.alloc (.cells #[] 3) = W4 at KA4 KR4 BW4 SZ E2_4 E3_4 R1_4 ⊢
          have D4 : Hid (w.heap.size + 1 < W4.heap.size ∧ w.heap.size + 1 < g1_3 ∧ g1_3 < W4.heap.size ∧ w.heap.size + 1 < b3_1 ∧ b3_1 < W4.heap.size ∧ w.heap.size + 1 < b2_4 ∧ b2_4 < W4.heap.size ∧ g1_3 ≠ b3_1 ∧ g1_3 ≠ b2_4 ∧ b3_1 ≠ b2_4) := Lib.hid (by have := D3.out; have := SZ.out; omega)
          clear SZ hb2_4
          refine hK.out _ _ ?_ (fun hS4 => ?_)
          · exact own_S0 KA4.out
          clear hK K
          try simp only [Act.put, List.setIfInBounds_toArray, List.set_cons_zero, List.set_cons_succ, Nat.zero_add]
          refine wpAnyH_ready (rs := [9]) (by kernel_rfl) (by simp) ?_
          refine AllReadyH.cons rfl (fun K hK => ?_) AllReadyH.nil
          · refine step_append_lies W4 rfl (.tmp 9) (.tmp 11) 24 rfl w.heap.size 3 i0 (.int .i64 0) 1 8 Tryd.underlying24 hi0 hz0 hz1 hz2 rfl (by omega) (.slice (some ⟨b2_4, 0, none⟩) 0 0) 0 [] rfl (own_empty E2_4.out (by have := D4.out; omega)) ⟨p2, q2, none⟩ 16 c2 (m.c.map (Value.int .i64)) rfl (by simpa using HX.out.2.1) (src_at (src_i (hl.out.below BW4.out).2.1)) (one_i _) (by omega) (by unfold maxLen; omega) (by omega) (by have := BW4.out.size; omega) _ rfl ?_
            intro g2_5 k2_5 W5 hown hgr hat hlt
            have kp := Kept.of_grown (S := fun i => i = b2_4) hgr (fun x h => by simpa [Value.ownBlock] using h.symm)
            have KA5 := Lib.hid (kp.blk KA4.out (by have := D4.out; omega))
            have KR5 := Lib.hid (kp.blk KR4.out (by have := D4.out; omega))
            have BW5 := Lib.hid (kp.below BW4.out BW4.out.size (fun x hx => by have := D4.out; have hx' : x = b2_4 := hx; omega))
            have R1_5 := Lib.hid (own_kept3 R1_4.out kp (by have := D4.out; omega))
            have E3_5 := Lib.hid (kp.blk E3_4.out (by have := D4.out; omega))
            have R2_5 : Hid (W5.ownsRow w.heap.size 3 1 (.slice (some ⟨g2_5, 0, none⟩) 16 k2_5) 16 (m.c.map (Value.int .i64))) := Lib.hid (by simpa using hown)
            have D5 : Hid (w.heap.size + 1 < W5.heap.size ∧ w.heap.size + 1 < g1_3 ∧ g1_3 < W5.heap.size ∧ w.heap.size + 1 < b3_1 ∧ b3_1 < W5.heap.size ∧ w.heap.size + 1 < g2_5 ∧ g2_5 < W5.heap.size ∧ g1_3 ≠ b3_1 ∧ g1_3 ≠ g2_5 ∧ b3_1 ≠ g2_5) := by
              have h0 := D4.out
              have hs := hgr.size
              show w.heap.size + 1 < W5.heap.size ∧ w.heap.size + 1 < g1_3 ∧ g1_3 < W5.heap.size ∧ w.heap.size + 1 < b3_1 ∧ b3_1 < W5.heap.size ∧ w.heap.size + 1 < g2_5 ∧ g2_5 < W5.heap.size ∧ g1_3 ≠ b3_1 ∧ g1_3 ≠ g2_5 ∧ b3_1 ≠ g2_5
              rcases hat with h | h
              · have h' : b2_4 = g2_5 := by simpa [Value.ownBlock] using h
                omega
              · omega
            clear hown hgr hat hlt kp
            refine hK.out _ _ ?_ (fun hS5 => ?_)
            · exact own_S0 KA5.out
            clear hK K
            try simp only [Act.put, List.setIfInBounds_toArray, Nat.zero_add]
            refine wpAnyH_ready (rs := [13]) (by kernel_rfl) (by simp) ?_
            refine AllReadyH.cons rfl (fun K hK => ?_) AllReadyH.nil
            · refine step_append_lies W5 rfl (.tmp 13) (.tmp 15) 25 rfl w.heap.size 4 j0 (.bool false) 1 1 Tryd.underlying25 yi0 yz0 yz1 yz2 rfl (by omega) (.slice (some ⟨b3_1, 0, none⟩) 0 0) 0 [] rfl (own_empty E3_5.out (by have := D5.out; omega)) ⟨p3, q3, none⟩ 16 c3 (m.s.map Value.bool) rfl (by simpa using HX.out.2.2) (src_at (src_b (hl.out.below BW5.out).2.2)) (one_b _) (by omega) (by unfold maxLen; omega) (by omega) (by have := BW5.out.size; omega) _ rfl ?_
              intro g3_6 k3_6 W6 hown hgr hat hlt
              have kp := Kept.of_grown (S := fun i => i = b3_1) hgr (fun x h => by simpa [Value.ownBlock] using h.symm)
              have KA6 := Lib.hid (kp.blk KA5.out (by have := D5.out; omega))
              have KR6 := Lib.hid (kp.blk KR5.out (by have := D5.out; omega))
              have BW6 := Lib.hid (kp.below BW5.out BW5.out.size (fun x hx => by have := D5.out; have hx' : x = b3_1 := hx; omega))
              have R1_6 := Lib.hid (own_kept3 R1_5.out kp (by have := D5.out; omega))
              have R2_6 := Lib.hid (own_kept3 R2_5.out kp (by have := D5.out; omega))
              have R3_6 : Hid (W6.ownsRow w.heap.size 4 1 (.slice (some ⟨g3_6, 0, none⟩) 16 k3_6) 16 (m.s.map Value.bool)) := Lib.hid (by simpa using hown)
              have D6 : Hid (w.heap.size + 1 < W6.heap.size ∧ w.heap.size + 1 < g1_3 ∧ g1_3 < W6.heap.size ∧ w.heap.size + 1 < g2_5 ∧ g2_5 < W6.heap.size ∧ w.heap.size + 1 < g3_6 ∧ g3_6 < W6.heap.size ∧ g1_3 ≠ g2_5 ∧ g1_3 ≠ g3_6 ∧ g2_5 ≠ g3_6) := by
                have h0 := D5.out
                have hs := hgr.size
                show w.heap.size + 1 < W6.heap.size ∧ w.heap.size + 1 < g1_3 ∧ g1_3 < W6.heap.size ∧ w.heap.size + 1 < g2_5 ∧ g2_5 < W6.heap.size ∧ w.heap.size + 1 < g3_6 ∧ g3_6 < W6.heap.size ∧ g1_3 ≠ g2_5 ∧ g1_3 ≠ g3_6 ∧ g2_5 ≠ g3_6
                rcases hat with h | h
                · have h' : b3_1 = g3_6 := by simpa [Value.ownBlock] using h
                  omega
                · omega
              clear hown hgr hat hlt kp
              refine hK.out _ _ ?_ (fun hS6 => ?_)
              · exact own_S0 KA6.out
              clear hK K
              try simp only [Act.put, Nat.zero_add]
              refine wpAnyH_take (i := 14) (v := ?_) rfl (by kernel_rfl) (by kernel_rfl) (by kernel_rfl) (fun _ _ _ h => h) (Or.inl ⟨by rfl, ?_⟩) (by assumption) ?_
              rotate_left
              · intro W hSw
                try dsimp only at hSw
                go_simp
                try with_reducible rfl
              try simp only [Act.put]
              have v0 : W6.cell? ⟨w.heap.size + 1, 0, none⟩ = some (.int .i64 0) := KR6.out.there rfl
              have e0 := KR6.out.frozen 0
              have v1 : W6.cell? ⟨w.heap.size + 1, 1, none⟩ = some (.slice none 0 0) := KR6.out.there rfl
              have e1 := KR6.out.frozen 1
              have v2 : W6.cell? ⟨w.heap.size + 1, 2, none⟩ = some (.slice none 0 0) := KR6.out.there rfl
              have e2 := KR6.out.frozen 2
              have v3 : W6.cell? ⟨w.heap.size + 1, 3, none⟩ = some (.slice none 0 0) := KR6.out.there rfl
              have e3 := KR6.out.frozen 3
              refine wpAnyH_ready (rs := [15]) (by kernel_rfl) (by simp) ?_
              refine AllReadyH.cons rfl (fun K hK => ?_) AllReadyH.nil
              go_simp
              refine hK.out _ _ ?_ (fun hS2 => ?_)
              · exact own_S KA6.out
              clear hK K
              refine wpAnyH_done (by kernel_rfl) ?_ _
              go_wp2
              exact own_shut KR6.out ⟨R1_6.out, R2_6.out, R3_6.out, by have := D6.out; omega⟩ (by have := D6.out; omega) BW6.out (by simp [results, Tryd.results43, go_sem, v0, v1, v2, v3])
      · go_simp
        have hb := below1 W2 (.cells #[] 3)
        have KA3 := Lib.hid (KA2.out.below hb)
        have KR3 := Lib.hid (KR2.out.below hb)
        have BW3 := Lib.hid (Below.tr BW2.out hb)
        have E1_3 := Lib.hid (E1_2.out.below hb)
        have E3_3 := Lib.hid (E3_2.out.below hb)
        have E2_3 : Hid (Blk (W2.alloc (.cells #[] 3)) W2.heap.size 3 []) := Lib.hid (heap_alloc_new W2 _)
        have SZ : Hid ((W2.alloc (.cells #[] 3)).heap.size = W2.heap.size + 1) := Lib.hid (by simp)
        clear hb
        obtain ⟨b2_3, hb2_3⟩ : ∃ q, W2.heap.size = q := ⟨_, rfl⟩
        rw [hb2_3] at E2_3 SZ ⊢
        generalize W2.alloc (.cells #[] 3) = W3 at KA3 KR3 BW3 SZ E1_3 E2_3 E3_3 ⊢
        have D3 : Hid (w.heap.size + 1 < W3.heap.size ∧ w.heap.size + 1 < b1_2 ∧ b1_2 < W3.heap.size ∧ w.heap.size + 1 < b3_1 ∧ b3_1 < W3.heap.size ∧ w.heap.size + 1 < b2_3 ∧ b2_3 < W3.heap.size ∧ b1_2 ≠ b3_1 ∧ b1_2 ≠ b2_3 ∧ b3_1 ≠ b2_3) := Lib.hid (by have := D2.out; have := SZ.out; omega)
        clear SZ hb2_3
        refine hK.out _ _ ?_ (fun hS3 => ?_)
        · exact own_S0 KA3.out
        clear hK K
        try simp only [Act.put, List.setIfInBounds_toArray, List.set_cons_zero, List.set_cons_succ, Nat.zero_add]
        refine wpAnyH_ready (rs := [5]) (by kernel_rfl) (by simp) ?_
        refine AllReadyH.cons rfl (fun K hK => ?_) AllReadyH.nil
        · refine step_append_lies W3 rfl (.tmp 5) (.tmp 7) 24 rfl w.heap.size 3 i0 (.int .i64 0) 1 8 Tryd.underlying24 hi0 hz0 hz1 hz2 rfl (by omega) (.slice (some ⟨b1_2, 0, none⟩) 0 0) 0 [] rfl (own_empty E1_3.out (by have := D3.out; omega)) ⟨p1, q1, none⟩ 6 c1 (m.r.map (Value.int .i64)) rfl (by simpa using HX.out.1) (src_at (src_i (hl.out.below BW3.out).1)) (one_i _) (by omega) (by unfold maxLen; omega) (by omega) (by have := BW3.out.size; omega) _ rfl ?_
          intro g1_4 k1_4 W4 hown hgr hat hlt
          have kp := Kept.of_grown (S := fun i => i = b1_2) hgr (fun x h => by simpa [Value.ownBlock] using h.symm)
          have KA4 := Lib.hid (kp.blk KA3.out (by have := D3.out; omega))
          have KR4 := Lib.hid (kp.blk KR3.out (by have := D3.out; omega))
          have BW4 := Lib.hid (kp.below BW3.out BW3.out.size (fun x hx => by have := D3.out; have hx' : x = b1_2 := hx; omega))
          have E2_4 := Lib.hid (kp.blk E2_3.out (by have := D3.out; omega))
          have E3_4 := Lib.hid (kp.blk E3_3.out (by have := D3.out; omega))
          have R1_4 : Hid (W4.ownsRow w.heap.size 3 1 (.slice (some ⟨g1_4, 0, none⟩) 6 k1_4) 6 (m.r.map (Value.int .i64))) := Lib.hid (by simpa using hown)
          have D4 : Hid (w.heap.size + 1 < W4.heap.size ∧ w.heap.size + 1 < b2_3 ∧ b2_3 < W4.heap.size ∧ w.heap.size + 1 < b3_1 ∧ b3_1 < W4.heap.size ∧ w.heap.size + 1 < g1_4 ∧ g1_4 < W4.heap.size ∧ b2_3 ≠ b3_1 ∧ b2_3 ≠ g1_4 ∧ b3_1 ≠ g1_4) := by
            have h0 := D3.out
            have hs := hgr.size
            show w.heap.size + 1 < W4.heap.size ∧ w.heap.size + 1 < b2_3 ∧ b2_3 < W4.heap.size ∧ w.heap.size + 1 < b3_1 ∧ b3_1 < W4.heap.size ∧ w.heap.size + 1 < g1_4 ∧ g1_4 < W4.heap.size ∧ b2_3 ≠ b3_1 ∧ b2_3 ≠ g1_4 ∧ b3_1 ≠ g1_4
            rcases hat with h | h
            · have h' : b1_2 = g1_4 := by simpa [Value.ownBlock] using h
              omega
            · omega
          clear hown hgr hat hlt kp
          refine hK.out _ _ ?_ (fun hS4 => ?_)
          · exact own_S0 KA4.out
          clear hK K
          try simp only [Act.put, List.setIfInBounds_toArray, Nat.zero_add]
          refine wpAnyH_ready (rs := [9]) (by kernel_rfl) (by simp) ?_
          refine AllReadyH.cons rfl (fun K hK => ?_) AllReadyH.nil
          · refine step_append_lies W4 rfl (.tmp 9) (.tmp 11) 24 rfl w.heap.size 3 i0 (.int .i64 0) 1 8 Tryd.underlying24 hi0 hz0 hz1 hz2 rfl (by omega) (.slice (some ⟨b2_3, 0, none⟩) 0 0) 0 [] rfl (own_empty E2_4.out (by have := D4.out; omega)) ⟨p2, q2, none⟩ 16 c2 (m.c.map (Value.int .i64)) rfl (by simpa using HX.out.2.1) (src_at (src_i (hl.out.below BW4.out).2.1)) (one_i _) (by omega) (by unfold maxLen; omega) (by omega) (by have := BW4.out.size; omega) _ rfl ?_
            intro g2_5 k2_5 W5 hown hgr hat hlt
            have kp := Kept.of_grown (S := fun i => i = b2_3) hgr (fun x h => by simpa [Value.ownBlock] using h.symm)
            have KA5 := Lib.hid (kp.blk KA4.out (by have := D4.out; omega))
            have KR5 := Lib.hid (kp.blk KR4.out (by have := D4.out; omega))
            have BW5 := Lib.hid (kp.below BW4.out BW4.out.size (fun x hx => by have := D4.out; have hx' : x = b2_3 := hx; omega))
            have R1_5 := Lib.hid (own_kept3 R1_4.out kp (by have := D4.out; omega))
            have E3_5 := Lib.hid (kp.blk E3_4.out (by have := D4.out; omega))
            have R2_5 : Hid (W5.ownsRow w.heap.size 3 1 (.slice (some ⟨g2_5, 0, none⟩) 16 k2_5) 16 (m.c.map (Value.int .i64))) := Lib.hid (by simpa using hown)
            have D5 : Hid (w.heap.size + 1 < W5.heap.size ∧ w.heap.size + 1 < g1_4 ∧ g1_4 < W5.heap.size ∧ w.heap.size + 1 < b3_1 ∧ b3_1 < W5.heap.size ∧ w.heap.size + 1 < g2_5 ∧ g2_5 < W5.heap.size ∧ g1_4 ≠ b3_1 ∧ g1_4 ≠ g2_5 ∧ b3_1 ≠ g2_5) := by
              have h0 := D4.out
              have hs := hgr.size
              show w.heap.size + 1 < W5.heap.size ∧ w.heap.size + 1 < g1_4 ∧ g1_4 < W5.heap.size ∧ w.heap.size + 1 < b3_1 ∧ b3_1 < W5.heap.size ∧ w.heap.size + 1 < g2_5 ∧ g2_5 < W5.heap.size ∧ g1_4 ≠ b3_1 ∧ g1_4 ≠ g2_5 ∧ b3_1 ≠ g2_5
              rcases hat with h | h
              · have h' : b2_3 = g2_5 := by simpa [Value.ownBlock] using h
                omega
              · omega
            clear hown hgr hat hlt kp
            refine hK.out _ _ ?_ (fun hS5 => ?_)
            · exact own_S0 KA5.out
            clear hK K
            try simp only [Act.put, Nat.zero_add]
            refine wpAnyH_ready (rs := [13]) (by kernel_rfl) (by simp) ?_
            refine AllReadyH.cons rfl (fun K hK => ?_) AllReadyH.nil
            · refine step_append_lies W5 rfl (.tmp 13) (.tmp 15) 25 rfl w.heap.size 4 j0 (.bool false) 1 1 Tryd.underlying25 yi0 yz0 yz1 yz2 rfl (by omega) (.slice (some ⟨b3_1, 0, none⟩) 0 0) 0 [] rfl (own_empty E3_5.out (by have := D5.out; omega)) ⟨p3, q3, none⟩ 16 c3 (m.s.map Value.bool) rfl (by simpa using HX.out.2.2) (src_at (src_b (hl.out.below BW5.out).2.2)) (one_b _) (by omega) (by unfold maxLen; omega) (by omega) (by have := BW5.out.size; omega) _ rfl ?_
              intro g3_6 k3_6 W6 hown hgr hat hlt
              have kp := Kept.of_grown (S := fun i => i = b3_1) hgr (fun x h => by simpa [Value.ownBlock] using h.symm)
              have KA6 := Lib.hid (kp.blk KA5.out (by have := D5.out; omega))
              have KR6 := Lib.hid (kp.blk KR5.out (by have := D5.out; omega))
              have BW6 := Lib.hid (kp.below BW5.out BW5.out.size (fun x hx => by have := D5.out; have hx' : x = b3_1 := hx; omega))
              have R1_6 := Lib.hid (own_kept3 R1_5.out kp (by have := D5.out; omega))
              have R2_6 := Lib.hid (own_kept3 R2_5.out kp (by have := D5.out; omega))
              have R3_6 : Hid (W6.ownsRow w.heap.size 4 1 (.slice (some ⟨g3_6, 0, none⟩) 16 k3_6) 16 (m.s.map Value.bool)) := Lib.hid (by simpa using hown)
              have D6 : Hid (w.heap.size + 1 < W6.heap.size ∧ w.heap.size + 1 < g1_4 ∧ g1_4 < W6.heap.size ∧ w.heap.size + 1 < g2_5 ∧ g2_5 < W6.heap.size ∧ w.heap.size + 1 < g3_6 ∧ g3_6 < W6.heap.size ∧ g1_4 ≠ g2_5 ∧ g1_4 ≠ g3_6 ∧ g2_5 ≠ g3_6) := by
                have h0 := D5.out
                have hs := hgr.size
                show w.heap.size + 1 < W6.heap.size ∧ w.heap.size + 1 < g1_4 ∧ g1_4 < W6.heap.size ∧ w.heap.size + 1 < g2_5 ∧ g2_5 < W6.heap.size ∧ w.heap.size + 1 < g3_6 ∧ g3_6 < W6.heap.size ∧ g1_4 ≠ g2_5 ∧ g1_4 ≠ g3_6 ∧ g2_5 ≠ g3_6
                rcases hat with h | h
                · have h' : b3_1 = g3_6 := by simpa [Value.ownBlock] using h
                  omega
                · omega
              clear hown hgr hat hlt kp
              refine hK.out _ _ ?_ (fun hS6 => ?_)
              · exact own_S0 KA6.out
              clear hK K
              try simp only [Act.put, Nat.zero_add]
              refine wpAnyH_take (i := 14) (v := ?_) rfl (by kernel_rfl) (by kernel_rfl) (by kernel_rfl) (fun _ _ _ h => h) (Or.inl ⟨by rfl, ?_⟩) (by assumption) ?_
              rotate_left
              · intro W hSw
                try dsimp only at hSw
                go_simp
                try with_reducible rfl
              try simp only [Act.put]
              have v0 : W6.cell? ⟨w.heap.size + 1, 0, none⟩ = some (.int .i64 0) := KR6.out.there rfl
              have e0 := KR6.out.frozen 0
              have v1 : W6.cell? ⟨w.heap.size + 1, 1, none⟩ = some (.slice none 0 0) := KR6.out.there rfl
              have e1 := KR6.out.frozen 1
              have v2 : W6.cell? ⟨w.heap.size + 1, 2, none⟩ = some (.slice none 0 0) := KR6.out.there rfl
              have e2 := KR6.out.frozen 2
              have v3 : W6.cell? ⟨w.heap.size + 1, 3, none⟩ = some (.slice none 0 0) := KR6.out.there rfl
              have e3 := KR6.out.frozen 3
              refine wpAnyH_ready (rs := [15]) (by kernel_rfl) (by simp) ?_
              refine AllReadyH.cons rfl (fun K hK => ?_) AllReadyH.nil
              go_simp
              refine hK.out _ _ ?_ (fun hS2 => ?_)
              · exact own_S KA6.out
              clear hK K
              refine wpAnyH_done (by kernel_rfl) ?_ _
              go_wp2
              exact own_shut KR6.out ⟨R1_6.out, R2_6.out, R3_6.out, by have := D6.out; omega⟩ (by have := D6.out; omega) BW6.out (by simp [results, Tryd.results43, go_sem, v0, v1, v2, v3])
    · go_simp
      have hb := below1 W1 (.cells #[] 3)
      have KA2 := Lib.hid (KA1.out.below hb)
      have KR2 := Lib.hid (KR1.out.below hb)
      have BW2 := Lib.hid (Below.tr BW1.out hb)
      have E3_2 := Lib.hid (E3_1.out.below hb)
      have E2_2 : Hid (Blk (W1.alloc (.cells #[] 3)) W1.heap.size 3 []) := Lib.hid (heap_alloc_new W1 _)
      have SZ : Hid ((W1.alloc (.cells #[] 3)).heap.size = W1.heap.size + 1) := Lib.hid (by simp)
      clear hb
      obtain ⟨b2_2, hb2_2⟩ : ∃ q, W1.heap.size = q := ⟨_, rfl⟩
      rw [hb2_2] at E2_2 SZ ⊢
      generalize W1.alloc (.cells #[] 3) = W2 at KA2 KR2 BW2 SZ E2_2 E3_2 ⊢
      have D2 : Hid (w.heap.size + 1 < W2.heap.size ∧ w.heap.size + 1 < b3_1 ∧ b3_1 < W2.heap.size ∧ w.heap.size + 1 < b2_2 ∧ b2_2 < W2.heap.size ∧ b3_1 ≠ b2_2) := Lib.hid (by have := D1.out; have := SZ.out; omega)
      clear SZ hb2_2
      refine hK.out _ _ ?_ (fun hS2 => ?_)
      · exact own_S0 KA2.out
      clear hK K
      try simp only [Act.put, List.setIfInBounds_toArray, List.set_cons_zero, List.set_cons_succ, Nat.zero_add]
      refine wpAnyH_ready (rs := [2]) (by kernel_rfl) (by simp) ?_
      refine AllReadyH.cons rfl (fun K hK => ?_) AllReadyH.nil
      · go_simp
        have hb := below1 W2 (.cells #[] 3)
        have KA3 := Lib.hid (KA2.out.below hb)
        have KR3 := Lib.hid (KR2.out.below hb)
        have BW3 := Lib.hid (Below.tr BW2.out hb)
        have E2_3 := Lib.hid (E2_2.out.below hb)
        have E3_3 := Lib.hid (E3_2.out.below hb)
        have E1_3 : Hid (Blk (W2.alloc (.cells #[] 3)) W2.heap.size 3 []) := Lib.hid (heap_alloc_new W2 _)
        have SZ : Hid ((W2.alloc (.cells #[] 3)).heap.size = W2.heap.size + 1) := Lib.hid (by simp)
        clear hb
        obtain ⟨b1_3, hb1_3⟩ : ∃ q, W2.heap.size = q := ⟨_, rfl⟩
        rw [hb1_3] at E1_3 SZ ⊢
        generalize W2.alloc (.cells #[] 3) = W3 at KA3 KR3 BW3 SZ E1_3 E2_3 E3_3 ⊢
        have D3 : Hid (w.heap.size + 1 < W3.heap.size ∧ w.heap.size + 1 < b2_2 ∧ b2_2 < W3.heap.size ∧ w.heap.size + 1 < b3_1 ∧ b3_1 < W3.heap.size ∧ w.heap.size + 1 < b1_3 ∧ b1_3 < W3.heap.size ∧ b2_2 ≠ b3_1 ∧ b2_2 ≠ b1_3 ∧ b3_1 ≠ b1_3) := Lib.hid (by have := D2.out; have := SZ.out; omega)
        clear SZ hb1_3
        refine hK.out _ _ ?_ (fun hS3 => ?_)
        · exact own_S0 KA3.out
        clear hK K
        try simp only [Act.put, List.setIfInBounds_toArray, List.set_cons_zero, List.set_cons_succ, Nat.zero_add]
        refine wpAnyH_ready (rs := [5]) (by kernel_rfl) (by simp) ?_
        refine AllReadyH.cons rfl (fun K hK => ?_) AllReadyH.nil
        · refine step_append_lies W3 rfl (.tmp 5) (.tmp 7) 24 rfl w.heap.size 3 i0 (.int .i64 0) 1 8 Tryd.underlying24 hi0 hz0 hz1 hz2 rfl (by omega) (.slice (some ⟨b1_3, 0, none⟩) 0 0) 0 [] rfl (own_empty E1_3.out (by have := D3.out; omega)) ⟨p1, q1, none⟩ 6 c1 (m.r.map (Value.int .i64)) rfl (by simpa using HX.out.1) (src_at (src_i (hl.out.below BW3.out).1)) (one_i _) (by omega) (by unfold maxLen; omega) (by omega) (by have := BW3.out.size; omega) _ rfl ?_
          intro g1_4 k1_4 W4 hown hgr hat hlt
          have kp := Kept.of_grown (S := fun i => i = b1_3) hgr (fun x h => by simpa [Value.ownBlock] using h.symm)
          have KA4 := Lib.hid (kp.blk KA3.out (by have := D3.out; omega))
          have KR4 := Lib.hid (kp.blk KR3.out (by have := D3.out; omega))
          have BW4 := Lib.hid (kp.below BW3.out BW3.out.size (fun x hx => by have := D3.out; have hx' : x = b1_3 := hx; omega))
          have E2_4 := Lib.hid (kp.blk E2_3.out (by have := D3.out; omega))
          have E3_4 := Lib.hid (kp.blk E3_3.out (by have := D3.out; omega))
          have R1_4 : Hid (W4.ownsRow w.heap.size 3 1 (.slice (some ⟨g1_4, 0, none⟩) 6 k1_4) 6 (m.r.map (Value.int .i64))) := Lib.hid (by simpa using hown)
          have D4 : Hid (w.heap.size + 1 < W4.heap.size ∧ w.heap.size + 1 < b2_2 ∧ b2_2 < W4.heap.size ∧ w.heap.size + 1 < b3_1 ∧ b3_1 < W4.heap.size ∧ w.heap.size + 1 < g1_4 ∧ g1_4 < W4.heap.size ∧ b2_2 ≠ b3_1 ∧ b2_2 ≠ g1_4 ∧ b3_1 ≠ g1_4) := by
            have h0 := D3.out
            have hs := hgr.size
            show w.heap.size + 1 < W4.heap.size ∧ w.heap.size + 1 < b2_2 ∧ b2_2 < W4.heap.size ∧ w.heap.size + 1 < b3_1 ∧ b3_1 < W4.heap.size ∧ w.heap.size + 1 < g1_4 ∧ g1_4 < W4.heap.size ∧ b2_2 ≠ b3_1 ∧ b2_2 ≠ g1_4 ∧ b3_1 ≠ g1_4
            rcases hat with h | h
            · have h' : b1_3 = g1_4 := by simpa [Value.ownBlock] using h
              omega
            · omega
          clear hown hgr hat hlt kp
          refine hK.out _ _ ?_ (fun hS4 => ?_)
          · exact own_S0 KA4.out
          clear hK K
          try simp only [Act.put, List.setIfInBounds_toArray, Nat.zero_add]
          refine wpAnyH_ready (rs := [9]) (by kernel_rfl) (by simp) ?_
          refine AllReadyH.cons rfl (fun K hK => ?_) AllReadyH.nil
          · refine step_append_lies W4 rfl (.tmp 9) (.tmp 11) 24 rfl w.heap.size 3 i0 (.int .i64 0) 1 8 Tryd.underlying24 hi0 hz0 hz1 hz2 rfl (by omega) (.slice (some ⟨b2_2, 0, none⟩) 0 0) 0 [] rfl (own_empty E2_4.out (by have := D4.out; omega)) ⟨p2, q2, none⟩ 16 c2 (m.c.map (Value.int .i64)) rfl (by simpa using HX.out.2.1) (src_at (src_i (hl.out.below BW4.out).2.1)) (one_i _) (by omega) (by unfold maxLen; omega) (by omega) (by have := BW4.out.size; omega) _ rfl ?_
            intro g2_5 k2_5 W5 hown hgr hat hlt
            have kp := Kept.of_grown (S := fun i => i = b2_2) hgr (fun x h => by simpa [Value.ownBlock] using h.symm)
            have KA5 := Lib.hid (kp.blk KA4.out (by have := D4.out; omega))
            have KR5 := Lib.hid (kp.blk KR4.out (by have := D4.out; omega))
            have BW5 := Lib.hid (kp.below BW4.out BW4.out.size (fun x hx => by have := D4.out; have hx' : x = b2_2 := hx; omega))
            have R1_5 := Lib.hid (own_kept3 R1_4.out kp (by have := D4.out; omega))
            have E3_5 := Lib.hid (kp.blk E3_4.out (by have := D4.out; omega))
            have R2_5 : Hid (W5.ownsRow w.heap.size 3 1 (.slice (some ⟨g2_5, 0, none⟩) 16 k2_5) 16 (m.c.map (Value.int .i64))) := Lib.hid (by simpa using hown)
            have D5 : Hid (w.heap.size + 1 < W5.heap.size ∧ w.heap.size + 1 < g1_4 ∧ g1_4 < W5.heap.size ∧ w.heap.size + 1 < b3_1 ∧ b3_1 < W5.heap.size ∧ w.heap.size + 1 < g2_5 ∧ g2_5 < W5.heap.size ∧ g1_4 ≠ b3_1 ∧ g1_4 ≠ g2_5 ∧ b3_1 ≠ g2_5) := by
              have h0 := D4.out
              have hs := hgr.size
              show w.heap.size + 1 < W5.heap.size ∧ w.heap.size + 1 < g1_4 ∧ g1_4 < W5.heap.size ∧ w.heap.size + 1 < b3_1 ∧ b3_1 < W5.heap.size ∧ w.heap.size + 1 < g2_5 ∧ g2_5 < W5.heap.size ∧ g1_4 ≠ b3_1 ∧ g1_4 ≠ g2_5 ∧ b3_1 ≠ g2_5
              rcases hat with h | h
              · have h' : b2_2 = g2_5 := by simpa [Value.ownBlock] using h
                omega
              · omega
            clear hown hgr hat hlt kp
            refine hK.out _ _ ?_ (fun hS5 => ?_)
            · exact own_S0 KA5.out
            clear hK K
            try simp only [Act.put, Nat.zero_add]
            refine wpAnyH_ready (rs := [13]) (by kernel_rfl) (by simp) ?_
            refine AllReadyH.cons rfl (fun K hK => ?_) AllReadyH.nil
            · refine step_append_lies W5 rfl (.tmp 13) (.tmp 15) 25 rfl w.heap.size 4 j0 (.bool false) 1 1 Tryd.underlying25 yi0 yz0 yz1 yz2 rfl (by omega) (.slice (some ⟨b3_1, 0, none⟩) 0 0) 0 [] rfl (own_empty E3_5.out (by have := D5.out; omega)) ⟨p3, q3, none⟩ 16 c3 (m.s.map Value.bool) rfl (by simpa using HX.out.2.2) (src_at (src_b (hl.out.below BW5.out).2.2)) (one_b _) (by omega) (by unfold maxLen; omega) (by omega) (by have := BW5.out.size; omega) _ rfl ?_
              intro g3_6 k3_6 W6 hown hgr hat hlt
              have kp := Kept.of_grown (S := fun i => i = b3_1) hgr (fun x h => by simpa [Value.ownBlock] using h.symm)
              have KA6 := Lib.hid (kp.blk KA5.out (by have := D5.out; omega))
              have KR6 := Lib.hid (kp.blk KR5.out (by have := D5.out; omega))
              have BW6 := Lib.hid (kp.below BW5.out BW5.out.size (fun x hx => by have := D5.out; have hx' : x = b3_1 := hx; omega))
              have R1_6 := Lib.hid (own_kept3 R1_5.out kp (by have := D5.out; omega))
              have R2_6 := Lib.hid (own_kept3 R2_5.out kp (by have := D5.out; omega))
              have R3_6 : Hid (W6.ownsRow w.heap.size 4 1 (.slice (some ⟨g3_6, 0, none⟩) 16 k3_6) 16 (m.s.map Value.bool)) := Lib.hid (by simpa using hown)
              have D6 : Hid (w.heap.size + 1 < W6.heap.size ∧ w.heap.size + 1 < g1_4 ∧ g1_4 < W6.heap.size ∧ w.heap.size + 1 < g2_5 ∧ g2_5 < W6.heap.size ∧ w.heap.size + 1 < g3_6 ∧ g3_6 < W6.heap.size ∧ g1_4 ≠ g2_5 ∧ g1_4 ≠ g3_6 ∧ g2_5 ≠ g3_6) := by
                have h0 := D5.out
                have hs := hgr.size
                show w.heap.size + 1 < W6.heap.size ∧ w.heap.size + 1 < g1_4 ∧ g1_4 < W6.heap.size ∧ w.heap.size + 1 < g2_5 ∧ g2_5 < W6.heap.size ∧ w.heap.size + 1 < g3_6 ∧ g3_6 < W6.heap.size ∧ g1_4 ≠ g2_5 ∧ g1_4 ≠ g3_6 ∧ g2_5 ≠ g3_6
                rcases hat with h | h
                · have h' : b3_1 = g3_6 := by simpa [Value.ownBlock] using h
                  omega
                · omega
              clear hown hgr hat hlt kp
              refine hK.out _ _ ?_ (fun hS6 => ?_)
              · exact own_S0 KA6.out
              clear hK K
              try simp only [Act.put, Nat.zero_add]
              refine wpAnyH_take (i := 14) (v := ?_) rfl (by kernel_rfl) (by kernel_rfl) (by kernel_rfl) (fun _ _ _ h => h) (Or.inl ⟨by rfl, ?_⟩) (by assumption) ?_
              rotate_left
              · intro W hSw
                try dsimp only at hSw
                go_simp
                try with_reducible rfl
              try simp only [Act.put]
              have v0 : W6.cell? ⟨w.heap.size + 1, 0, none⟩ = some (.int .i64 0) := KR6.out.there rfl
              have e0 := KR6.out.frozen 0
              have v1 : W6.cell? ⟨w.heap.size + 1, 1, none⟩ = some (.slice none 0 0) := KR6.out.there rfl
              have e1 := KR6.out.frozen 1
              have v2 : W6.cell? ⟨w.heap.size + 1, 2, none⟩ = some (.slice none 0 0) := KR6.out.there rfl
              have e2 := KR6.out.frozen 2
              have v3 : W6.cell? ⟨w.heap.size + 1, 3, none⟩ = some (.slice none 0 0) := KR6.out.there rfl
              have e3 := KR6.out.frozen 3
              refine wpAnyH_ready (rs := [15]) (by kernel_rfl) (by simp) ?_
              refine AllReadyH.cons rfl (fun K hK => ?_) AllReadyH.nil
              go_simp
              refine hK.out _ _ ?_ (fun hS2 => ?_)
              · exact own_S KA6.out
              clear hK K
              refine wpAnyH_done (by kernel_rfl) ?_ _
              go_wp2
              exact own_shut KR6.out ⟨R1_6.out, R2_6.out, R3_6.out, by have := D6.out; omega⟩ (by have := D6.out; omega) BW6.out (by simp [results, Tryd.results43, go_sem, v0, v1, v2, v3])
end Go.Proofs.YtkffggnajoohfaaDoor
