/-
  The drawing of clauses.
-/
import Derived.Test.YtklcfbjaodildaaDrawCl
namespace Go.Proofs.Ytklcfbjaodildaa
open Go.ChangeShapes Go.WideShapes Go.ChangeAt Go.RowKit

/-- it answers clauses of its own, drawn, and how many variables there are -/
def GaveCl (c K : Nat) (w : World) (e : Ending) (w' : World) : Prop :=
  ∃ (v : Int) (L : List (List Int)) (A : Option Addr) (cap : Nat) (vs : List Value), e = .returned (.tuple #[.int .i64 v, .slice A L.length cap]) ∧ (0 ≤ v ∧ v ≤ 13) ∧ L.length ≤ 13 ∧ tot L ≤ 100 ∧
    OwnSS w' w.heap.size (.slice A L.length cap) vs L ∧ Cur w' c K ∧ w.grownBy w' (some c)
theorem tot_put {L : List (List Int)} {l0 : List Int} {y : Int} (h : L[0]? = some l0) : tot (L.set 0 (l0 ++ [y])) = tot L + 1 := by
  cases L with
  | nil => simp at h
  | cons a t =>
    simp at h
    subst h
    simp [tot]
    omega
theorem setG (w : World) (g : Nat) (u : Value) : w.grownBy (w.setCell ⟨g, 0, none⟩ u) (some g) :=
  ⟨rfl, rfl, rfl, by simp, fun i _ hne => Below.heap_setCell w ⟨g, 0, none⟩ u i (fun e => hne (by rw [e]))⟩
theorem grown_set {w0 w : World} {c g : Nat} {u : Value} (h : w0.grownBy w (some c)) (hg : w0.heap.size ≤ g) : w0.grownBy (w.setCell ⟨g, 0, none⟩ u) (some c) :=
  ⟨h.os, h.tape, h.output, Nat.le_trans h.size (by simp), fun i hi hne => (Below.heap_setCell w ⟨g, 0, none⟩ u i (show i ≠ g by omega)).trans (h.block i hi hne)⟩
theorem clean_le {o r : List Int} {b : Bool} (h : Opt (cleanB o) r b) : r.length ≤ o.length := by
  cases b
  · rw [(h.2 rfl).2]; simp
  · have e := h.1 rfl
    unfold cleanB at e
    split at e
    · have h1 := cleanF_len e
      simp only [List.length_nil] at h1
      omega
    · simp at e
set_option maxRecDepth 100000 in
set_option maxHeartbeats 16000000 in
theorem clauses_any (c K : Nat) (w : World) (h : Hid (Cur w c K)) (hK : K ≤ 700000000) :
    Calls Try.prog 121 #[.pointer (some ⟨c, 0, none⟩)] w (GaveCl c (K + 1000) w) := by
  obtain ⟨i0, hi0, hz0, hz1, hz2⟩ := info_parts info_int
  obtain ⟨iS, hiS, hs0, hs1, hs2⟩ := info_parts info_ints
  have hcl : Hid (c < w.heap.size) := Lib.hid h.out.lt
  go_enter Try.func121, Try.ntmps121
  go_wp2_with fail
  refine (pick_any c K _ _ h (by omega) (by omega) (by omega)).mono ?_
  rintro e w1 ⟨n1, ⟨l1, u1⟩, rfl, hc1, hg1⟩
  have C1 := Lib.hid hc1
  have G1 := Lib.hid hg1
  clear hc1 hg1 h
  go_wp2_with fail
  refine (one_any c _ _ _ C1 (by omega) (by omega) (by omega)).mono ?_
  rintro e w2 ⟨b, rfl, hc2, hg2⟩
  have C2 := Lib.hid hc2
  have G2 := Lib.hid (grownC_trans G1.out hg2)
  clear hc2 hg2 C1 G1
  rename_i K2 hK2 K1 hK1 K0 hK0
  have key : ∀ (v : Int) (w3 : World) (u12 u13 u15 u16 u17 u18 : Value), 0 ≤ v → v ≤ 13 → Hid (Cur w3 c (K + 10)) → Hid (w.grownBy w3 (some c)) →
      K2 { tmps := #[.pointer (some ⟨c, 0, none⟩), undef, .int .i64 0, .slice none 0 0, .int .i64 v, undef, undef, undef, undef, undef, undef, .pointer (some ⟨c, 0, none⟩), u12, u13, .pointer (some ⟨c, 0, none⟩), u15, u16, u17, u18, undef, undef, undef, undef, undef, undef, undef, undef, undef, undef, undef, undef, undef, undef, undef, undef, undef, undef, undef, undef, undef, undef, undef, undef, undef, undef, undef, undef, undef, undef, undef, undef, undef, undef, undef, undef, undef, undef, undef, undef, undef, undef, undef, undef, undef, undef, undef, undef, undef, undef], defers := [] } w3 := by
    intro v w3 u12 u13 u15 u16 u17 u18 hv1 hv2 C3 G3
    refine hK2 _ _ ?_
    clear hK2 hK1 hK0 C2 G2 K0 K1 K2 l1 u1 n1 w2 w1 b
    go_wp2_with fail
    refine (pick_any c _ _ _ C3 (by omega) (by omega) (by omega)).mono ?_
    rintro e w4 ⟨n4, ⟨l4, u4⟩, rfl, hc4, hg4⟩
    have C4 := Lib.hid hc4
    have G4 := Lib.hid (grownC_trans G3.out hg4)
    clear hc4 hg4 C3 G3
    obtain ⟨m0, rfl⟩ := Int.eq_ofNat_of_zero_le l4
    cases qv : (v == 0)
    · have hv0 : 1 ≤ v := by simp at qv; omega
      go_wp2_with fail
      go_loopw [5, 6] (fun u i wr => ∃ (m : Nat) (L : List (List Int)), i = .int .i64 m ∧ m ≤ 13 ∧ (0 < m → 1 ≤ v) ∧ L.length + m ≤ 13 ∧ tot L ≤ 3 * L.length ∧ (∃ A2 c2 vs, u = .slice A2 L.length c2 ∧ OwnSS wr w.heap.size (.slice A2 L.length c2) vs L) ∧ Cur wr c (K + 12 + 40 * (13 - m)) ∧ w.grownBy wr (some c)) (fun _ i _ => (intOf i).toNat)
      case atStart => exact ⟨m0, [], rfl, by omega, by omega, by simp; try omega, by simp [tot], ⟨none, 0, [], rfl, OwnSS.nil _ _⟩, C4.out.mono (by omega), G4.out⟩
      case round =>
        obtain ⟨m, L, rfl, hm, hmv, hLm, hLt, ⟨A2, d2, vs, rfl, hown⟩, hc, hg⟩ := hrel
        obtain ⟨wo, hwo⟩ : ∃ x, x = wr := ⟨_, rfl⟩
        subst hwo
        obtain ⟨p, hp⟩ : ∃ p, L.length = p := ⟨_, rfl⟩
        rw [hp] at hLm hown hLt ⊢
        have HP := Lib.hid hp
        have HLT := Lib.hid hLt
        have OW := Lib.hid hown
        have CW := Lib.hid hc
        have GW := Lib.hid hg
        have ZW := Lib.hid hg.size
        clear hp hLt hown hc hg C4 G4
        by_cases hm0 : 0 < m
        · have hv0 : 1 ≤ v := hmv hm0
          clear hmv
          go_wp2_with fail
          refine (pick_any c _ _ _ CW (by omega) (by omega) (by omega)).mono ?_
          rintro e w5 ⟨n5, ⟨l5, u5⟩, rfl, hc5, hg5⟩
          have C5 := Lib.hid hc5
          have G5 := Lib.hid hg5
          have O5 := Lib.hid (OW.out.read hg5 hcl.out)
          clear hc5 hg5
          obtain ⟨k0, hk0⟩ : ∃ k : Nat, 1 + n5 = k := ⟨(1 + n5).toNat, by omega⟩
          go_wp2_with fail
          have hk3 : k0 ≤ 3 := by omega
          clear hk0 l5 u5
          go_loopw [7, 8] (fun u i wj => ∃ (k : Nat) (o : List Int), i = .int .i64 k ∧ k ≤ 3 ∧ o.length + k ≤ 3 ∧ (∃ A3 c3, u = .slice A3 o.length c3 ∧ wj.ownsRow wo.heap.size 3 1 (.slice A3 o.length c3) o.length (o.map (Value.int .i64))) ∧ OwnSS wj w.heap.size (.slice A2 p d2) vs L ∧ Cur wj c (K + 14 + 40 * (13 - m) + 6 * (3 - k)) ∧ wo.grownBy wj (some c)) (fun _ i _ => (intOf i).toNat)
          case atStart => exact ⟨k0, [], rfl, hk3, by simp; omega, ⟨none, 0, rfl, World.ownsRow_nil _ _ _ _⟩, O5.out, C5.out.mono (by omega), G5.out⟩
          case round =>
            obtain ⟨k, o, rfl, hk, hok, ⟨A3, c3, rfl, hown3⟩, hss, hcj, hgj⟩ := hrel
            obtain ⟨q, hq⟩ : ∃ q, o.length = q := ⟨_, rfl⟩
            rw [hq] at hok hown3 ⊢
            have HQ := Lib.hid hq
            have O3 := Lib.hid hown3
            have OJ := Lib.hid hss
            have CJ := Lib.hid hcj
            have GJ := Lib.hid hgj
            have ZJ := Lib.hid hgj.size
            clear hq hown3 hss hcj hgj O5 C5 G5
            by_cases hk0 : 0 < k
            · go_wp2_with fail
              refine (lit_any c _ v _ CJ (by omega) (by omega) (by omega)).mono ?_
              rintro e w6 ⟨x, -, rfl, hc6, hg6⟩
              have C6 := Lib.hid hc6
              have G6 := Lib.hid (grownC_trans GJ.out hg6)
              have O6 := Lib.hid (own_read O3.out hg6 (by have := hcl.out; have := ZW.out; omega))
              have OJ6 := Lib.hid (OJ.out.read hg6 hcl.out)
              clear hc6 hg6
              go_wp2_with (at_builtin; (refine wpList_append_lies _ rfl _ _ 55 rfl wo.heap.size 3 i0 (.int .i64 0) 1 8 Try.underlying55 hi0 hz0 hz1 hz2 rfl (by omega) _ q _ rfl (O6.out.alloc _) ⟨w6.heap.size, 0, none⟩ 1 1 [.int .i64 x] rfl rfl (one_new1 w6 _ _) (by intro u hu; rw [List.mem_singleton.1 hu]; rfl) (by omega) (by unfold maxLen; omega) (by omega) (by have := G6.out.size; first | omega | (simp; omega)) (w6.heap.size + 1) (by first | rfl | simp) ?_; intro g7 cap7 w7 hown7 hg7 hat7 hlt7; have O7 := Lib.hid hown7; have C7 := Lib.hid ((C6.out.alloc _).grown hg7 (fun g e => by have := (O6.out.lt g e).1; have := hcl.out; have := ZW.out; omega)); have G7 := Lib.hid (grown_app G6.out hg7 (fun g e => (O6.out.lt g e).1)); have OJ7 := Lib.hid ((OJ6.out.below (below1 w6 _)).kept (Kept.of_grown (S := fun g => (Value.slice A3 q c3).ownBlock = some g) hg7 (fun g h => h)) (fun g h e => by have := (O6.out.lt g e).1; have := (OW.out.outer.lt g h).2; omega) (fun g h e => by have := (O6.out.lt g e).1; have := (OW.out.inner.lt g h).2; omega)); clear hown7 hg7 hat7 hlt7))
              go_roundw
              case rel => exact ⟨k - 1, o ++ [x], int_cast_sub hk0, by omega, by have := HQ.out; simp; omega, acc_snoc' HQ.out (by rw [List.map_append]; exact O7.out), OJ7.out, C7.out.mono (by omega), G7.out⟩
              case measure => simp [intOf]; omega
            · obtain rfl : k = 0 := by omega
              obtain ⟨r, br, hrb⟩ := opt_any (cleanB o)
              have HR := Lib.hid hrb
              have hrl : r.length ≤ 3 := by have := clean_le hrb; have := HQ.out; omega
              clear hrb
              go_wp2_with fail
              refine (specClean_any _ _ _ o _ r br HR (own_ilies O3.out) HQ (by omega)).mono ?_
              rintro e w6 ⟨A6, c6, rfl, ho6, hb6⟩
              have O6 := Lib.hid (own_base ho6 ZJ.out)
              have C6 := Lib.hid (CJ.out.below hb6)
              have OJ6 := Lib.hid (OJ.out.below hb6)
              have G6 := Lib.hid (grownC_trans GJ.out (grown_of_below hb6))
              clear ho6 hb6
              cases br
              · go_wp2
                go_roundw
                case rel => exact ⟨m - 1, L, int_cast_sub hm0, by omega, fun _ => hv0, by have := HP.out; omega, by have := HP.out; have := HLT.out; omega, ⟨A2, d2, vs, by rw [HP.out], by rw [HP.out]; exact OJ6.out⟩, C6.out.mono (by omega), grownC_trans GW.out G6.out⟩
                case measure => simp [intOf]; omega
              · have OU : Hid (w6.ownsRow w.heap.size 55 1 (.slice A2 p d2) p vs) := Lib.hid (by have h := OJ6.out.outer; rw [HP.out] at h; exact h)
                obtain ⟨z, hz⟩ : ∃ z, r.length = z := ⟨_, rfl⟩
                have HZ := Lib.hid hz
                rw [hz] at hrl ⊢
                clear hz
                go_wp2_with (at_builtin; (refine wpList_append_lies _ rfl _ _ 23 rfl w.heap.size 55 iS (.slice none 0 0) 1 24 Try.underlying23 hiS hs0 hs1 hs2 rfl (by omega) _ p _ rfl (OU.out.alloc _) ⟨w6.heap.size, 0, none⟩ 1 1 [.slice A6 z c6] rfl rfl (one_new1 w6 _ _) (by intro u hu; rw [List.mem_singleton.1 hu]; rfl) (by omega) (by unfold maxLen; omega) (by omega) (by have := G6.out.size; have := ZW.out; first | omega | (simp; omega)) (w6.heap.size + 1) (by first | rfl | simp) ?_; intro g7 cap7 w7 hown7 hg7 hat7 hlt7; have H7 := Lib.hid (OwnSS.grow2 (o := r) (c3 := c6) (A3 := A6) (lo := wo.heap.size) HP.out OJ6.out ZW.out (fun g h => (OW.out.outer.lt g h).2) (fun g h => (OW.out.inner.lt g h).2) O6.out (by rw [HZ.out]; exact hown7) (by rw [HZ.out]; exact hg7) hat7); have C7 := Lib.hid ((C6.out.alloc _).grown hg7 (fun g e => by have := (OU.out.lt g e).1; have := hcl.out; omega)); have G7 := Lib.hid (grown_app (grownC_trans GW.out G6.out) hg7 (fun g e => (OU.out.lt g e).1)); clear hown7 hg7 hat7 hlt7))
                go_roundw
                case rel => exact ⟨m - 1, L ++ [r], int_cast_sub hm0, by omega, fun _ => hv0, by have := HP.out; simp; omega, by have := HP.out; have := HLT.out; have := HZ.out; rw [tot_snoc, List.length_append, List.length_singleton]; omega, ⟨some ⟨g7, 0, none⟩, cap7, _, by rw [List.length_append, HP.out, List.length_singleton], by rw [List.length_append, HP.out]; exact H7.out⟩, C7.out.mono (by omega), G7.out⟩
                case measure => simp [intOf]; omega
        · obtain rfl : m = 0 := by omega
          by_cases hp0 : 0 < p
          · have hpI : (0 : Int) < (p : Int) := by omega
            go_wp2_with fail
            refine (one_any c _ _ _ CW (by omega) (by omega) (by omega)).mono ?_
            rintro e w8 ⟨b8, rfl, hc8, hg8⟩
            have C8 := Lib.hid hc8
            have G8 := Lib.hid (grownC_trans GW.out hg8)
            have O8 := Lib.hid (OW.out.read hg8 hcl.out)
            clear hc8 hg8
            cases b8
            · go_wp2
              go_ret2
              exact ⟨v, L, A2, d2, vs, (by first | (rw [HP.out]; done) | (rw [HP.out]; rfl)), by omega, by have := HP.out; omega, by have := HP.out; have := HLT.out; omega, by rw [HP.out]; exact O8.out, C8.out.mono (by omega), G8.out⟩
            · obtain ⟨g, cpx, hv9, hbg9, hgl9⟩ := O8.out.outer.form (by have := HP.out; omega)
              have hA2 : A2 = some ⟨g, 0, none⟩ := by injection hv9
              clear hv9
              subst hA2
              obtain ⟨l0, hl0⟩ : ∃ l, L[0]? = some l := ⟨_, List.getElem?_eq_getElem (by have := HP.out; omega)⟩
              obtain ⟨a0, cc0, hx0, hr0⟩ := O8.out.inner.row 0 l0 hl0
              have hcell : w8.cell? ⟨g, 0, none⟩ = some (.slice a0 l0.length cc0) := by
                have h9 := O8.out.outer.cells (g := g) rfl 0 _ hx0
                rw [add_plain] at h9
                exact h9
              have hl3 : l0.length ≤ 39 := by have := tot_mem hl0; have := HLT.out; omega
              have HX0 := Lib.hid hx0
              have HL0 := Lib.hid hl0
              have HR0 := Lib.hid hr0
              clear hx0 hl0 hr0
              obtain ⟨n0, hn0⟩ : ∃ n, l0.length = n := ⟨_, rfl⟩
              rw [hn0] at hcell hl3 HX0 HR0
              have HN0 := Lib.hid hn0
              clear hn0
              have hgc : g ≠ c := by have := (O8.out.outer.lt g rfl).1; have := hcl.out; omega
              have hgs : g < w8.heap.size := (O8.out.outer.lt g rfl).2
              go_wp2_with fail
              refine wp_region_any (by kernel_rfl) ?_
              change wpAny _ _ _ _ _ _ _ (World.drew _)
              refine wpAny_take (i := 0) (v := ?_) rfl (by kernel_rfl) (by kernel_rfl) (by kernel_rfl) (fun _ _ _ h => h) (Or.inl ⟨by rfl, ?_⟩) ?_
              rotate_left
              · intro w
                go_simp
                try with_reducible rfl
              refine wpAny_take (i := 1) (v := ?_) rfl (by kernel_rfl) (by kernel_rfl) (by kernel_rfl) (fun _ _ _ h => h) (Or.inl ⟨by rfl, ?_⟩) ?_
              rotate_left
              · intro w
                go_simp
                try with_reducible rfl
              refine wpAny_take (i := 2) (v := ?_) rfl (by kernel_rfl) (by kernel_rfl) (by kernel_rfl) (fun _ _ _ h => h) (Or.inl ⟨by rfl, ?_⟩) ?_
              rotate_left
              · intro w
                go_simp
                try with_reducible rfl
              refine wpAny_take (i := 4) (v := ?_) rfl (by kernel_rfl) (by kernel_rfl) (by kernel_rfl) (fun _ _ _ h => h) (Or.inl ⟨by rfl, ?_⟩) ?_
              rotate_left
              · intro w
                go_simp
                try with_reducible rfl
              refine wpAny_ready (rs := [3, 5]) (by kernel_rfl) (by simp) ?_
              refine AllReady.cons rfl (fun K hK => ?_) (AllReady.cons rfl (fun K hK => ?_) AllReady.nil)
              · go_simp
                refine hK _ _ ?_
                clear hK K
                refine wpAny_ready (rs := [5]) (by kernel_rfl) (by simp) ?_
                refine AllReady.cons rfl (fun K hK => ?_) AllReady.nil
                go_simp
                refine hK _ _ ?_
                clear hK K
                refine wpAny_ready (rs := [6]) (by kernel_rfl) (by simp) ?_
                refine AllReady.cons rfl (fun K hK => ?_) AllReady.nil
                go_simp
                refine (among_any c _ w8.heap.size 3 [0, 13, 1] _ (Lib.hid ((C8.out.alloc _).below (Below.refl _ _).drew)) (by omega) (by omega) (by omega) (by have := C8.out.lt; omega) ⟨rfl, fun i hi => cells_new w8 [0, 13, 1] 3 i hi⟩).mono ?_
                rintro e w9 ⟨y, -, rfl, hc9, hg9⟩
                have hgw : w8.grownBy w9 (some c) := grownC_trans (World.grownBy_alloc w8 (.cells #[.int .i64 0, .int .i64 13, .int .i64 1] 3) _) ⟨hg9.os, hg9.tape, hg9.output, hg9.size, hg9.block⟩
                have hcell9 : w9.cell? ⟨g, 0, none⟩ = some (.slice a0 n0 cc0) := (World.cell?_of_block (a := ⟨g, 0, none⟩) (hgw.block g hgs (fun e => hgc (Option.some.inj e)))).trans hcell
                have C9 := Lib.hid hc9
                have G9 := Lib.hid (grownC_trans G8.out hgw)
                have O9 := Lib.hid (O8.out.read hgw hcl.out)
                have R9 := Lib.hid (own_read HR0.out hgw hcl.out)
                have hgs9 : g < w9.heap.size := by have := hgw.size; omega
                clear hc9 hg9 hgw
                refine hK _ _ ?_
                clear hK K
                refine wpAny_ready (rs := [7]) (by kernel_rfl) (by simp) ?_
                refine AllReady.cons rfl (fun K hK => ?_) AllReady.nil
                go_simp
                refine hK _ _ ?_
                clear hK K
                refine wpAny_ready (rs := [8]) (by kernel_rfl) (by simp) ?_
                refine AllReady.cons rfl (fun K hK => ?_) AllReady.nil
                refine step_append_lies _ rfl _ _ 55 rfl w.heap.size 3 i0 (.int .i64 0) 1 8 Try.underlying55 hi0 hz0 hz1 hz2 rfl (by omega) _ n0 _ rfl (R9.out.alloc _) ⟨w9.heap.size, 0, none⟩ 1 1 [.int .i64 y] rfl rfl (one_new1 w9 _ _) (by intro u hu; rw [List.mem_singleton.1 hu]; rfl) (by omega) (by unfold maxLen; omega) (by omega) (by have := G9.out.size; first | omega | (simp; omega)) (w9.heap.size + 1) (by first | rfl | simp) ?_
                intro g4 cap4 w10 hown10 hg10 hat10 hlt10
                have P10 := Lib.hid (OwnSS.put0 (y := y) O9.out rfl HP.out HX0.out HN0.out hown10 hg10 hat10)
                have R10 := Lib.hid (fun b (hb : (Value.slice a0 n0 cc0).ownBlock = some b) => (R9.out.lt b hb).1)
                have C10 := Lib.hid ((C9.out.alloc _).grown hg10 (fun b e => by have := R10.out b e; have := hcl.out; omega))
                have G10 := Lib.hid (grown_app G9.out hg10 (fun b e => R10.out b e))
                have hc10 : w10.cell? ⟨g, 0, none⟩ = some (.slice a0 n0 cc0) := by
                  have h1 : (w9.alloc (.cells #[.int .i64 y] 3)).cell? ⟨g, 0, none⟩ = some (.slice a0 n0 cc0) := ((bcell (below1 w9 _)).1 _ _ hgs9).trans hcell9
                  exact (World.cell?_of_block (a := ⟨g, 0, none⟩) (hg10.block g (by simp; omega) (fun e => O9.out.off g ⟨0, _, HX0.out, e.symm⟩ rfl))).trans h1
                have hf10 : w10.frozen? ⟨g, 0, none⟩ = false := by
                  have h1 : (w9.alloc (.cells #[.int .i64 y] 3)).frozen? ⟨g, 0, none⟩ = false := ((bcell (below1 w9 _)).2 _ _ hgs9).trans (by have h := O9.out.outer; rw [HP.out] at h; exact h.frozenAt 0)
                  have h2 := hg10.block g (by simp; omega) (fun e => O9.out.off g ⟨0, _, HX0.out, e.symm⟩ rfl)
                  unfold World.frozen? at h1 ⊢
                  simp only [h2]
                  exact h1
                clear hown10 hg10 hat10 hlt10
                refine hK _ _ ?_
                clear hK K
                refine wpAny_take (i := 9) (v := ?_) rfl (by kernel_rfl) (by kernel_rfl) (by kernel_rfl) (fun _ _ _ h => h) (Or.inl ⟨by rfl, ?_⟩) ?_
                rotate_left
                · intro w
                  go_simp
                  try with_reducible rfl
                refine wpAny_ready (rs := [10]) (by kernel_rfl) (by simp) ?_
                refine AllReady.cons rfl (fun K hK => ?_) AllReady.nil
                go_simp
                refine hK _ _ ?_
                clear hK K
                refine wpAny_done (by kernel_rfl) ?_ _
                go_wp2
                go_ret2
                exact ⟨v, L.set 0 (l0 ++ [y]), some ⟨g, 0, none⟩, d2, _, (by first | (rw [List.length_set, HP.out]; done) | (rw [List.length_set, HP.out]; rfl)), by omega, by have := HP.out; simp; omega, by have := tot_put (y := y) HL0.out; have := HP.out; have := HLT.out; omega, by rw [List.length_set, HP.out]; exact P10.out, (C10.out.grown (row := some g) (setG w10 g _) (fun b e => by have := Option.some.inj e; have := (O8.out.outer.lt g rfl).1; have := hcl.out; omega)).mono (by omega), grown_set G10.out (O8.out.outer.lt g rfl).1⟩
              · go_simp
                refine hK _ _ ?_
                clear hK K
                refine wpAny_ready (rs := [3, 6]) (by kernel_rfl) (by simp) ?_
                refine AllReady.cons rfl (fun K hK => ?_) (AllReady.cons rfl (fun K hK => ?_) AllReady.nil)
                · go_simp
                  refine hK _ _ ?_
                  clear hK K
                  refine wpAny_ready (rs := [6]) (by kernel_rfl) (by simp) ?_
                  refine AllReady.cons rfl (fun K hK => ?_) AllReady.nil
                  go_simp
                  refine (among_any c _ w8.heap.size 3 [0, 13, 1] _ (Lib.hid ((C8.out.alloc _).below (Below.refl _ _).drew)) (by omega) (by omega) (by omega) (by have := C8.out.lt; omega) ⟨rfl, fun i hi => cells_new w8 [0, 13, 1] 3 i hi⟩).mono ?_
                  rintro e w9 ⟨y, -, rfl, hc9, hg9⟩
                  have hgw : w8.grownBy w9 (some c) := grownC_trans (World.grownBy_alloc w8 (.cells #[.int .i64 0, .int .i64 13, .int .i64 1] 3) _) ⟨hg9.os, hg9.tape, hg9.output, hg9.size, hg9.block⟩
                  have hcell9 : w9.cell? ⟨g, 0, none⟩ = some (.slice a0 n0 cc0) := (World.cell?_of_block (a := ⟨g, 0, none⟩) (hgw.block g hgs (fun e => hgc (Option.some.inj e)))).trans hcell
                  have C9 := Lib.hid hc9
                  have G9 := Lib.hid (grownC_trans G8.out hgw)
                  have O9 := Lib.hid (O8.out.read hgw hcl.out)
                  have R9 := Lib.hid (own_read HR0.out hgw hcl.out)
                  have hgs9 : g < w9.heap.size := by have := hgw.size; omega
                  clear hc9 hg9 hgw
                  refine hK _ _ ?_
                  clear hK K
                  refine wpAny_ready (rs := [7]) (by kernel_rfl) (by simp) ?_
                  refine AllReady.cons rfl (fun K hK => ?_) AllReady.nil
                  go_simp
                  refine hK _ _ ?_
                  clear hK K
                  refine wpAny_ready (rs := [8]) (by kernel_rfl) (by simp) ?_
                  refine AllReady.cons rfl (fun K hK => ?_) AllReady.nil
                  refine step_append_lies _ rfl _ _ 55 rfl w.heap.size 3 i0 (.int .i64 0) 1 8 Try.underlying55 hi0 hz0 hz1 hz2 rfl (by omega) _ n0 _ rfl (R9.out.alloc _) ⟨w9.heap.size, 0, none⟩ 1 1 [.int .i64 y] rfl rfl (one_new1 w9 _ _) (by intro u hu; rw [List.mem_singleton.1 hu]; rfl) (by omega) (by unfold maxLen; omega) (by omega) (by have := G9.out.size; first | omega | (simp; omega)) (w9.heap.size + 1) (by first | rfl | simp) ?_
                  intro g4 cap4 w10 hown10 hg10 hat10 hlt10
                  have P10 := Lib.hid (OwnSS.put0 (y := y) O9.out rfl HP.out HX0.out HN0.out hown10 hg10 hat10)
                  have R10 := Lib.hid (fun b (hb : (Value.slice a0 n0 cc0).ownBlock = some b) => (R9.out.lt b hb).1)
                  have C10 := Lib.hid ((C9.out.alloc _).grown hg10 (fun b e => by have := R10.out b e; have := hcl.out; omega))
                  have G10 := Lib.hid (grown_app G9.out hg10 (fun b e => R10.out b e))
                  have hc10 : w10.cell? ⟨g, 0, none⟩ = some (.slice a0 n0 cc0) := by
                    have h1 : (w9.alloc (.cells #[.int .i64 y] 3)).cell? ⟨g, 0, none⟩ = some (.slice a0 n0 cc0) := ((bcell (below1 w9 _)).1 _ _ hgs9).trans hcell9
                    exact (World.cell?_of_block (a := ⟨g, 0, none⟩) (hg10.block g (by simp; omega) (fun e => O9.out.off g ⟨0, _, HX0.out, e.symm⟩ rfl))).trans h1
                  have hf10 : w10.frozen? ⟨g, 0, none⟩ = false := by
                    have h1 : (w9.alloc (.cells #[.int .i64 y] 3)).frozen? ⟨g, 0, none⟩ = false := ((bcell (below1 w9 _)).2 _ _ hgs9).trans (by have h := O9.out.outer; rw [HP.out] at h; exact h.frozenAt 0)
                    have h2 := hg10.block g (by simp; omega) (fun e => O9.out.off g ⟨0, _, HX0.out, e.symm⟩ rfl)
                    unfold World.frozen? at h1 ⊢
                    simp only [h2]
                    exact h1
                  clear hown10 hg10 hat10 hlt10
                  refine hK _ _ ?_
                  clear hK K
                  refine wpAny_take (i := 9) (v := ?_) rfl (by kernel_rfl) (by kernel_rfl) (by kernel_rfl) (fun _ _ _ h => h) (Or.inl ⟨by rfl, ?_⟩) ?_
                  rotate_left
                  · intro w
                    go_simp
                    try with_reducible rfl
                  refine wpAny_ready (rs := [10]) (by kernel_rfl) (by simp) ?_
                  refine AllReady.cons rfl (fun K hK => ?_) AllReady.nil
                  go_simp
                  refine hK _ _ ?_
                  clear hK K
                  refine wpAny_done (by kernel_rfl) ?_ _
                  go_wp2
                  go_ret2
                  exact ⟨v, L.set 0 (l0 ++ [y]), some ⟨g, 0, none⟩, d2, _, (by first | (rw [List.length_set, HP.out]; done) | (rw [List.length_set, HP.out]; rfl)), by omega, by have := HP.out; simp; omega, by have := tot_put (y := y) HL0.out; have := HP.out; have := HLT.out; omega, by rw [List.length_set, HP.out]; exact P10.out, (C10.out.grown (row := some g) (setG w10 g _) (fun b e => by have := Option.some.inj e; have := (O8.out.outer.lt g rfl).1; have := hcl.out; omega)).mono (by omega), grown_set G10.out (O8.out.outer.lt g rfl).1⟩
                · go_simp
                  refine (among_any c _ w8.heap.size 3 [0, 13, 1] _ (Lib.hid ((C8.out.alloc _).below (Below.refl _ _).drew)) (by omega) (by omega) (by omega) (by have := C8.out.lt; omega) ⟨rfl, fun i hi => cells_new w8 [0, 13, 1] 3 i hi⟩).mono ?_
                  rintro e w9 ⟨y, -, rfl, hc9, hg9⟩
                  have hgw : w8.grownBy w9 (some c) := grownC_trans (World.grownBy_alloc w8 (.cells #[.int .i64 0, .int .i64 13, .int .i64 1] 3) _) ⟨hg9.os, hg9.tape, hg9.output, hg9.size, hg9.block⟩
                  have hcell9 : w9.cell? ⟨g, 0, none⟩ = some (.slice a0 n0 cc0) := (World.cell?_of_block (a := ⟨g, 0, none⟩) (hgw.block g hgs (fun e => hgc (Option.some.inj e)))).trans hcell
                  have C9 := Lib.hid hc9
                  have G9 := Lib.hid (grownC_trans G8.out hgw)
                  have O9 := Lib.hid (O8.out.read hgw hcl.out)
                  have R9 := Lib.hid (own_read HR0.out hgw hcl.out)
                  have hgs9 : g < w9.heap.size := by have := hgw.size; omega
                  clear hc9 hg9 hgw
                  refine hK _ _ ?_
                  clear hK K
                  refine wpAny_ready (rs := [3, 7]) (by kernel_rfl) (by simp) ?_
                  refine AllReady.cons rfl (fun K hK => ?_) (AllReady.cons rfl (fun K hK => ?_) AllReady.nil)
                  · go_simp
                    refine hK _ _ ?_
                    clear hK K
                    refine wpAny_ready (rs := [7]) (by kernel_rfl) (by simp) ?_
                    refine AllReady.cons rfl (fun K hK => ?_) AllReady.nil
                    go_simp
                    refine hK _ _ ?_
                    clear hK K
                    refine wpAny_ready (rs := [8]) (by kernel_rfl) (by simp) ?_
                    refine AllReady.cons rfl (fun K hK => ?_) AllReady.nil
                    refine step_append_lies _ rfl _ _ 55 rfl w.heap.size 3 i0 (.int .i64 0) 1 8 Try.underlying55 hi0 hz0 hz1 hz2 rfl (by omega) _ n0 _ rfl (R9.out.alloc _) ⟨w9.heap.size, 0, none⟩ 1 1 [.int .i64 y] rfl rfl (one_new1 w9 _ _) (by intro u hu; rw [List.mem_singleton.1 hu]; rfl) (by omega) (by unfold maxLen; omega) (by omega) (by have := G9.out.size; first | omega | (simp; omega)) (w9.heap.size + 1) (by first | rfl | simp) ?_
                    intro g4 cap4 w10 hown10 hg10 hat10 hlt10
                    have P10 := Lib.hid (OwnSS.put0 (y := y) O9.out rfl HP.out HX0.out HN0.out hown10 hg10 hat10)
                    have R10 := Lib.hid (fun b (hb : (Value.slice a0 n0 cc0).ownBlock = some b) => (R9.out.lt b hb).1)
                    have C10 := Lib.hid ((C9.out.alloc _).grown hg10 (fun b e => by have := R10.out b e; have := hcl.out; omega))
                    have G10 := Lib.hid (grown_app G9.out hg10 (fun b e => R10.out b e))
                    have hc10 : w10.cell? ⟨g, 0, none⟩ = some (.slice a0 n0 cc0) := by
                      have h1 : (w9.alloc (.cells #[.int .i64 y] 3)).cell? ⟨g, 0, none⟩ = some (.slice a0 n0 cc0) := ((bcell (below1 w9 _)).1 _ _ hgs9).trans hcell9
                      exact (World.cell?_of_block (a := ⟨g, 0, none⟩) (hg10.block g (by simp; omega) (fun e => O9.out.off g ⟨0, _, HX0.out, e.symm⟩ rfl))).trans h1
                    have hf10 : w10.frozen? ⟨g, 0, none⟩ = false := by
                      have h1 : (w9.alloc (.cells #[.int .i64 y] 3)).frozen? ⟨g, 0, none⟩ = false := ((bcell (below1 w9 _)).2 _ _ hgs9).trans (by have h := O9.out.outer; rw [HP.out] at h; exact h.frozenAt 0)
                      have h2 := hg10.block g (by simp; omega) (fun e => O9.out.off g ⟨0, _, HX0.out, e.symm⟩ rfl)
                      unfold World.frozen? at h1 ⊢
                      simp only [h2]
                      exact h1
                    clear hown10 hg10 hat10 hlt10
                    refine hK _ _ ?_
                    clear hK K
                    refine wpAny_take (i := 9) (v := ?_) rfl (by kernel_rfl) (by kernel_rfl) (by kernel_rfl) (fun _ _ _ h => h) (Or.inl ⟨by rfl, ?_⟩) ?_
                    rotate_left
                    · intro w
                      go_simp
                      try with_reducible rfl
                    refine wpAny_ready (rs := [10]) (by kernel_rfl) (by simp) ?_
                    refine AllReady.cons rfl (fun K hK => ?_) AllReady.nil
                    go_simp
                    refine hK _ _ ?_
                    clear hK K
                    refine wpAny_done (by kernel_rfl) ?_ _
                    go_wp2
                    go_ret2
                    exact ⟨v, L.set 0 (l0 ++ [y]), some ⟨g, 0, none⟩, d2, _, (by first | (rw [List.length_set, HP.out]; done) | (rw [List.length_set, HP.out]; rfl)), by omega, by have := HP.out; simp; omega, by have := tot_put (y := y) HL0.out; have := HP.out; have := HLT.out; omega, by rw [List.length_set, HP.out]; exact P10.out, (C10.out.grown (row := some g) (setG w10 g _) (fun b e => by have := Option.some.inj e; have := (O8.out.outer.lt g rfl).1; have := hcl.out; omega)).mono (by omega), grown_set G10.out (O8.out.outer.lt g rfl).1⟩
                  · go_simp
                    refine hK _ _ ?_
                    clear hK K
                    refine wpAny_ready (rs := [3]) (by kernel_rfl) (by simp) ?_
                    refine AllReady.cons rfl (fun K hK => ?_) AllReady.nil
                    go_simp
                    refine hK _ _ ?_
                    clear hK K
                    refine wpAny_ready (rs := [8]) (by kernel_rfl) (by simp) ?_
                    refine AllReady.cons rfl (fun K hK => ?_) AllReady.nil
                    refine step_append_lies _ rfl _ _ 55 rfl w.heap.size 3 i0 (.int .i64 0) 1 8 Try.underlying55 hi0 hz0 hz1 hz2 rfl (by omega) _ n0 _ rfl (R9.out.alloc _) ⟨w9.heap.size, 0, none⟩ 1 1 [.int .i64 y] rfl rfl (one_new1 w9 _ _) (by intro u hu; rw [List.mem_singleton.1 hu]; rfl) (by omega) (by unfold maxLen; omega) (by omega) (by have := G9.out.size; first | omega | (simp; omega)) (w9.heap.size + 1) (by first | rfl | simp) ?_
                    intro g4 cap4 w10 hown10 hg10 hat10 hlt10
                    have P10 := Lib.hid (OwnSS.put0 (y := y) O9.out rfl HP.out HX0.out HN0.out hown10 hg10 hat10)
                    have R10 := Lib.hid (fun b (hb : (Value.slice a0 n0 cc0).ownBlock = some b) => (R9.out.lt b hb).1)
                    have C10 := Lib.hid ((C9.out.alloc _).grown hg10 (fun b e => by have := R10.out b e; have := hcl.out; omega))
                    have G10 := Lib.hid (grown_app G9.out hg10 (fun b e => R10.out b e))
                    have hc10 : w10.cell? ⟨g, 0, none⟩ = some (.slice a0 n0 cc0) := by
                      have h1 : (w9.alloc (.cells #[.int .i64 y] 3)).cell? ⟨g, 0, none⟩ = some (.slice a0 n0 cc0) := ((bcell (below1 w9 _)).1 _ _ hgs9).trans hcell9
                      exact (World.cell?_of_block (a := ⟨g, 0, none⟩) (hg10.block g (by simp; omega) (fun e => O9.out.off g ⟨0, _, HX0.out, e.symm⟩ rfl))).trans h1
                    have hf10 : w10.frozen? ⟨g, 0, none⟩ = false := by
                      have h1 : (w9.alloc (.cells #[.int .i64 y] 3)).frozen? ⟨g, 0, none⟩ = false := ((bcell (below1 w9 _)).2 _ _ hgs9).trans (by have h := O9.out.outer; rw [HP.out] at h; exact h.frozenAt 0)
                      have h2 := hg10.block g (by simp; omega) (fun e => O9.out.off g ⟨0, _, HX0.out, e.symm⟩ rfl)
                      unfold World.frozen? at h1 ⊢
                      simp only [h2]
                      exact h1
                    clear hown10 hg10 hat10 hlt10
                    refine hK _ _ ?_
                    clear hK K
                    refine wpAny_take (i := 9) (v := ?_) rfl (by kernel_rfl) (by kernel_rfl) (by kernel_rfl) (fun _ _ _ h => h) (Or.inl ⟨by rfl, ?_⟩) ?_
                    rotate_left
                    · intro w
                      go_simp
                      try with_reducible rfl
                    refine wpAny_ready (rs := [10]) (by kernel_rfl) (by simp) ?_
                    refine AllReady.cons rfl (fun K hK => ?_) AllReady.nil
                    go_simp
                    refine hK _ _ ?_
                    clear hK K
                    refine wpAny_done (by kernel_rfl) ?_ _
                    go_wp2
                    go_ret2
                    exact ⟨v, L.set 0 (l0 ++ [y]), some ⟨g, 0, none⟩, d2, _, (by first | (rw [List.length_set, HP.out]; done) | (rw [List.length_set, HP.out]; rfl)), by omega, by have := HP.out; simp; omega, by have := tot_put (y := y) HL0.out; have := HP.out; have := HLT.out; omega, by rw [List.length_set, HP.out]; exact P10.out, (C10.out.grown (row := some g) (setG w10 g _) (fun b e => by have := Option.some.inj e; have := (O8.out.outer.lt g rfl).1; have := hcl.out; omega)).mono (by omega), grown_set G10.out (O8.out.outer.lt g rfl).1⟩
          · have hpz : p = 0 := by omega
            go_wp2
            go_ret2
            exact ⟨v, L, A2, d2, vs, (by first | (rw [HP.out]; done) | (rw [HP.out]; rfl)), by omega, by have := HP.out; omega, by have := HP.out; have := HLT.out; omega, by rw [HP.out]; exact OW.out, CW.out.mono (by omega), GW.out⟩
    · obtain rfl : v = 0 := by simpa using qv
      clear qv
      go_wp2_with fail
      go_loopw [5, 6] (fun u i wr => i = .int .i64 0 ∧ u = .slice none 0 0 ∧ Cur wr c (K + 12) ∧ w.grownBy wr (some c)) (fun _ i _ => (intOf i).toNat)
      case atStart => exact ⟨rfl, rfl, C4.out, G4.out⟩
      case round =>
        obtain ⟨rfl, rfl, hc, hg⟩ := hrel
        have CW := Lib.hid hc
        have GW := Lib.hid hg
        clear hc hg
        go_wp2
        go_ret2
        exact ⟨0, [], none, 0, [], rfl, by omega, by simp, by simp [tot], OwnSS.nil _ _, CW.out.mono (by omega), GW.out⟩
  clear hK2
  cases b
  · go_wp2_with fail
    exact key _ _ _ _ _ _ _ _ (by omega) (by omega) (Lib.hid (C2.out.mono (by omega))) G2
  · go_wp2_with fail
    refine (among_any c _ w2.heap.size 3 [0, 10, 13] _ (C2.out.alloc _) (by omega) (by omega) (by omega) (by have := C2.out.lt; omega) ⟨rfl, fun i hi => cells_new w2 [0, 10, 13] 3 i hi⟩).mono ?_
    rintro e w3 ⟨v, hv, rfl, hc3, hg3⟩
    have hv1 : 0 ≤ v := by simp at hv; omega
    have hv2 : v ≤ 13 := by simp at hv; omega
    have C3 : Hid (Cur w3 c (K + 10)) := Lib.hid (hc3.mono (by omega))
    have G3 := Lib.hid (grownC_trans (grownC_trans G2.out (World.grownBy_alloc w2 _ _)) hg3)
    clear hc3 hg3 hv
    go_wp2_with fail
    exact key _ _ _ _ _ _ _ _ hv1 hv2 C3 G3
end Go.Proofs.Ytklcfbjaodildaa
