/-
  nearest, NearestOf and MustPass of the program.
-/
import Derived.Test.YtilnegmjnbffhaaRfNear
namespace Go.Proofs.Ytilnegmjnbffhaa
open Go.ChangeShapes Go.WideShapes Go.ChangeAt Go.RowKit
attribute [local go_sem] Oper.semAt_some

def nearF (l : KT) (n : Nat) : List Int := (List.range n).map (nearN (edg l))
theorem near_row (l : KT) (n : Nat) : (nearF l n).map (Value.int .i64) = numsV n (nearN (edg l)) := by unfold nearF numsV; rw [List.map_map]; rfl
set_option maxRecDepth 100000 in
set_option maxHeartbeats 8000000 in
theorem nearest_any (l : KT) (g : GoodKT l) (n c1 : Nat) (A1 : Option Addr) (w : World) (hn : Hid (l.length = n)) (hn0 : 0 < n) (hn20 : n ≤ 20) (L1 : Hid (LLies w A1 (nxsL l))) :
    Calls Try.prog 55 #[.slice A1 n c1] w fun e w' => ∃ gr, e = .returned (.slice (some ⟨gr, 0, none⟩) n n) ∧ w.heap.size ≤ gr ∧ Blk w' gr 3 (numsV n (nearN (edg l))) ∧ Below w.heap.size w w' := by
  refine (callsIn_wide (n := 0)).1 ?_
  refine callsIn_of_wp_marks Try.func55 rfl trivial ?_ rfl
  simp only [Try.ntmps55, List.size_toArray, List.length_cons, List.length_nil, Nat.reduceAdd, Nat.reduceSub, Array.replicate_succ, Array.replicate_zero, List.push_toArray, List.append_toArray, List.nil_append, List.cons_append]
  have hrow0 : Blk (w.alloc (.cells #[.int .i64 (-1)] 3)) w.heap.size 3 [.int .i64 (-1)] := heap_alloc_new w _
  gi_wp2_with fail
  refine ⟨trivial, rfl, ?_⟩
  refine (callsIn_wide.2 (repeat_any (-1) n w.heap.size _ hn0 hn20 (Lib.hid hrow0))).mono ?_
  rintro e v1 ⟨rfl, hr1, hb1⟩
  rw [World.size_alloc] at hr1
  have R1 := Lib.hid (show Blk v1 (w.heap.size + 1) 3 (numsV n (fun _ => -1)) by rw [← numsV_const]; exact hr1)
  have B1 := Lib.hid (Below.tr (below1 _ _) hb1)
  have hz1 : w.heap.size + 1 < v1.heap.size := R1.out.lt
  clear hr1 hb1
  gi_wp2_with fail
  refine ⟨trivial, rfl, ?_⟩
  refine (callsIn_wide.2 (arcs_any _ _ _ _)).mono ?_
  rintro e w' ⟨rfl, rfl⟩
  gi_wp2_with fail
  obtain ⟨V, hV⟩ : ∃ V, (v1.alloc (.cells #[.slice (some ⟨w.heap.size + 1, 0, none⟩) n n] 28)).alloc (.cells #[.slice A1 n c1] 45) = V := ⟨_, rfl⟩
  obtain ⟨x0, x1⟩ := two_boxes v1 (.slice (some ⟨w.heap.size + 1, 0, none⟩) n n) 28 (.slice A1 n c1) 45
  have sz : V.heap.size = v1.heap.size + 2 := by rw [← hV]; simp
  have BV : Below v1.heap.size v1 V := by rw [← hV]; exact below2 _ _ _
  rw [hV] at x0 x1 ⊢
  clear hV
  have X1 := Lib.hid x1
  have RV := Lib.hid (R1.out.below BV)
  have BW := Lib.hid (Below.tr B1.out BV)
  have hT : ∀ i, (i < w.heap.size ∨ i = v1.heap.size + 1) → i < V.heap.size := fun i h => by omega
  refine rangeR (n := 0) (gf := 60) (lb := #[.pointer (some ⟨v1.heap.size + 1, 0, none⟩)]) rfl (enters_of Try.func60 (by kernel_rfl) rfl)
    (arcs_seq l g n c1 (v1.heap.size + 1) A1 V w _ hn hn20 hn0 L1 BW X1 (fun i h => .inl h) (.inr rfl) hT)
    (fun _ => rfl) hT
    (fun pre W => (∃ f, Blk W (w.heap.size + 1) 3 (numsV n f) ∧ NI l pre f) ∧ Blk W v1.heap.size 28 [.slice (some ⟨w.heap.size + 1, 0, none⟩) n n] ∧ Below w.heap.size w W) ?_ ?_
    (fun x => { tmps := #[.slice A1 n c1, undef, .slice none 0 0, .pointer (some ⟨v1.heap.size, 0, none⟩), .int .i64 x.1, .int .i64 x.2, .slice (some ⟨w.heap.size, 0, none⟩) 1 1, .slice A1 n c1, .int .i64 n, .slice (some ⟨w.heap.size + 1, 0, none⟩) n n, .slice A1 n c1, .func (.func 60) #[] #[.pointer (some ⟨v1.heap.size + 1, 0, none⟩)], .int .i64 x.1, .int .i64 x.2, undef, undef, undef, undef, undef, undef, undef, undef, undef, undef, undef, undef, undef, undef, undef, undef, undef, undef, undef, undef], defers := [] })
    ?assign ?body ?done
  · rintro s X Y ⟨⟨f, q1, q0⟩, q2, q3⟩ hk
    exact ⟨⟨f, hk.blk q1 (fun q => by unfold Prv at q; omega), q0⟩, hk.blk q2 (fun q => by unfold Prv at q; omega), hk.below q3 q3.size (fun i q => by unfold Prv at q; omega)⟩
  · exact ⟨⟨_, RV.out, ni_start l⟩, x0, BW.out⟩
  case assign =>
    intro l m x W K hK
    gi_wp2
    exact hK
  case body =>
    rintro l2 m2 pre p rest W hxs ⟨⟨f, q1, q0⟩, q2, q3⟩ hsz
    obtain ⟨a, d, rfl, had, hdn, -, har⟩ := arcs_mem g hxs
    rw [hn.out] at hdn
    have HXS := Lib.hid hxs
    have Q0 := Lib.hid q0
    have Q1 := Lib.hid q1
    have Q2 := Lib.hid q2
    have Q3 := Lib.hid q3
    have HAR := Lib.hid har
    have cd := (Q1.out.cell d).trans (numsV_at f hdn)
    have fd := Q1.out.frozen d
    have c3 := Q2.out.cell 0
    simp only [List.getElem?_cons_zero] at c3
    have hd' : (d : Int) < (n : Int) := by omega
    clear hxs q0 q1 q2 q3 har
    by_cases hm : f d = -1
    · have HM := Lib.hid hm
      rw [hm] at cd
      clear hm
      gi_wp2
      refine ⟨Kept.set.mono (fun i q => ⟨fun tt => by omega, fun p => by unfold Prv at p; omega⟩), ⟨_, ?_, ni_first g HXS.out Q0.out HM.out⟩, Q2.out.far (by omega) _, Q3.out.setCell (by simp) _⟩
      rw [← numsV_set]
      exact Q1.out.set d (.int .i64 a)
    · obtain ⟨v, hv, hvr, p, hpd, hpr, hvp, hpt⟩ := ni_reached g HXS.out Q0.out (by rw [hn.out]; exact hdn) hm
      have hva : v ≤ a := by
        have h1 := arcs_sorted l
        rw [HXS.out, List.pairwise_append] at h1
        have h2 := h1.2.2 _ hpt _ (List.mem_cons_self ..)
        simp only at h2
        omega
      have HV := Lib.hid hv
      obtain ⟨c, hc⟩ := last_ex (edg l) (v + a) v a (Nat.le_refl _) hvr HAR.out
      have HC := Lib.hid hc
      have HVR := Lib.hid hvr
      rw [hv] at cd
      have hne : ((v : Int) == (-1 : Int)) = false := by simp
      clear hm hv hpt hc hvr
      gi_wp2
      refine still_round 9 (by rintro ⟨_, _, h⟩; exact h) (by kernel_rfl) (by kernel_rfl) (by kernel_rfl) ?_
      simp only [List.take_succ_cons, List.take_zero, List.drop_succ_cons, List.drop_zero]
      still_step
      still_step
      still_step
      still_step
      still_step
      still_step
      still_step
      still_step
      still_call ((lastCommon_any (edg l) n a (w.heap.size + 1) v a c f _ (Lib.hid (show Blk W.drew (w.heap.size + 1) 3 (numsV n f) from Q1.out)) (Lib.hid (fun j hj => ni_done g HXS.out Q0.out hj)) (by omega) hva (Nat.le_refl _) HVR HAR HC).mono (fun e w' h => ⟨h.1, h.2.symm⟩))
      refine wpStill_nil ?_
      go_wp2
      have kz : Kept W (W.setCell ⟨w.heap.size + 1, d, none⟩ (.int .i64 c)) (fun i => i = w.heap.size + 1) := Kept.set
      have kd : Kept (W.setCell ⟨w.heap.size + 1, d, none⟩ (.int .i64 c)) (W.setCell ⟨w.heap.size + 1, d, none⟩ (.int .i64 c)).drew (fun i => i = w.heap.size + 1) := ⟨rfl, rfl, rfl, Nat.le_refl _, fun _ _ _ => rfl⟩
      refine ⟨(kz.trans kd).mono (fun i q => ⟨fun tt => by omega, fun p => by unfold Prv at p; omega⟩), ⟨_, ?_, ni_more g HXS.out Q0.out HV.out HC.out⟩, Q2.out.far (by omega) _, Below.drew (Q3.out.setCell (by simp) _)⟩
      rw [← numsV_set]
      exact Q1.out.set d (.int .i64 c)
  case done =>
    rintro D W rfl ⟨⟨f, q1, q0⟩, q2, q3⟩ hK
    have c3 := q2.cell 0
    simp only [List.getElem?_cons_zero] at c3
    gi_wp2
    refine ⟨by simp, .inl ⟨_, _, rfl, run_takeDeferred hK, ?_⟩⟩
    refine ⟨_, results_tmp rfl _ _ _, w.heap.size + 1, rfl, by omega, ?_, (Kept.put W _ _).below q3 q3.size (fun i q => by omega)⟩
    have e := (Kept.put W V.heap.size (.deferred none)).blk q1 (by omega)
    rw [numsV_ext (fun j hj => ni_end g q0 (by rw [hn.out]; exact hj))] at e
    exact e
def nearR (xs : List Stp) : List Int := nearF (ktOf xs) xs.length
set_option maxRecDepth 100000 in
set_option maxHeartbeats 4000000 in
theorem implNear_any (A : Option Addr) (n cap : Nat) (xs : List Stp) (w : World) (b : Bool) (l : List Int) (hr : Hid (TwoRes (Good xs) (nearR xs) b l)) (hl : Hid (Lies w A xs)) (hx : Hid (xs.length = n)) (hn : n ≤ 1048576) :
    Calls Try.prog 36 #[.slice A n cap] w (GaveTwo w l b) := by
  go_enter Try.func36, Try.ntmps36
  go_wp2_with fail
  refine (flowOf_any _ _ _ xs _ b (Lib.hid hr.out.1) hl hx hn).mono ?_
  rintro e w1 ⟨h1, h2⟩
  cases b
  · obtain ⟨rfl, hb1⟩ := h2 rfl
    have B1 := Lib.hid hb1
    clear hb1 h1 h2
    obtain rfl := hr.out.2.1 rfl
    go_wp2
    go_ret2
    exact two_nil w _ B1.out
  · obtain ⟨A1, c1, rfl, hl1, hb1⟩ := h1 rfl
    have B1 := Lib.hid hb1
    have L1 := Lib.hid hl1
    have GX := Lib.hid (hr.out.1.1 rfl)
    have hle := hr.out.2.2 rfl
    subst hle
    clear hb1 hl1 h1 h2
    obtain ⟨hn0, hn20⟩ := good_20 GX.out hx.out
    go_wp2_with fail
    refine (nearest_any (ktOf xs) (good_kt GX.out) n c1 A1 w1 (Lib.hid (by rw [ktOf_len]; exact hx.out)) hn0 hn20 L1).mono ?_
    rintro e w2 ⟨gr, rfl, hg, hrow, hb2⟩
    have R2 := Lib.hid hrow
    have B2 := Lib.hid (Below.tr B1.out hb2)
    have hz : w.heap.size ≤ gr := Nat.le_trans B1.out.size hg
    clear hrow hb2 hg
    go_wp2
    go_ret2
    have el : (nearR xs).length = n := by unfold nearR nearF; rw [List.length_map, List.length_range]; exact hx.out
    have e : (nearR xs).map (Value.int .i64) = numsV n (nearN (edg (ktOf xs))) := by unfold nearR; rw [near_row, hx.out]
    have ho := own_of_vblk R2.out (numsV_len _ _) hn
    rw [← e] at ho
    exact two_of el (own_base ho hz) B2.out
def mustR (xs : List Stp) (at_ : Int) : List Int := castL (domL (edg (ktOf xs)) at_.toNat)
abbrev ThereR (xs : List Stp) (n : Nat) (at_ : Int) : Prop := There xs n at_ ∧ rb (edg (ktOf xs)) 0 at_.toNat = true
set_option maxRecDepth 100000 in
set_option maxHeartbeats 8000000 in
theorem implMust_any (A : Option Addr) (n cap : Nat) (at_ : Int) (xs : List Stp) (w : World) (b : Bool) (l : List Int) (hr : Hid (TwoRes (ThereR xs n at_) (mustR xs at_) b l)) (hl : Hid (Lies w A xs)) (hx : Hid (xs.length = n)) (hn : n ≤ 1048576) :
    Calls Try.prog 34 #[.slice A n cap, .int .i64 at_] w (GaveTwo w l b) := by
  obtain ⟨i0, hi0, hz0, hz1, hz2⟩ := info_parts info_int
  obtain ⟨b0, l0, hr0⟩ := two_res (There xs n at_) []
  have HR0 := Lib.hid hr0
  clear hr0
  go_enter Try.func34, Try.ntmps34
  go_wp2_with fail
  refine (flowAround_any _ _ _ _ xs _ b0 (Lib.hid HR0.out.1) hl hx hn).mono ?_
  rintro e w1 ⟨h1, h2⟩
  cases b0
  · obtain ⟨rfl, hb1⟩ := h2 rfl
    have B1 := Lib.hid hb1
    clear hb1 h1 h2
    obtain ⟨rfl, rfl⟩ := hr.out.no (fun h => by have := HR0.out.1.2 h.1; cases this)
    go_wp2
    go_ret2
    exact two_nil w _ B1.out
  · obtain ⟨A1, c1, rfl, hl1, hb1⟩ := h1 rfl
    have B1 := Lib.hid hb1
    have L1 := Lib.hid hl1
    obtain ⟨GX, g0, g1⟩ := HR0.out.1.1 rfl
    obtain ⟨f, rfl⟩ := Int.eq_ofNat_of_zero_le g0
    have hfn : f < n := by omega
    have HGX := Lib.hid GX
    have hfn' : (f : Int) < (n : Int) := g1
    obtain ⟨hn0, hn20⟩ := good_20 GX hx.out
    clear hb1 hl1 h1 h2 GX
    go_wp2_with fail
    refine (nearest_any (ktOf xs) (good_kt HGX.out) n c1 A1 w1 (Lib.hid (by rw [ktOf_len]; exact hx.out)) hn0 hn20 L1).mono ?_
    rintro e w2 ⟨gr, rfl, hg, hrow, hb2⟩
    have R2 := Lib.hid hrow
    have B2 := Lib.hid (Below.tr B1.out hb2)
    have hz : w.heap.size ≤ gr := Nat.le_trans B1.out.size hg
    have cf := (R2.out.cell f).trans (numsV_at _ hfn)
    clear hrow hb2 hg
    by_cases hrb : rb (edg (ktOf xs)) 0 f = true
    · obtain ⟨rfl, rfl⟩ := hr.out.yes ⟨⟨HGX.out, by omega, g1⟩, by rw [Int.toNat_natCast]; exact hrb⟩
      have HRB := Lib.hid hrb
      clear hrb
      rcases Nat.eq_zero_or_pos f with hf0 | hf0
      · have hne0 : ((f : Int) != (0 : Int)) = false := by simp; omega
        clear hf0
        go_wp2
        go_loopw [9, 10] (fun pv sv wr => ∃ (P : List Nat) (A2 : Option Addr) (c2 : Nat), pv = .slice A2 P.length c2 ∧ wr.ownsRow w2.heap.size 3 1 (.slice A2 P.length c2) P.length ((castL P).map (Value.int .i64)) ∧ Below w2.heap.size w2 wr ∧
          ((∃ s : Nat, sv = .int .i64 s ∧ s ≤ f ∧ rb (edg (ktOf xs)) 0 s = true ∧ domL (edg (ktOf xs)) f = domL (edg (ktOf xs)) s ++ P.reverse) ∨ (sv = .int .i64 (-1) ∧ domL (edg (ktOf xs)) f = P.reverse))) (fun _ i _ => (intOf i + 1).toNat)
        case atStart => exact ⟨[], none, 0, rfl, World.ownsRow_nil _ _ _ _, Below.refl _ _, .inl ⟨f, rfl, Nat.le_refl _, HRB.out, by simp⟩⟩
        case round =>
          obtain ⟨P, A2, c2, rfl, hown, hbb, hcase⟩ := hrel
          have O1 := Lib.hid hown
          have C1 := Lib.hid hbb
          obtain ⟨k, hk⟩ : ∃ k, P.length = k := ⟨_, rfl⟩
          have HK := Lib.hid hk
          rw [hk] at O1
          clear hown hbb
          rcases hcase with ⟨s, rfl, hsf, hsr, hdom⟩ | ⟨rfl, hdom⟩
          · have HSR := Lib.hid hsr
            have HD := Lib.hid hdom
            have hkl : k ≤ 20 := by
              have h1 := congrArg List.length hdom
              have h2 : (domL (edg (ktOf xs)) f).length ≤ f + 1 := by have := List.length_filter_le (fun k => dm (edg (ktOf xs)) k f) (List.range (f + 1)); rw [List.length_range] at this; exact this
              rw [List.length_append, List.length_reverse] at h1
              omega
            have cs := ((R2.out.below C1.out).cell s).trans (numsV_at _ (by omega))
            have hsn : (s : Int) < (n : Int) := by omega
            have hne : ((s : Int) != (-1 : Int)) = true := by simp
            have hlt2 : gr < wr.heap.size := (R2.out.below C1.out).lt
            clear hsr hdom hk
            rw [HK.out]
            rcases Nat.eq_zero_or_pos s with hs0 | hs0
            · have HN := Lib.hid (near_none (E := edg (ktOf xs)) (i := s) (fun h => by omega))
              rw [HN.out] at cs
              have HS0 := Lib.hid hs0
              clear hs0
              go_wp2_with (at_builtin; (refine wpList_append_lies _ rfl _ _ 28 rfl w2.heap.size 3 i0 (.int .i64 0) 1 8 Try.underlying28 hi0 hz0 hz1 hz2 rfl (by omega) _ k _ rfl (O1.out.alloc _) ⟨wr.heap.size, 0, none⟩ 1 1 [.int .i64 s] rfl rfl (one_new1 wr _ _) (by intro u hu; rw [List.mem_singleton.1 hu]; rfl) (by omega) (by unfold maxLen; omega) (by omega) (by have := C1.out.size; first | omega | (simp; omega)) (wr.heap.size + 1) (by first | rfl | simp) ?_; intro g4 cap4 w4 hown4 hg4 hat4 hlt4; have H4 := Lib.hid (app1 O1.out hown4 hg4 C1.out (Nat.le_refl _)); have cs4 := ((R2.out.below H4.out.2).cell s).trans (numsV_at _ (by omega)); rw [HN.out] at cs4; clear hown4 hg4))
              rw [show k + 1 = (P ++ [s]).length by simp [HK.out]]
              go_roundw
              case rel => exact ⟨P ++ [s], some ⟨g4, 0, none⟩, cap4, rfl, by rw [castL_app, List.length_append, HK.out]; exact H4.out.1, H4.out.2, .inr ⟨rfl, by rw [HD.out, HS0.out, dom_zero]; simp⟩⟩
              case measure => simp [intOf]
            · obtain ⟨d, hd, hds, hdr, hdc⟩ := near_char HSR.out (by omega)
              rw [hd] at cs
              have HNR := Lib.hid hd
              have HDR := Lib.hid hdr
              have HDC := Lib.hid hdc
              clear hd hdr hdc
              go_wp2_with (at_builtin; (refine wpList_append_lies _ rfl _ _ 28 rfl w2.heap.size 3 i0 (.int .i64 0) 1 8 Try.underlying28 hi0 hz0 hz1 hz2 rfl (by omega) _ k _ rfl (O1.out.alloc _) ⟨wr.heap.size, 0, none⟩ 1 1 [.int .i64 s] rfl rfl (one_new1 wr _ _) (by intro u hu; rw [List.mem_singleton.1 hu]; rfl) (by omega) (by unfold maxLen; omega) (by omega) (by have := C1.out.size; first | omega | (simp; omega)) (wr.heap.size + 1) (by first | rfl | simp) ?_; intro g4 cap4 w4 hown4 hg4 hat4 hlt4; have H4 := Lib.hid (app1 O1.out hown4 hg4 C1.out (Nat.le_refl _)); have cs4 := ((R2.out.below H4.out.2).cell s).trans (numsV_at _ (by omega)); rw [HNR.out] at cs4; clear hown4 hg4))
              rw [show k + 1 = (P ++ [s]).length by simp [HK.out]]
              go_roundw
              case rel => exact ⟨P ++ [s], some ⟨g4, 0, none⟩, cap4, rfl, by rw [castL_app, List.length_append, HK.out]; exact H4.out.1, H4.out.2, .inl ⟨d, rfl, by omega, HDR.out, by rw [HD.out, dom_up HSR.out hds HDC.out HDR.out]; simp⟩⟩
              case measure => simp [intOf]; omega
          · have HD := Lib.hid hdom
            clear hdom hk
            rw [HK.out]
            have hkl : k ≤ 20 := by
              have h1 := congrArg List.length HD.out
              have h2 : (domL (edg (ktOf xs)) f).length ≤ f + 1 := by have := List.length_filter_le (fun k => dm (edg (ktOf xs)) k f) (List.range (f + 1)); rw [List.length_range] at this; exact this
              rw [List.length_reverse, HK.out] at h1
              omega
            go_wp2_with fail
            refine (reverse_any w2.heap.size k c2 A2 (castL P) wr O1 (Lib.hid (by rw [castL_len]; exact HK.out)) (by omega)).mono ?_
            rintro e w5 ⟨⟨v, rfl⟩, ho5, hg5⟩
            have O5 := Lib.hid ho5
            have B5 := Lib.hid (C1.out.grown hg5 C1.out.size (fun g e => (O1.out.lt g e).1))
            clear ho5 hg5
            go_wp2
            go_ret2
            have e1 : (castL P).reverse = mustR xs f := by
              unfold mustR
              rw [Int.toNat_natCast, HD.out]
              unfold castL
              rw [List.map_reverse]
            have e2 : (mustR xs f).length = k := by rw [← e1, List.length_reverse, castL_len]; exact HK.out
            have o5 := O5.out
            rw [e1] at o5
            exact two_of e2 (own_base o5 B2.out.size) (Below.tr B2.out B5.out)
      · have hne0 : ((f : Int) != (0 : Int)) = true := by simp; omega
        obtain ⟨d, hd, _⟩ := near_char HRB.out (by omega)
        rw [hd] at cf
        have hdm : ((d : Int) == (-1 : Int)) = false := by simp
        clear hd
        go_wp2
        go_loopw [9, 10] (fun pv sv wr => ∃ (P : List Nat) (A2 : Option Addr) (c2 : Nat), pv = .slice A2 P.length c2 ∧ wr.ownsRow w2.heap.size 3 1 (.slice A2 P.length c2) P.length ((castL P).map (Value.int .i64)) ∧ Below w2.heap.size w2 wr ∧
          ((∃ s : Nat, sv = .int .i64 s ∧ s ≤ f ∧ rb (edg (ktOf xs)) 0 s = true ∧ domL (edg (ktOf xs)) f = domL (edg (ktOf xs)) s ++ P.reverse) ∨ (sv = .int .i64 (-1) ∧ domL (edg (ktOf xs)) f = P.reverse))) (fun _ i _ => (intOf i + 1).toNat)
        case atStart => exact ⟨[], none, 0, rfl, World.ownsRow_nil _ _ _ _, Below.refl _ _, .inl ⟨f, rfl, Nat.le_refl _, HRB.out, by simp⟩⟩
        case round =>
          obtain ⟨P, A2, c2, rfl, hown, hbb, hcase⟩ := hrel
          have O1 := Lib.hid hown
          have C1 := Lib.hid hbb
          obtain ⟨k, hk⟩ : ∃ k, P.length = k := ⟨_, rfl⟩
          have HK := Lib.hid hk
          rw [hk] at O1
          clear hown hbb
          rcases hcase with ⟨s, rfl, hsf, hsr, hdom⟩ | ⟨rfl, hdom⟩
          · have HSR := Lib.hid hsr
            have HD := Lib.hid hdom
            have hkl : k ≤ 20 := by
              have h1 := congrArg List.length hdom
              have h2 : (domL (edg (ktOf xs)) f).length ≤ f + 1 := by have := List.length_filter_le (fun k => dm (edg (ktOf xs)) k f) (List.range (f + 1)); rw [List.length_range] at this; exact this
              rw [List.length_append, List.length_reverse] at h1
              omega
            have cs := ((R2.out.below C1.out).cell s).trans (numsV_at _ (by omega))
            have hsn : (s : Int) < (n : Int) := by omega
            have hne : ((s : Int) != (-1 : Int)) = true := by simp
            have hlt2 : gr < wr.heap.size := (R2.out.below C1.out).lt
            clear hsr hdom hk
            rw [HK.out]
            rcases Nat.eq_zero_or_pos s with hs0 | hs0
            · have HN := Lib.hid (near_none (E := edg (ktOf xs)) (i := s) (fun h => by omega))
              rw [HN.out] at cs
              have HS0 := Lib.hid hs0
              clear hs0
              go_wp2_with (at_builtin; (refine wpList_append_lies _ rfl _ _ 28 rfl w2.heap.size 3 i0 (.int .i64 0) 1 8 Try.underlying28 hi0 hz0 hz1 hz2 rfl (by omega) _ k _ rfl (O1.out.alloc _) ⟨wr.heap.size, 0, none⟩ 1 1 [.int .i64 s] rfl rfl (one_new1 wr _ _) (by intro u hu; rw [List.mem_singleton.1 hu]; rfl) (by omega) (by unfold maxLen; omega) (by omega) (by have := C1.out.size; first | omega | (simp; omega)) (wr.heap.size + 1) (by first | rfl | simp) ?_; intro g4 cap4 w4 hown4 hg4 hat4 hlt4; have H4 := Lib.hid (app1 O1.out hown4 hg4 C1.out (Nat.le_refl _)); have cs4 := ((R2.out.below H4.out.2).cell s).trans (numsV_at _ (by omega)); rw [HN.out] at cs4; clear hown4 hg4))
              rw [show k + 1 = (P ++ [s]).length by simp [HK.out]]
              go_roundw
              case rel => exact ⟨P ++ [s], some ⟨g4, 0, none⟩, cap4, rfl, by rw [castL_app, List.length_append, HK.out]; exact H4.out.1, H4.out.2, .inr ⟨rfl, by rw [HD.out, HS0.out, dom_zero]; simp⟩⟩
              case measure => simp [intOf]
            · obtain ⟨d, hd, hds, hdr, hdc⟩ := near_char HSR.out (by omega)
              rw [hd] at cs
              have HNR := Lib.hid hd
              have HDR := Lib.hid hdr
              have HDC := Lib.hid hdc
              clear hd hdr hdc
              go_wp2_with (at_builtin; (refine wpList_append_lies _ rfl _ _ 28 rfl w2.heap.size 3 i0 (.int .i64 0) 1 8 Try.underlying28 hi0 hz0 hz1 hz2 rfl (by omega) _ k _ rfl (O1.out.alloc _) ⟨wr.heap.size, 0, none⟩ 1 1 [.int .i64 s] rfl rfl (one_new1 wr _ _) (by intro u hu; rw [List.mem_singleton.1 hu]; rfl) (by omega) (by unfold maxLen; omega) (by omega) (by have := C1.out.size; first | omega | (simp; omega)) (wr.heap.size + 1) (by first | rfl | simp) ?_; intro g4 cap4 w4 hown4 hg4 hat4 hlt4; have H4 := Lib.hid (app1 O1.out hown4 hg4 C1.out (Nat.le_refl _)); have cs4 := ((R2.out.below H4.out.2).cell s).trans (numsV_at _ (by omega)); rw [HNR.out] at cs4; clear hown4 hg4))
              rw [show k + 1 = (P ++ [s]).length by simp [HK.out]]
              go_roundw
              case rel => exact ⟨P ++ [s], some ⟨g4, 0, none⟩, cap4, rfl, by rw [castL_app, List.length_append, HK.out]; exact H4.out.1, H4.out.2, .inl ⟨d, rfl, by omega, HDR.out, by rw [HD.out, dom_up HSR.out hds HDC.out HDR.out]; simp⟩⟩
              case measure => simp [intOf]; omega
          · have HD := Lib.hid hdom
            clear hdom hk
            rw [HK.out]
            have hkl : k ≤ 20 := by
              have h1 := congrArg List.length HD.out
              have h2 : (domL (edg (ktOf xs)) f).length ≤ f + 1 := by have := List.length_filter_le (fun k => dm (edg (ktOf xs)) k f) (List.range (f + 1)); rw [List.length_range] at this; exact this
              rw [List.length_reverse, HK.out] at h1
              omega
            go_wp2_with fail
            refine (reverse_any w2.heap.size k c2 A2 (castL P) wr O1 (Lib.hid (by rw [castL_len]; exact HK.out)) (by omega)).mono ?_
            rintro e w5 ⟨⟨v, rfl⟩, ho5, hg5⟩
            have O5 := Lib.hid ho5
            have B5 := Lib.hid (C1.out.grown hg5 C1.out.size (fun g e => (O1.out.lt g e).1))
            clear ho5 hg5
            go_wp2
            go_ret2
            have e1 : (castL P).reverse = mustR xs f := by
              unfold mustR
              rw [Int.toNat_natCast, HD.out]
              unfold castL
              rw [List.map_reverse]
            have e2 : (mustR xs f).length = k := by rw [← e1, List.length_reverse, castL_len]; exact HK.out
            have o5 := O5.out
            rw [e1] at o5
            exact two_of e2 (own_base o5 B2.out.size) (Below.tr B2.out B5.out)
    · obtain ⟨rfl, rfl⟩ := hr.out.no (fun h => hrb (by have := h.2; rw [Int.toNat_natCast] at this; exact this))
      have hf0 : f ≠ 0 := fun e => hrb (by rw [e]; exact rb_self _ _)
      rw [near_none (fun h => hrb h.1)] at cf
      have hne : ((f : Int) != (0 : Int)) = true := by simp; omega
      go_wp2
      go_ret2
      exact two_nil w _ B2.out
end Go.Proofs.Ytilnegmjnbffhaa
