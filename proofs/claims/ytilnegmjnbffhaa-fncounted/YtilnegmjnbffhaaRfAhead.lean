/-
  AheadOf of the program.
-/
import Derived.Test.YtilnegmjnbffhaaRfMath2
namespace Go.Proofs.Ytilnegmjnbffhaa
open Go.ChangeShapes Go.WideShapes Go.ChangeAt Go.RowKit
attribute [local go_sem] Oper.semAt_some

def aheadR (xs : List Stp) (at_ : Int) : List Int := castL (aheadL (edg (ktOf xs)) xs.length at_.toNat)
theorem ahead_len (E : Nat → Nat → Bool) (n i : Nat) : (castL (aheadL E n i)).length ≤ n := by
  rw [castL_len]
  have h1 : (aheadL E n i).length ≤ (reachL E n 0).length := List.length_filter_le _ _
  have h2 := reach_len E n 0
  rw [castL_len] at h2
  omega
theorem ahead_fin {xs : List Stp} (h : Good xs) (f : Nat) : ((arcsI (ktOf xs)).filter (fun p => decide (p.2 = (f : Int)))).map Prod.fst = aheadR xs f := by
  rw [ahead_eq (good_kt h), ktOf_len]; rfl
theorem arcsOf_len {l : KT} : ∀ (t : List Int), (arcsOf l t).length ≤ 2 * t.length
  | [] => by simp [arcsOf]
  | a :: t => by
    have ih := arcsOf_len (l := l) t
    unfold arcsOf at ih ⊢
    rw [List.flatMap_cons, List.length_append, List.length_cons]
    have : (arcA l a).length ≤ 2 := by
      unfold arcA
      split
      · rw [List.length_map]; exact nexts_len _ _ _
      · simp
    omega
theorem arcs_len {l : KT} {t r : List (Int × Int)} {n : Nat} (hn : l.length = n) (h : arcsI l = t ++ r) : t.length ≤ 2 * n := by
  have h1 := congrArg List.length h
  have h2 := arcsOf_len (l := l) (castL (reachL (edg l) l.length 0))
  have h3 := reach_len (edg l) l.length 0
  unfold arcsI at h1
  rw [List.length_append] at h1
  omega
set_option maxRecDepth 100000 in
set_option maxHeartbeats 4000000 in
theorem implAhead_any (A : Option Addr) (n cap : Nat) (at_ : Int) (xs : List Stp) (w : World) (b : Bool) (l : List Int) (hr : Hid (TwoRes (There xs n at_) (aheadR xs at_) b l)) (hl : Hid (Lies w A xs)) (hx : Hid (xs.length = n)) (hn : n ≤ 1048576) :
    Calls Try.prog 14 #[.slice A n cap, .int .i64 at_] w (GaveTwo w l b) := by
  obtain ⟨i0, hi0, hz0, hz1, hz2⟩ := info_parts info_int
  refine (callsIn_wide (n := 0)).1 ?_
  refine callsIn_of_wp_marks Try.func14 rfl trivial ?_ rfl
  simp only [Try.ntmps14, List.size_toArray, List.length_cons, List.length_nil, Nat.reduceAdd, Nat.reduceSub, Array.replicate_succ, Array.replicate_zero, List.push_toArray, List.append_toArray, List.nil_append, List.cons_append]
  gi_wp2_with fail
  refine ⟨trivial, rfl, ?_⟩
  refine (callsIn_wide.2 (flowAround_any _ _ _ _ xs _ b (Lib.hid hr.out.1) (Lib.hid (hl.out.below (below1 _ _))) hx hn)).mono ?_
  rintro e w1 ⟨h1, h2⟩
  have P1 : Hid (Blk (w.alloc (.cells #[.int .i64 at_] 3)) w.heap.size 3 [.int .i64 at_]) := Lib.hid (heap_alloc_new w _)
  cases b
  · obtain ⟨rfl, hb1⟩ := h2 rfl
    have B1 := Lib.hid (Below.tr (below1 _ _) hb1)
    clear hb1 h1 h2 P1
    obtain rfl := hr.out.2.1 rfl
    gi_wp2
    exact ⟨_, results_tmp2 rfl _ _ _, none, 0, rfl, World.ownsRow_nil _ _ _ _, B1.out⟩
  · obtain ⟨A1, c1, rfl, hl1, hb1⟩ := h1 rfl
    have B1 := Lib.hid (Below.tr (below1 _ _) hb1)
    have P2 := Lib.hid (P1.out.below hb1)
    have L1 := Lib.hid hl1
    obtain ⟨GX, g0, g1⟩ := hr.out.1.1 rfl
    obtain ⟨f, rfl⟩ := Int.eq_ofNat_of_zero_le g0
    have hfn : f < n := by omega
    have HGX := Lib.hid GX
    have hle := hr.out.2.2 rfl
    subst hle
    obtain ⟨hn0, hn20⟩ := good_20 HGX.out hx.out
    clear hb1 hl1 h1 h2 P1 GX
    have hwz : w.heap.size < w1.heap.size := P2.out.lt
    gi_wp2_with fail
    refine ⟨trivial, rfl, ?_⟩
    refine (callsIn_wide.2 (arcs_any _ _ _ _)).mono ?_
    rintro e w' ⟨rfl, rfl⟩
    gi_wp2_with fail
    obtain ⟨V, hV⟩ : ∃ V, (w1.alloc (.cells #[.slice none 0 0] 28)).alloc (.cells #[.slice A1 n c1] 45) = V := ⟨_, rfl⟩
    obtain ⟨x0, x1⟩ := two_boxes w1 (.slice none 0 0) 28 (.slice A1 n c1) 45
    have sz : V.heap.size = w1.heap.size + 2 := by rw [← hV]; simp
    have BV : Below w1.heap.size w1 V := by rw [← hV]; exact below2 _ _ _
    rw [hV] at x0 x1 ⊢
    clear hV
    have X1 := Lib.hid x1
    have hT : ∀ i, (i < w1.heap.size ∨ i = w1.heap.size + 1) → i < V.heap.size := fun i h => by omega
    have HKL : Hid ((ktOf xs).length = n) := Lib.hid (by rw [ktOf_len]; exact hx.out)
    refine rangeR (n := 0) (gf := 60) (lb := #[.pointer (some ⟨w1.heap.size + 1, 0, none⟩)]) rfl (enters_of Try.func60 (by kernel_rfl) rfl)
      (arcs_seq (ktOf xs) (good_kt HGX.out) n c1 (w1.heap.size + 1) A1 V w1 _ HKL hn20 hn0 L1 (Lib.hid BV) X1 (fun i h => .inl h) (.inr rfl) hT)
      (fun _ => rfl) hT
      (fun pre W => CB W w1.heap.size (V.heap.size + (2 + 6)) ((pre.filter (fun p => decide (p.2 = (f : Int)))).map Prod.fst) ∧ Below w1.heap.size w1 W) ?_ ?_
      (fun x => { tmps := #[.slice A n cap, .int .i64 f, undef, .pointer (some ⟨w.heap.size, 0, none⟩), .slice none 0 0, .bool false, .slice A1 n c1, .bool true, .pointer (some ⟨w1.heap.size, 0, none⟩), .int .i64 x.1, .int .i64 x.2, .tuple #[.slice A1 n c1, .bool true], .slice A n cap, .int .i64 f, .tuple #[.slice A1 n c1, .bool true], .slice A1 n c1, .bool true, .bool true, .bool false, .slice A1 n c1, .func (.func 60) #[] #[.pointer (some ⟨w1.heap.size + 1, 0, none⟩)], .int .i64 x.1, .int .i64 x.2, undef, undef, undef, undef, undef, undef, undef, undef], defers := [] })
      ?assign ?body ?done
    · rintro s X Y ⟨q1, q2⟩ hk
      exact ⟨q1.kept hk (fun q => by unfold Prv at q; omega) (fun g q => by unfold Prv at q; omega), hk.below q2 q2.size (fun i q => by unfold Prv at q; omega)⟩
    · exact ⟨⟨none, 0, x0, World.ownsRow_nil _ _ _ _⟩, BV⟩
    case assign =>
      intro l m x W K hK
      gi_wp2
      exact hK
    case body =>
      rintro l2 m2 pre p rest W hxs ⟨⟨A2, c2, q1, q2⟩, q3⟩ hsz
      obtain ⟨a, d, rfl, -, -, -, -⟩ := arcs_mem (good_kt HGX.out) hxs
      have Q1 := Lib.hid q1
      have Q2 := Lib.hid q2
      have Q3 := Lib.hid q3
      have hpl := arcs_len HKL.out hxs
      have hfl : ((pre.filter (fun p => decide (p.2 = (f : Int)))).map Prod.fst).length ≤ 40 := by rw [List.length_map]; have := List.length_filter_le (fun p : Int × Int => decide (p.2 = (f : Int))) pre; omega
      clear hxs q1 q2 q3
      have PB := Lib.hid (P2.out.below Q3.out)
      have c0 := PB.out.cell 0
      have c3 := Q1.out.cell 0
      simp only [List.getElem?_cons_zero] at c0 c3
      have hlt3 := Q1.out.lt
      obtain ⟨fl, hfle⟩ : ∃ fl, (pre.filter (fun p => decide (p.2 = (f : Int)))).map Prod.fst = fl := ⟨_, rfl⟩
      have FL := Lib.hid hfle
      rw [hfle] at Q1 Q2 c3 hfl
      clear hfle
      by_cases hk : d = f
      · subst hk
        gi_wp2_with (gi_at_builtin; refine wpListIn_append_own _ rfl _ _ 28 rfl (V.heap.size + (2 + 6)) 3 i0 (.int .i64 0) 1 8 Try.underlying28 hi0 hz0 hz1 hz2 rfl (by decide) _ _ _ rfl (own_below Q2.out (below1 _ _)) ⟨(W).heap.size, 0, none⟩ 1 1 [.int .i64 (a)] rfl rfl (one_new1 _ _ _) (by simp [Value.oneCell']) (by unfold maxLen; omega) (by omega) (by simp; omega) ?_; intro v3 w3 hown3 hg3 _; obtain ⟨g3, cap3, rfl⟩ := ownsRow_succ hown3; obtain ⟨hb3, hcb, hkp⟩ := CB.app (by omega) Q1.out Q2.out hown3 hg3; have hc3 := hb3.cell 0; have hf3 := hb3.frozen 0; simp only [List.getElem?_cons_zero] at hc3; have CBX := Lib.hid hcb; have KPX := Lib.hid hkp; clear hcb hkp hown3 hg3)
        rw [List.filter_append, List.map_append, FL.out]
        have : ([((a : Int), (d : Int))].filter (fun p => decide (p.2 = (d : Int)))).map Prod.fst = [(a : Int)] := by simp
        rw [this]
        refine ⟨KPX.out.mono (fun i q => ⟨fun t => ?_, fun p => ?_⟩), CBX.out, KPX.out.below Q3.out Q3.out.size (fun i q => by omega)⟩
        · rcases t with t | t <;> omega
        · unfold Prv at p; omega
      · have hk' : ((d : Int) == (f : Int)) = false := by simp; omega
        gi_wp2
        rw [List.filter_append, List.map_append, FL.out]
        have : ([((a : Int), (d : Int))].filter (fun p => decide (p.2 = (f : Int)))).map Prod.fst = [] := by simp; omega
        rw [this, List.append_nil]
        exact ⟨Kept.refl _ _, ⟨A2, c2, Q1.out, Q2.out⟩, Q3.out⟩
    case done =>
      rintro D W rfl ⟨⟨A2, c2, q1, q2⟩, q3⟩ hK
      rw [ahead_fin HGX.out] at q1 q2
      have hc := q1.cell 0
      simp only [List.getElem?_cons_zero] at hc
      gi_wp2
      refine ⟨by simp, .inl ⟨_, _, rfl, run_takeDeferred hK, ?_⟩⟩
      have hz1 := B1.out.size
      exact ⟨_, results_tmp2 rfl _ _ _, A2, c2, rfl, own_base (ownsRow_putObj q2 _ hK rfl) (by omega), (Kept.put W _ _).below (Below.tr B1.out q3) (by have := q3.size; omega) (fun i q => by omega)⟩
end Go.Proofs.Ytilnegmjnbffhaa
