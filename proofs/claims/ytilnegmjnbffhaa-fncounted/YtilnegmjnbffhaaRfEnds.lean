/-
  EndsFrom of the program.
-/
import Derived.Test.YtilnegmjnbffhaaRfReach
namespace Go.Proofs.Ytilnegmjnbffhaa
open Go.ChangeShapes Go.WideShapes Go.ChangeAt Go.RowKit
attribute [local go_sem] Oper.semAt_some

def endP (xs : List Stp) (a : Int) : Bool := decide (kkA (ktOf xs) a.toNat = 11)
def endsR (xs : List Stp) (at_ : Int) : List Int := castL (endsL (ktOf xs) at_.toNat)
theorem ends_eq (xs : List Stp) (f : Nat) : (castL (reachL (edg (ktOf xs)) xs.length f)).filter (endP xs) = endsR xs f := by
  rw [castL_filter]
  unfold endsR endsL endP
  rw [Int.toNat_natCast, ktOf_len]
  simp only [Int.toNat_natCast]
theorem endP_at {xs : List Stp} {a : Nat} {x : Stp} (h : xs[a]? = some x) : endP xs a = (x.k == 11) := by
  unfold endP kkA
  rw [Int.toNat_natCast, ktOf_at h]
  simp only
  by_cases e : x.k = 11
  · simp [e]
  · simp [e]
theorem three_boxes (w : World) (v0 : Value) (t0 : TypeId) (v1 : Value) (t1 : TypeId) (v2 : Value) (t2 : TypeId) {V : World} (h : ((w.alloc (.cells #[v0] t0)).alloc (.cells #[v1] t1)).alloc (.cells #[v2] t2) = V) :
    Blk V w.heap.size t0 [v0] ∧ Blk V (w.heap.size + 1) t1 [v1] ∧ Blk V (w.heap.size + 1 + 1) t2 [v2] ∧ V.heap.size = w.heap.size + 3 ∧ Below w.heap.size w V := by
  subst h
  obtain ⟨q1, q2⟩ := two_boxes w v0 t0 v1 t1
  have e := heap_alloc_new ((w.alloc (.cells #[v0] t0)).alloc (.cells #[v1] t1)) (.cells [v2].toArray t2)
  rw [World.size_alloc, World.size_alloc] at e
  exact ⟨q1.below (below1 _ _), q2.below (below1 _ _), e, by simp, below3 _ _ _ _⟩
/-- where a program and an index are asked for -/
abbrev There (xs : List Stp) (n : Nat) (at_ : Int) : Prop := Good xs ∧ 0 ≤ at_ ∧ at_ < n
set_option maxRecDepth 100000 in
set_option maxHeartbeats 4000000 in
theorem implEnds_any (A : Option Addr) (n cap : Nat) (at_ : Int) (xs : List Stp) (w : World) (b : Bool) (l : List Int) (hr : Hid (TwoRes (There xs n at_) (endsR xs at_) b l)) (hl : Hid (Lies w A xs)) (hx : Hid (xs.length = n)) (hn : n ≤ 1048576) :
    Calls Try.prog 23 #[.slice A n cap, .int .i64 at_] w (GaveTwo w l b) := by
  obtain ⟨i0, hi0, hz0, hz1, hz2⟩ := info_parts info_int
  refine (callsIn_wide (n := 0)).1 ?_
  refine callsIn_of_wp_marks Try.func23 rfl trivial ?_ rfl
  simp only [Try.ntmps23, List.size_toArray, List.length_cons, List.length_nil, Nat.reduceAdd, Nat.reduceSub, Array.replicate_succ, Array.replicate_zero, List.push_toArray, List.append_toArray, List.nil_append, List.cons_append]
  gi_wp2_with fail
  refine ⟨trivial, rfl, ?_⟩
  refine (callsIn_wide.2 (flowAround_any _ _ _ _ xs _ b (Lib.hid hr.out.1) (Lib.hid (hl.out.below (below1 _ _))) hx hn)).mono ?_
  rintro e w1 ⟨h1, h2⟩
  have P1 : Hid (Blk (w.alloc (.cells #[.slice A n cap] 23)) w.heap.size 23 [.slice A n cap]) := Lib.hid (heap_alloc_new w _)
  cases b
  · obtain ⟨rfl, hb1⟩ := h2 rfl
    have B1 := Lib.hid (Below.tr (below1 _ _) hb1)
    clear hb1 h1 h2 P1
    obtain rfl := hr.out.2.1 rfl
    gi_wp2
    exact ⟨_, results_tmp2 rfl _ _ _, none, 0, rfl, World.ownsRow_nil _ _ _ _, B1.out⟩
  · obtain ⟨A1, c1, rfl, hl1, hb1⟩ := h1 rfl
    have B1 := Lib.hid (Below.tr (below1 _ _) hb1)
    have P2 := Lib.hid (P1.out.below hb1)
    have L1 := Lib.hid hl1
    obtain ⟨GX, g0, g1⟩ := hr.out.1.1 rfl
    obtain ⟨f, rfl⟩ := Int.eq_ofNat_of_zero_le g0
    have hfn : f < n := by omega
    have HGX := Lib.hid GX
    have hle := hr.out.2.2 rfl
    subst hle
    obtain ⟨hn0, hn20⟩ := good_20 HGX.out hx.out
    clear hb1 hl1 h1 h2 P1 GX
    have hwz : w.heap.size < w1.heap.size := P2.out.lt
    gi_wp2_with fail
    refine ⟨trivial, rfl, ?_⟩
    refine (callsIn_wide.2 (stepsFrom_any _ _ _ _ _)).mono ?_
    rintro e w' ⟨rfl, rfl⟩
    gi_wp2_with fail
    have hfi : (.int .i64 (f : Int) : Value) = .int .i64 (f : Nat) := rfl
    obtain ⟨V, hV⟩ : ∃ V, ((w1.alloc (.cells #[.slice none 0 0] 28)).alloc (.cells #[.slice A1 n c1] 45)).alloc (.cells #[.int .i64 (f : Int)] 3) = V := ⟨_, rfl⟩
    obtain ⟨x0, x1, x2, sz, BV⟩ := three_boxes w1 _ _ _ _ _ _ hV
    rw [hV]
    clear hV hfi
    have X1 := Lib.hid x1
    have X2 := Lib.hid x2
    have hT : ∀ i, (i < w1.heap.size ∨ i = w1.heap.size + 1 ∨ i = w1.heap.size + 1 + 1) → i < V.heap.size := fun i h => by omega
    refine rangeR (n := 0) (gf := 64) (lb := #[.pointer (some ⟨w1.heap.size + 1, 0, none⟩), .pointer (some ⟨w1.heap.size + 1 + 1, 0, none⟩)]) rfl (enters_of Try.func64 (by kernel_rfl) rfl)
      (steps_seq (ktOf xs) (good_kt HGX.out) n f c1 (w1.heap.size + 1) A1 V w1 _ (Lib.hid (by rw [ktOf_len]; exact hx.out)) hn20 hfn L1 (Lib.hid BV) X1 X2 (fun i h => .inl h) (.inr (.inl rfl)) (.inr (.inr rfl)) hT)
      (fun _ => rfl) hT
      (fun pre W => CB W w1.heap.size (V.heap.size + (2 + 1)) (pre.filter (endP xs)) ∧ Below w1.heap.size w1 W) ?_ ?_
      (fun x => { tmps := #[.slice A n cap, .int .i64 f, .pointer (some ⟨w.heap.size, 0, none⟩), undef, .slice none 0 0, .bool false, .slice A1 n c1, .bool true, .pointer (some ⟨w1.heap.size, 0, none⟩), .int .i64 x, .tuple #[.slice A1 n c1, .bool true], .slice A n cap, .int .i64 f, .tuple #[.slice A1 n c1, .bool true], .slice A1 n c1, .bool true, .bool true, .bool false, .slice A1 n c1, .int .i64 f, .func (.func 64) #[] #[.pointer (some ⟨w1.heap.size + 1, 0, none⟩), .pointer (some ⟨w1.heap.size + 1 + 1, 0, none⟩)], .int .i64 x, undef, undef, undef, undef, undef, undef, undef, undef, undef, undef, undef], defers := [] })
      ?assign ?body ?done
    · rintro s X Y ⟨q1, q2⟩ hk
      exact ⟨q1.kept hk (fun q => by unfold Prv at q; omega) (fun g q => by unfold Prv at q; omega), hk.below q2 q2.size (fun i q => by unfold Prv at q; omega)⟩
    · exact ⟨⟨none, 0, x0, World.ownsRow_nil _ _ _ _⟩, BV⟩
    case assign =>
      intro l m x W K hK
      gi_wp2
      exact hK
    case body =>
      rintro l2 m2 pre a rest W hxs ⟨⟨A2, c2, q1, q2⟩, q3⟩ hsz
      obtain ⟨a, rfl, han⟩ : ∃ k : Nat, (k : Int) = a ∧ k < n := by
        have hm : a ∈ castL (reachL (edg (ktOf xs)) n f) := by rw [hxs]; simp
        obtain ⟨k, hk, e⟩ := castL_mem.1 hm
        exact ⟨k, e, (mem_reach.1 hk).1⟩
      have Q1 := Lib.hid q1
      have Q2 := Lib.hid q2
      have Q3 := Lib.hid q3
      have hpl : pre.length ≤ 20 := by have h1 := congrArg List.length hxs; have h2 := reach_len (edg (ktOf xs)) n f; simp at h1; omega
      have hfl : (pre.filter (endP xs)).length ≤ 20 := Nat.le_trans (List.length_filter_le _ _) hpl
      clear hxs q1 q2 q3
      obtain ⟨x, hx'⟩ : ∃ x, xs[a]? = some x := ⟨_, List.getElem?_eq_getElem (by have := hx.out; omega)⟩
      have HXA := Lib.hid hx'
      clear hx'
      have PB := Lib.hid (P2.out.below Q3.out)
      have c0 := PB.out.cell 0
      have c3 := Q1.out.cell 0
      simp only [List.getElem?_cons_zero] at c0 c3
      have hlt3 := Q1.out.lt
      obtain ⟨b4, off4, rfl, hb4, ha4⟩ := (hl.out.below (Below.tr B1.out Q3.out)) a x HXA.out
      obtain ⟨e0, -, -, -, -, -⟩ := ha4
      have ha' : (a : Int) < (n : Int) := by omega
      have EP := Lib.hid (endP_at HXA.out)
      obtain ⟨fl, hfle⟩ : ∃ fl, pre.filter (endP xs) = fl := ⟨_, rfl⟩
      have FL := Lib.hid hfle
      rw [hfle] at Q1 Q2 c3 hfl
      clear hfle
      cases hk : (x.k == 11)
      · gi_wp2
        rw [List.filter_append, FL.out]
        have : [(a : Int)].filter (endP xs) = [] := by simp [List.filter, EP.out, hk]
        rw [this, List.append_nil]
        exact ⟨Kept.refl _ _, ⟨A2, c2, Q1.out, Q2.out⟩, Q3.out⟩
      · gi_wp2_with (gi_at_builtin; refine wpListIn_append_own _ rfl _ _ 28 rfl (V.heap.size + (2 + 1)) 3 i0 (.int .i64 0) 1 8 Try.underlying28 hi0 hz0 hz1 hz2 rfl (by decide) _ _ _ rfl (own_below Q2.out (below1 _ _)) ⟨(W).heap.size, 0, none⟩ 1 1 [.int .i64 (a)] rfl rfl (one_new1 _ _ _) (by simp [Value.oneCell']) (by unfold maxLen; omega) (by omega) (by simp; omega) ?_; intro v3 w3 hown3 hg3 _; obtain ⟨g3, cap3, rfl⟩ := ownsRow_succ hown3; obtain ⟨hb3, hcb, hkp⟩ := CB.app (by omega) Q1.out Q2.out hown3 hg3; have hc3 := hb3.cell 0; have hf3 := hb3.frozen 0; simp only [List.getElem?_cons_zero] at hc3; have CBX := Lib.hid hcb; have KPX := Lib.hid hkp; clear hcb hkp hown3 hg3)
        rw [List.filter_append, FL.out]
        have : [(a : Int)].filter (endP xs) = [(a : Int)] := by simp [List.filter, EP.out, hk]
        rw [this]
        refine ⟨KPX.out.mono (fun i q => ⟨fun t => ?_, fun p => ?_⟩), CBX.out, KPX.out.below Q3.out Q3.out.size (fun i q => by omega)⟩
        · rcases t with t | t | t <;> omega
        · unfold Prv at p; omega
    case done =>
      rintro D W rfl ⟨⟨A2, c2, q1, q2⟩, q3⟩ hK
      rw [← hx.out, ends_eq] at q1 q2
      have hc := q1.cell 0
      simp only [List.getElem?_cons_zero] at hc
      gi_wp2
      refine ⟨by simp, .inl ⟨_, _, rfl, run_takeDeferred hK, ?_⟩⟩
      have hz1 := B1.out.size
      exact ⟨_, results_tmp2 rfl _ _ _, A2, c2, rfl, own_base (ownsRow_putObj q2 _ hK rfl) (by omega), (Kept.put W _ _).below (Below.tr B1.out q3) (by have := q3.size; omega) (fun i q => by omega)⟩
end Go.Proofs.Ytilnegmjnbffhaa
