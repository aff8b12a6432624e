/-
  WayCount of the program.
-/
import Derived.Test.YtilnegmjnbffhaaRfAhead
import Derived.Test.YtilnegmjnbffhaaRfRnd
namespace Go.Proofs.Ytilnegmjnbffhaa
open Go.ChangeShapes Go.WideShapes Go.ChangeAt Go.RowKit
attribute [local go_sem] Oper.semAt_some

/-- a number and true where P holds; 0 and false elsewhere -/
def OneRes (P : Prop) (c0 : Int) (b : Bool) (c : Int) : Prop := (b = true ↔ P) ∧ (b = false → c = 0) ∧ (b = true → c = c0)
theorem one_res (P : Prop) (c0 : Int) : ∃ b c, OneRes P c0 b c := by
  rcases Classical.em P with h | h
  · exact ⟨true, c0, ⟨fun _ => h, fun _ => rfl⟩, (fun e => by cases e), fun _ => rfl⟩
  · exact ⟨false, 0, ⟨(fun e => by cases e), fun e => absurd e h⟩, fun _ => rfl, (fun e => by cases e)⟩
def GaveOne (w : World) (c : Int) (b : Bool) (e : Ending) (w' : World) : Prop := e = .returned (.tuple #[.int .i64 c, .bool b]) ∧ Below w.heap.size w w'
def wayR (xs : List Stp) (at_ : Int) : Int := (wc (edg (ktOf xs)) at_.toNat : Nat)
def wayV (n : Nat) (t : List (Int × Int)) : List Value := numsV n (fun j => ((wayF t j : Nat) : Int))
theorem way_zero (n : Nat) : ((madeCells #[Value.int .i64 0] n).setIfInBounds 0 (Value.int .i64 1)) = (wayV n []).toArray := by
  rw [made_rep, numsV_const, List.setIfInBounds_toArray, numsV_set]
  unfold wayV
  refine congrArg List.toArray (numsV_ext (fun j _ => ?_))
  unfold wayF
  by_cases e : j = 0 <;> simp [e]
theorem row_boxes (w : World) (cs : List Value) (t0 : TypeId) (v1 : Value) (t1 : TypeId) (v2 : Value) (t2 : TypeId) {V : World} (h : ((w.alloc (.cells cs.toArray t0)).alloc (.cells #[v1] t1)).alloc (.cells #[v2] t2) = V) :
    Blk V w.heap.size t0 cs ∧ Blk V (w.heap.size + 1) t1 [v1] ∧ Blk V (w.heap.size + 1 + 1) t2 [v2] ∧ V.heap.size = w.heap.size + 3 ∧ Below w.heap.size w V := by
  subst h
  have q1 : Blk ((w.alloc (.cells cs.toArray t0)).alloc (.cells #[v1] t1)) w.heap.size t0 cs := Blk.below (heap_alloc_new w (.cells cs.toArray t0)) (below1 _ _)
  have q2 := heap_alloc_new (w.alloc (.cells cs.toArray t0)) (.cells [v1].toArray t1)
  rw [World.size_alloc] at q2
  have e := heap_alloc_new ((w.alloc (.cells cs.toArray t0)).alloc (.cells #[v1] t1)) (.cells [v2].toArray t2)
  rw [World.size_alloc, World.size_alloc] at e
  exact ⟨q1.below (below1 _ _), Blk.below q2 (below1 _ _), e, by simp, below3 _ _ _ _⟩
set_option maxRecDepth 100000 in
set_option maxHeartbeats 4000000 in
theorem implWay_any (A : Option Addr) (n cap : Nat) (at_ : Int) (xs : List Stp) (w : World) (b : Bool) (c : Int) (hr : Hid (OneRes (There xs n at_) (wayR xs at_) b c)) (hl : Hid (Lies w A xs)) (hx : Hid (xs.length = n)) (hn : n ≤ 1048576) :
    Calls Try.prog 12 #[.slice A n cap, .int .i64 at_] w (GaveOne w c b) := by
  refine (callsIn_wide (n := 0)).1 ?_
  refine callsIn_of_wp_marks Try.func12 rfl trivial ?_ rfl
  simp only [Try.ntmps12, List.size_toArray, List.length_cons, List.length_nil, Nat.reduceAdd, Nat.reduceSub, Array.replicate_succ, Array.replicate_zero, List.push_toArray, List.append_toArray, List.nil_append, List.cons_append]
  gi_wp2_with fail
  refine ⟨trivial, rfl, ?_⟩
  refine (callsIn_wide.2 (flowAround_any _ _ _ _ xs _ b (Lib.hid hr.out.1) hl hx hn)).mono ?_
  rintro e w1 ⟨h1, h2⟩
  cases b
  · obtain ⟨rfl, hb1⟩ := h2 rfl
    have B1 := Lib.hid hb1
    clear hb1 h1 h2
    obtain rfl := hr.out.2.1 rfl
    gi_wp2
    exact ⟨_, results_tmp2 rfl _ _ _, rfl, B1.out⟩
  · obtain ⟨A1, c1, rfl, hl1, hb1⟩ := h1 rfl
    have B1 := Lib.hid hb1
    have L1 := Lib.hid hl1
    obtain ⟨GX, g0, g1⟩ := hr.out.1.1 rfl
    obtain ⟨f, rfl⟩ := Int.eq_ofNat_of_zero_le g0
    have hfn : f < n := by omega
    have HGX := Lib.hid GX
    have hle := hr.out.2.2 rfl
    subst hle
    obtain ⟨hn0, hn20⟩ := good_20 HGX.out hx.out
    clear hb1 hl1 h1 h2 GX
    have hmk := fun w : World => run_make_row' (P := Try.prog) 28 3 (.int .i64 0) 8 Try.underlying28 info_int rfl .i64 .i64 n (by omega) (by omega) w
    have hm0 : (madeCells #[Value.int .i64 0] n)[0]? = some (.int .i64 0) := by rw [made_rep]; simp [hn0]
    gi_wp2_with fail
    refine ⟨trivial, rfl, ?_⟩
    refine (callsIn_wide.2 (arcs_any _ _ _ _)).mono ?_
    rintro e w' ⟨rfl, rfl⟩
    gi_wp2_with fail
    rw [way_zero n]
    obtain ⟨V, hV⟩ : ∃ V, ((w1.alloc (.cells (wayV n []).toArray 3)).alloc (.cells #[.slice (some ⟨w1.heap.size, 0, none⟩) n n] 28)).alloc (.cells #[.slice A1 n c1] 45) = V := ⟨_, rfl⟩
    obtain ⟨x0, x1, x2, sz, BV⟩ := row_boxes w1 _ _ _ _ _ _ hV
    rw [hV]
    clear hV hm0
    have X2 := Lib.hid x2
    have hT : ∀ i, (i < w1.heap.size ∨ i = w1.heap.size + 1 + 1) → i < V.heap.size := fun i h => by omega
    have HKL : Hid ((ktOf xs).length = n) := Lib.hid (by rw [ktOf_len]; exact hx.out)
    refine rangeR (n := 0) (gf := 60) (lb := #[.pointer (some ⟨w1.heap.size + 1 + 1, 0, none⟩)]) rfl (enters_of Try.func60 (by kernel_rfl) rfl)
      (arcs_seq (ktOf xs) (good_kt HGX.out) n c1 (w1.heap.size + 1 + 1) A1 V w1 _ HKL hn20 hn0 L1 (Lib.hid BV) X2 (fun i h => .inl h) (.inr rfl) hT)
      (fun _ => rfl) hT
      (fun pre W => Blk W w1.heap.size 3 (wayV n pre) ∧ Blk W (w1.heap.size + 1) 28 [.slice (some ⟨w1.heap.size, 0, none⟩) n n] ∧ Below w1.heap.size w1 W) ?_ ?_
      (fun x => { tmps := #[.slice A n cap, .int .i64 f, undef, undef, .int .i64 0, .bool false, .slice A1 n c1, .bool true, .pointer (some ⟨w1.heap.size + 1, 0, none⟩), .int .i64 x.1, .int .i64 x.2, .tuple #[.slice A1 n c1, .bool true], .slice A n cap, .int .i64 f, .tuple #[.slice A1 n c1, .bool true], .slice A1 n c1, .bool true, .bool true, .bool false, .slice A1 n c1, .int .i64 n, .slice (some ⟨w1.heap.size, 0, none⟩) n n, .slice (some ⟨w1.heap.size, 0, none⟩) n n, .pointer (some ⟨w1.heap.size, 0, none⟩), .slice A1 n c1, .func (.func 60) #[] #[.pointer (some ⟨w1.heap.size + 1 + 1, 0, none⟩)], .int .i64 x.1, .int .i64 x.2, undef, undef, undef, undef, undef, undef, undef, undef, undef, undef, undef, undef, undef, undef], defers := [] })
      ?assign ?body ?done
    · rintro s X Y ⟨q1, q2, q3⟩ hk
      exact ⟨hk.blk q1 (fun q => by unfold Prv at q; omega), hk.blk q2 (fun q => by unfold Prv at q; omega), hk.below q3 q3.size (fun i q => by unfold Prv at q; omega)⟩
    · exact ⟨x0, x1, BV⟩
    case assign =>
      intro l m x W K hK
      gi_wp2
      exact hK
    case body =>
      rintro l2 m2 pre p rest W hxs ⟨q1, q2, q3⟩ hsz
      obtain ⟨a, d, rfl, had, hdn, -, -⟩ := arcs_mem (good_kt HGX.out) hxs
      rw [HKL.out] at hdn
      have Q1 := Lib.hid q1
      have Q2 := Lib.hid q2
      have Q3 := Lib.hid q3
      have han : a < n := by omega
      have sa := way_small (good_kt HGX.out) (by rw [HKL.out]; exact hn20) hxs (j := a) (by rw [HKL.out]; exact han)
      have sd := way_small (good_kt HGX.out) (by rw [HKL.out]; exact hn20) hxs (j := d) (by rw [HKL.out]; exact hdn)
      have ca := (Q1.out.cell a).trans (numsV_at _ han)
      have cd := (Q1.out.cell d).trans (numsV_at _ hdn)
      have fd := Q1.out.frozen d
      have c3 := Q2.out.cell 0
      simp only [List.getElem?_cons_zero] at c3
      have ha' : (a : Int) < (n : Int) := by omega
      have hd' : (d : Int) < (n : Int) := by omega
      obtain ⟨u, hu⟩ : ∃ u : Int, ((wayF pre a : Nat) : Int) = u := ⟨_, rfl⟩
      obtain ⟨v, hv⟩ : ∃ v : Int, ((wayF pre d : Nat) : Int) = v := ⟨_, rfl⟩
      rw [hu] at ca
      rw [hv] at cd
      have hub : 0 ≤ u ∧ u ≤ 1048576 := by omega
      have hvb : 0 ≤ v ∧ v ≤ 1048576 := by omega
      have HU := Lib.hid hu
      have HV := Lib.hid hv
      clear hxs q1 q2 q3 hu hv sa sd
      have hw : IntKind.i64.wrap (v + u) = v + u := by rw [IntKind.wrap_i64]; omega
      gi_wp2
      refine still_round 9 (by rintro ⟨_, _, h⟩; exact h) (by kernel_rfl) (by kernel_rfl) (by kernel_rfl) ?_
      simp only [List.take_succ_cons, List.take_zero, List.drop_succ_cons, List.drop_zero]
      repeat still_step
      refine wpStill_nil ?_
      go_wp2
      have es : wayV n (pre ++ [((a : Int), (d : Int))]) = (wayV n pre).set d (.int .i64 (v + u)) := by
        unfold wayV
        rw [numsV_set]
        refine numsV_ext (fun j _ => ?_)
        rw [wayF_snoc]
        simp only [Int.toNat_natCast]
        have h1 := HU.out
        have h2 := HV.out
        by_cases e : j = d
        · subst e; rw [if_pos rfl, if_pos rfl]; omega
        · rw [if_neg e, if_neg e]
      refine ⟨Kept.trans (b := W.drew) ⟨rfl, rfl, rfl, Nat.le_refl _, fun _ _ _ => rfl⟩ (Kept.set.mono (fun i q => ⟨fun t => by omega, fun p => by unfold Prv at p; omega⟩)), ?_, ?_, ?_⟩
      · rw [es]
        exact Blk.set (w := W.drew) Q1.out d (.int .i64 (v + u))
      · exact Blk.far (w := W.drew) Q2.out (by omega) _
      · exact (Below.drew Q3.out).setCell (Nat.le_refl _) _
    case done =>
      rintro D W rfl ⟨q1, q2, q3⟩ hK
      have c3 := q2.cell 0
      have c4 := (q1.cell f).trans (numsV_at _ hfn)
      simp only [List.getElem?_cons_zero] at c3
      have hf' : (f : Int) < (n : Int) := by omega
      gi_wp2
      refine ⟨by simp, .inl ⟨_, _, rfl, run_takeDeferred hK, ?_⟩⟩
      have hz1 := B1.out.size
      refine ⟨_, results_tmp2 rfl _ _ _, ?_, (Kept.put W _ _).below (Below.tr B1.out q3) (by have := q3.size; omega) (fun i q => by omega)⟩
      have e : ((wayF (arcsI (ktOf xs)) f : Nat) : Int) = wayR xs f := by rw [way_end (good_kt HGX.out) (by rw [HKL.out]; omega)]; rfl
      rw [← e]
      rfl
end Go.Proofs.Ytilnegmjnbffhaa
