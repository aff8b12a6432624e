/-
  The program's iterator over the arcs from reachable steps.
-/
import Derived.Test.YtilnegmjnbffhaaRfFlow
namespace Go.Proofs.Ytilnegmjnbffhaa
open Go.ChangeShapes Go.WideShapes Go.ChangeAt Go.RowKit
attribute [local go_sem] Oper.semAt_some

/-- what follows a step, as a list of arcs -/
def arcA (l : KT) (a : Int) : List (Int × Int) := match l[a.toNat]? with | some x => (nxI x.1 x.2 a).map (fun y => (a, y)) | none => []
/-- the arcs from these steps -/
def arcsOf (l : KT) (t : List Int) : List (Int × Int) := t.flatMap (arcA l)
def arcsI (l : KT) : List (Int × Int) := arcsOf l (castL (reachL (edg l) l.length 0))
theorem arcA_at {l : KT} {a : Nat} {x : Int × Int} (h : l[a]? = some x) : arcA l a = (nxI x.1 x.2 a).map (fun y => ((a : Int), y)) := by unfold arcA; rw [Int.toNat_natCast, h]
theorem arcsOf_snoc (l : KT) (t : List Int) (a : Int) : arcsOf l (t ++ [a]) = arcsOf l t ++ arcA l a := by unfold arcsOf; rw [List.flatMap_append]; simp
theorem arcs_cut {l : KT} {pre rest : List Int} {a k : Nat} {x : Int × Int} {y : Int} (h : castL (reachL (edg l) l.length 0) = pre ++ (a : Int) :: rest) (hx : l[a]? = some x) (hy : (nxI x.1 x.2 a)[k]? = some y) :
    ∃ r, arcsI l = (arcsOf l pre ++ ((nxI x.1 x.2 a).take k).map (fun y => ((a : Int), y))) ++ ((a : Int), y) :: r := by
  have hlt := (List.getElem?_eq_some_iff.1 hy).1
  have e := (List.getElem?_eq_some_iff.1 hy).2
  refine ⟨((nxI x.1 x.2 a).drop (k + 1)).map (fun y => ((a : Int), y)) ++ arcsOf l rest, ?_⟩
  unfold arcsI
  rw [h]
  unfold arcsOf
  rw [List.flatMap_append, List.flatMap_cons, arcA_at hx]
  conv => lhs; rw [← List.take_append_drop k (nxI x.1 x.2 a), List.drop_eq_getElem_cons hlt, e]
  simp
set_option maxRecDepth 100000 in
set_option maxHeartbeats 2000000 in
theorem arcs_any (A : Option Addr) (n c : Nat) (w : World) :
    Calls Try.prog 39 #[.slice A n c] w fun e w' => e = .returned (.func (.func 60) #[] #[.pointer (some ⟨w.heap.size, 0, none⟩)]) ∧ w' = w.alloc (.cells #[.slice A n c] 45) := by
  go_enter Try.func39, Try.ntmps39
  go_wp2
  go_ret
  exact ⟨rfl, rfl⟩

set_option maxRecDepth 100000 in
set_option maxHeartbeats 4000000 in
theorem arcs_seq (l : KT) (g : GoodKT l) (n c b : Nat) (A : Option Addr) (w w0 : World) (T : Nat → Prop) (hn : Hid (l.length = n)) (h20 : n ≤ 20) (h1n : 0 < n)
    (hl : Hid (LLies w0 A (nxsL l))) (hb0 : Hid (Below w0.heap.size w0 w)) (h1 : Hid (Blk w b 45 [.slice A n c]))
    (hT0 : ∀ i, i < w0.heap.size → T i) (hTb : T b) (hTl : ∀ i, T i → i < w.heap.size) :
    SeqR Try.prog 60 #[.pointer (some ⟨b, 0, none⟩)] (fun p : Int × Int => #[.int .i64 p.1, .int .i64 p.2]) (arcsI l) 6 T w := by
  intro lp J W hBW hJ hY h0
  have HJ := Lib.hid hJ
  have HY := Lib.hid hY
  have HT0 := Lib.hid hT0
  have HTl := Lib.hid hTl
  clear hJ hY hT0 hTl
  have KW := Lib.hid (Kept.of_below (S := fun i => ¬ T i) hBW)
  have HB1 := Lib.hid (KW.out.blk h1.out (fun q => q hTb))
  have hb2 : b < W.heap.size := HB1.out.lt
  have c1 := HB1.out.cell 0
  simp only [List.getElem?_cons_zero] at c1
  have szw := hBW.size
  refine (callsIn_wide (n := 0)).1 ?_
  refine callsIn_of_wp_marks Try.func60 rfl trivial ?_ rfl
  simp only [Try.ntmps60, List.size_toArray, List.length_cons, List.length_nil, Nat.reduceAdd, Nat.reduceSub, Array.replicate_succ, Array.replicate_zero, List.push_toArray, List.append_toArray, List.nil_append, List.cons_append]
  gi_wp2_with fail
  refine ⟨trivial, rfl, ?_⟩
  refine (callsIn_wide.2 (stepsFrom_any _ _ _ _ _)).mono ?_
  rintro e w' ⟨rfl, rfl⟩
  gi_wp2_with fail
  obtain ⟨ty, hty⟩ : ∃ t, Blk (W.alloc (.cells #[.func (.yield lp) #[] #[]] 76)) W.heap.size t [.func (.yield lp) #[] #[]] := ⟨_, heap_alloc_new W _⟩
  obtain ⟨V, hV⟩ : ∃ V, ((W.alloc (.cells #[.func (.yield lp) #[] #[]] 76)).alloc (.cells #[.slice A n c] 45)).alloc (.cells #[.int .i64 (0 : Nat)] 3) = V := ⟨_, rfl⟩
  have sz : V.heap.size = W.heap.size + 3 := by rw [← hV]; simp
  have BV : Below W.heap.size W V := by rw [← hV]; exact below3 _ _ _ _
  have bx1 : Hid (Blk V (W.heap.size + 1) 45 [.slice A n c]) := Lib.hid (by
    rw [← hV]
    have e := heap_alloc_new (W.alloc (.cells #[.func (.yield lp) #[] #[]] 76)) (.cells [.slice A n c].toArray 45)
    rw [World.size_alloc] at e
    exact Blk.below e (below1 _ _))
  have bx2 : Hid (Blk V (W.heap.size + 1 + 1) 3 [.int .i64 (0 : Nat)]) := Lib.hid (by
    rw [← hV]
    have e := heap_alloc_new ((W.alloc (.cells #[.func (.yield lp) #[] #[]] 76)).alloc (.cells [.slice A n c].toArray 45)) (.cells [.int .i64 (0 : Nat)].toArray 3)
    rw [World.size_alloc, World.size_alloc] at e
    exact e)
  have bx0 : Hid (Blk V W.heap.size ty [.func (.yield lp) #[] #[]]) := Lib.hid (by rw [← hV]; exact (hty.below (below1 _ _)).below (below1 _ _))
  have hVe : ((W.alloc (.cells #[.func (.yield lp) #[] #[]] 76)).alloc (.cells #[.slice A n c] 45)).alloc (.cells #[.int .i64 0] 3) = V := hV
  rw [hVe]
  clear hV hVe hty
  have KV := Lib.hid (KW.out.trans (Kept.of_below BV))
  have hT1 : ∀ i, T i → i < W.heap.size := fun i h => by have := HTl.out i h; omega
  have hT' : ∀ i, (i < w0.heap.size ∨ i = W.heap.size + 1 ∨ i = W.heap.size + 1 + 1) → i < V.heap.size := fun i h => by have := hb0.out.size; omega
  have HT1 := Lib.hid hT1
  refine rangeR (n := 0) (gf := 64) (lb := #[.pointer (some ⟨W.heap.size + 1, 0, none⟩), .pointer (some ⟨W.heap.size + 1 + 1, 0, none⟩)]) rfl (enters_of Try.func64 (by kernel_rfl) rfl)
    (steps_seq l g n 0 c (W.heap.size + 1) A V w0 _ hn h20 h1n hl (Lib.hid (tbelow HT0.out hb0.out KV.out)) bx1 bx2 (fun i h => .inl h) (.inr (.inl rfl)) (.inr (.inr rfl)) hT')
    (fun _ => rfl) hT'
    (fun pre W' => J (arcsOf l pre) W' ∧ Kept w W' (fun i => ¬ T i) ∧ Blk W' W.heap.size ty [.func (.yield lp) #[] #[]]) ?_ ?_
    (fun x => { tmps := #[.func (.yield lp) #[] #[], .pointer (some ⟨b, 0, none⟩), .pointer (some ⟨W.heap.size, 0, none⟩), .int .i64 x, undef, undef, .slice A n c, .func (.func 64) #[] #[.pointer (some ⟨W.heap.size + 1, 0, none⟩), .pointer (some ⟨W.heap.size + 1 + 1, 0, none⟩)], .int .i64 x, undef, undef, undef, undef, undef, undef, undef, undef, undef, undef, undef, undef, undef, undef, undef], defers := [] })
    ?assign ?body ?done
  · rintro s X Y ⟨i1, i2, i3⟩ hk
    exact ⟨HJ.out _ _ _ i1 (hk.mono (fun i h => by unfold Prv at h ⊢; omega)), i2.trans (hk.mono (fun i h q => by have := hT1 i q; unfold Prv at h; omega)), hk.blk i3 (fun h => by unfold Prv at h; omega)⟩
  · exact ⟨HJ.out _ _ _ h0 (Kept.of_below BV), KV.out, bx0.out⟩
  case assign =>
    intro l m x W K hK
    gi_wp2
    exact hK
  case body =>
    rintro l2 m2 pre a rest W1 hxs ⟨i1, i2, i3⟩ hsz
    obtain ⟨a, rfl, han⟩ : ∃ k : Nat, (k : Int) = a ∧ k < n := by
      have hm : a ∈ castL (reachL (edg l) n 0) := by rw [hxs]; simp
      obtain ⟨k, hk, e⟩ := castL_mem.1 hm
      exact ⟨k, e, (mem_reach.1 hk).1⟩
    have HXS : Hid (castL (reachL (edg l) l.length 0) = pre ++ (a : Int) :: rest) := Lib.hid (by rw [hn.out]; exact hxs)
    have I1 := Lib.hid i1
    have I2 := Lib.hid i2
    have I3 := Lib.hid i3
    clear hxs i1 i2 i3
    obtain ⟨x, hx⟩ : ∃ x, l[a]? = some x := ⟨_, List.getElem?_eq_getElem (by have := hn.out; omega)⟩
    have HX := Lib.hid hx
    obtain ⟨b3, off3, a3, c3, hA, hb3, hc3, hle3, hmx3, hi3⟩ := hl.out a _ (nxs_at hx)
    have IL := Lib.hid hi3
    clear hx hi3
    have TB1 := Lib.hid (tbelow HT0.out hb0.out I2.out)
    have t3 := ((bcell TB1.out).1 b3 (off3 + a) hb3).trans hc3
    have t1 := (I2.out.blk h1.out (fun q => q hTb)).cell 0
    simp only [List.getElem?_cons_zero] at t1
    have ha' : (a : Int) < (n : Int) := by omega
    clear hc3
    subst hA
    obtain ⟨z, hz⟩ : ∃ z, (nxI x.1 x.2 a).length = z := ⟨_, rfl⟩
    have HZ := Lib.hid hz
    have hz2 : z ≤ 2 := by rw [← hz]; exact nexts_len x.1 x.2 a
    rw [hz] at t3
    clear hz
    have HS := Lib.hid hsz
    rw [sz] at hsz
    gi_wp2
    gi_loopw [14] (fun i wr => ∃ k : Nat, k ≤ z ∧ i = .int .i64 k ∧ J (arcsOf l pre ++ ((nxI x.1 x.2 a).take k).map (fun y => ((a : Int), y))) wr ∧ Kept W1 wr (Rnd (fun i => i < w0.heap.size ∨ i = W.heap.size + 1 ∨ i = W.heap.size + 1 + 1) V.heap.size (2 + 1)) ∧ Kept w wr (fun i => ¬ T i) ∧ Blk wr W.heap.size ty [.func (.yield lp) #[] #[]]) (fun i _ => z - (intOf i).toNat)
    case atStart => exact ⟨0, Nat.zero_le _, rfl, by simpa using I1.out, Kept.refl _ _, I2.out, I3.out⟩
    case round =>
      obtain ⟨k, hk, rfl, j1, j2, j3, j4⟩ := hrel
      have J1 := Lib.hid j1
      have J2 := Lib.hid j2
      have J3 := Lib.hid j3
      have J4 := Lib.hid j4
      clear j1 j2 j3 j4
      by_cases hlt2 : k < z
      · obtain ⟨y, hy⟩ : ∃ y, (nxI x.1 x.2 a)[k]? = some y := ⟨_, List.getElem?_eq_getElem (by have := HZ.out; omega)⟩
        have HV := Lib.hid hy
        obtain ⟨b4, off4, rfl, hb4, hc4⟩ := IL.out k _ hy
        clear hy
        have TB2 := Lib.hid (tbelow HT0.out hb0.out J3.out)
        have t4 := ((bcell TB2.out).1 b4 (off4 + k) hb4).trans hc4
        have t5 := J4.out.cell 0
        simp only [List.getElem?_cons_zero] at t5
        clear hc4
        obtain ⟨r, hr⟩ := arcs_cut HXS.out HX.out HV.out
        obtain ⟨fn, tmps, assign, body, hy, hR⟩ := HY.out (m2 - 1) _ _ r wr hr J1.out (by have := J2.out.size; omega)
        dsimp only at hy
        gi_wp2
        have hR2 : RoundIn (Fence.wide.inRound l2) (m2 - 1) Try.prog lp fn tmps assign body wr _ := hR
        refine ⟨(fun h => absurd h (by decide)), hR2.mono ?_⟩
        rintro e W3 ⟨rfl, j3, k3⟩
        have M1 := Lib.hid j3
        have M2 := Lib.hid (J2.out.trans (k3.mono (fun i h => ⟨fun q => by
          rcases q with q | q | q
          · exact h.1 (HT0.out i q)
          · exact h.2 (by unfold Prv; omega)
          · exact h.2 (by unfold Prv; omega), fun q => h.2 (by unfold Prv at q ⊢; omega)⟩)))
        have M3 := Lib.hid (J3.out.trans (k3.mono (fun i h => h.1)))
        have M4 := Lib.hid (k3.blk J4.out (fun q => q.2 (by unfold Prv; omega)))
        clear j3 k3 hR hR2 hy
        gi_wp2
        go_roundw
        case rel => exact ⟨k + 1, by omega, by go_num, by rw [take_snocP HV.out, List.map_append, ← List.append_assoc]; exact M1.out, M2.out, M3.out, M4.out⟩
        case measure => simp [intOf]; omega
      · obtain rfl : k = z := by omega
        gi_wp2
        refine ⟨J2.out, ?_, J3.out, J4.out⟩
        rw [arcsOf_snoc, arcA_at HX.out]
        have e := J1.out
        rw [List.take_of_length_le (by have := HZ.out; omega)] at e
        exact e
  case done =>
    rintro D W1 rfl ⟨i1, i2, i3⟩ hK
    gi_wp2
    refine ⟨by simp, .inl ⟨_, _, rfl, run_takeDeferred hK, ?_⟩⟩
    refine ⟨_, results_none rfl _ _ _, ⟨_, rfl⟩, ?_⟩
    have e := HJ.out _ _ _ i1 ((Kept.put W1 V.heap.size (.deferred none)).mono (fun i h => by unfold Prv; omega))
    rw [← hn.out] at e
    exact e
end Go.Proofs.Ytilnegmjnbffhaa
