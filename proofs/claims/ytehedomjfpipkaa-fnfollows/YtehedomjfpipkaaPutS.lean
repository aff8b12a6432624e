/-
  The model's sorted lists.
-/
import Derived.Test.YtehedomjfpipkaaPure
namespace Go.Proofs.Ytehedomjfpipkaa
open Go.ChangeShapes Go.WideShapes Go.ChangeAt Go.RowKit

theorem ILies.drop {w : World} {g off : Nat} {l : List Int} (h : ILies w (some ⟨g, off, none⟩) l) (k : Nat) : ILies w (some ⟨g, off + k, none⟩) (l.drop k) := by
  intro i y hy
  rw [List.getElem?_drop] at hy
  obtain ⟨b, o, hA, hb, hc⟩ := h (k + i) y hy
  simp only [Option.some.injEq, Addr.mk.injEq, and_true] at hA
  obtain ⟨rfl, rfl⟩ := hA
  exact ⟨g, off + k, rfl, hb, by rw [Nat.add_assoc]; exact hc⟩
/-- it answers a row of one's own -/
def GaveRow (base : Nat) (w : World) (r : List Int) (e : Ending) (w' : World) : Prop :=
  ∃ A2 c2, e = .returned (.slice A2 r.length c2) ∧ w'.ownsRow base 3 1 (.slice A2 r.length c2) r.length (r.map (Value.int .i64)) ∧ Below w.heap.size w w'
set_option maxRecDepth 100000 in
set_option maxHeartbeats 4000000 in
theorem l1Put_any (base : Nat) (A : Option Addr) (m c : Nat) (l : List Int) (x : Int) (w : World) (ho : Hid (w.ownsRow base 3 1 (.slice A m c) m (l.map (Value.int .i64)))) (HX : Hid (l.length = m)) (hm : m ≤ 10000) (hb : base ≤ w.heap.size) :
    Calls Try.prog 79 #[.slice A m c, .int .i64 x] w (GaveRow base w (putL x l)) := by
  obtain ⟨i0, hi0, hz0, hz1, hz2⟩ := info_parts info_int
  have HL := Lib.hid (own_ilies ho.out)
  have hcap := own_cap ho.out
  have HN := Lib.hid (own_nilA' ho.out)
  cases hA : A with
  | none =>
    obtain ⟨h0, h1⟩ := HN.out hA
    subst h0 h1 hA
    have L0 : Hid (l = []) := Lib.hid (List.eq_nil_of_length_eq_zero HX.out)
    go_enter Try.func79, Try.ntmps79
    go_wp2_with fail
    go_loop [5] (fun i => i = .int .i64 0) (fun _ => 0)
    case atStart => rfl
    case round =>
      subst hrel
      have LN : Hid ((putL x l).length = 0 + 1 + 0) := Lib.hid (by rw [L0.out]; rfl)
      go_wp2_with (first
        | (at_builtin; (refine append_ints (w1 := w.alloc (.cells #[] 3)) (base := w.heap.size) (xs := []) (l := []) _ _ rfl rfl rfl rfl (World.ownsRow_lit w #[] 0 (Nat.le_refl _) (by unfold maxLen; omega) rfl) (fun i y h => by simp at h) rfl (fun _ => ⟨rfl, rfl⟩) (by simp) (by omega) (by omega) ?_; intro g3 c3 w3 ho3 hg3 hat3; have O3 : Hid (w3.ownsRow w.heap.size 3 1 (.slice (some ⟨g3, 0, none⟩) 0 c3) 0 (([]).map (Value.int .i64))) := Lib.hid (by simpa using ho3); have B3 := Lib.hid ((below1 w _).grown hg3 (by simp) (fun g e => by cases e; exact Nat.le_refl _)); have hs3 := B3.out.size; try rw [Nat.zero_add]; clear ho3 hg3 hat3))
        | (at_builtin; (refine wpList_append_lies _ rfl _ _ 35 rfl w.heap.size 3 i0 (.int .i64 0) 1 8 Try.underlying35 hi0 hz0 hz1 hz2 rfl (by omega) _ 0 _ rfl (O3.out.alloc _) ⟨w3.heap.size, 0, none⟩ 1 1 [.int .i64 x] rfl rfl (one_new1 w3 _ _) (by intro u hu; rw [List.mem_singleton.1 hu]; rfl) (by omega) (by unfold maxLen; omega) (by omega) (by first | omega | (simp; omega)) (w3.heap.size + 1) (by first | rfl | simp) ?_; intro g4 cap4 w4 hown4 hg4 hat4 hlt4; have H4 := Lib.hid (app1 O3.out hown4 hg4 B3.out (Nat.le_refl _)); have hs4 := H4.out.2.size; clear hown4 hg4 hat4 hlt4))
        | (at_builtin; (refine append_ints (w1 := w4) (base := w.heap.size) (xs := [] ++ [x]) (l := []) _ _ rfl rfl rfl rfl H4.out.1 (fun i y h => by simp at h) rfl (fun _ => ⟨rfl, rfl⟩) hs4 (by omega) (by omega) ?_; intro g5 c5 w5 ho5 hg5 hat5; have O5 := Lib.hid ho5; have B5 := Lib.hid (H4.out.2.grown hg5 hs4 (fun g e => by cases e; exact (H4.out.1.lt _ rfl).1)); clear ho5 hg5 hat5)))
      go_ret
      refine ⟨some ⟨g5, 0, none⟩, c5, by rw [LN.out]; rfl, ?_, B5.out⟩
      rw [LN.out, L0.out, show putL x [] = [x] from rfl]
      exact own_base (by simpa using O5.out) hb
  | some ad =>
    subst hA
    have hfree : ∃ g, ad = ⟨g, 0, none⟩ ∧ base ≤ g ∧ g < w.heap.size := by
      rcases ho.out.2 with ⟨h', _⟩ | ⟨g, cap, cur, h', hbg, hg, _⟩
      · simp at h'
      · simp only [Value.slice.injEq, Option.some.injEq] at h'
        exact ⟨g, h'.1, hbg, (Array.getElem?_eq_some_iff.1 hg).1⟩
    obtain ⟨g, rfl, hg1, hg2⟩ := hfree
    go_enter Try.func79, Try.ntmps79
    go_wp2_with fail
    go_loop [5] (fun i => ∃ k : Nat, k ≤ m ∧ i = .int .i64 k ∧ ∀ y ∈ l.take k, y < x) (fun i => m - (intOf i).toNat)
    case atStart => exact ⟨0, Nat.zero_le _, rfl, by simp⟩
    case round =>
      obtain ⟨k, hk, rfl, hall⟩ := hrel
      have HA := Lib.hid hall
      clear hall
      by_cases hlt : k < m
      · obtain ⟨y, hy⟩ : ∃ y, l[k]? = some y := ⟨_, List.getElem?_eq_getElem (by have := HX.out; omega)⟩
        obtain ⟨b, off, hbo, hbl, ha⟩ := HL.out k y hy
        simp only [Option.some.injEq, Addr.mk.injEq, and_true] at hbo
        obtain ⟨rfl, rfl⟩ := hbo
        rw [Nat.zero_add] at ha
        have HY := Lib.hid hy
        clear hy
        by_cases hyx : y < x
        · go_wp2
          go_round
          case rel => exact ⟨k + 1, by omega, by go_num, by
            rw [take_snoc HY.out]
            intro z hz
            simp at hz
            rcases hz with hz | rfl
            · exact HA.out z hz
            · exact hyx⟩
          case measure => simp [intOf]; omega
        · have CUT := Lib.hid (putL_cut HA.out (fun z hz => by rw [HY.out] at hz; cases hz; exact hyx) (by rw [HX.out]; omega))
          cases hq : (y == x)
          · have CT : Hid (putL x l = l.take k ++ (x :: l.drop k)) := Lib.hid (by rw [CUT.out, if_neg (by rw [HY.out]; simp at hq; simpa using hq)])
            have hkc : (k : Int) ≤ (c : Int) := by omega
            have hkm : (k : Int) ≤ (m : Int) := by omega
            have hk0 : (0 : Int) ≤ (k : Int) := by omega
            have hmc : (m : Int) ≤ (c : Int) := by omega
            have PRE := Lib.hid (HL.out.take k)
            have PRL : Hid ((l.take k).length = k) := Lib.hid (by rw [List.length_take, HX.out]; omega)
            have DRP : Hid (ILies w (some ⟨g, k, none⟩) (l.drop k)) := Lib.hid (by have := HL.out.drop k; rw [Nat.zero_add] at this; exact this)
            have DRL : Hid ((l.drop k).length = m - k) := Lib.hid (by rw [List.length_drop, HX.out])
            have hck : ¬ (c = k) := by omega
            go_wp2_with (first
              | (at_builtin; (refine append_ints (w1 := w.alloc (.cells #[] 3)) (base := w.heap.size) (xs := []) (l := l.take k) _ _ rfl rfl rfl rfl (World.ownsRow_lit w #[] 0 (Nat.le_refl _) (by unfold maxLen; omega) rfl) (PRE.out.below (below1 w _)) PRL.out (fun e => by cases e) (by simp) (by omega) (by omega) ?_; intro g3 c3 w3 ho3 hg3 hat3; have O3 : Hid (w3.ownsRow w.heap.size 3 1 (.slice (some ⟨g3, 0, none⟩) k c3) k ((l.take k).map (Value.int .i64))) := Lib.hid (by simpa using ho3); have B3 := Lib.hid ((below1 w _).grown hg3 (by simp) (fun g e => by cases e; exact Nat.le_refl _)); have hs3 := B3.out.size; try rw [Nat.zero_add]; clear ho3 hg3 hat3))
              | (at_builtin; (refine wpList_append_lies _ rfl _ _ 35 rfl w.heap.size 3 i0 (.int .i64 0) 1 8 Try.underlying35 hi0 hz0 hz1 hz2 rfl (by omega) _ k _ rfl (O3.out.alloc _) ⟨w3.heap.size, 0, none⟩ 1 1 [.int .i64 x] rfl rfl (one_new1 w3 _ _) (by intro u hu; rw [List.mem_singleton.1 hu]; rfl) (by omega) (by unfold maxLen; omega) (by omega) (by first | omega | (simp; omega)) (w3.heap.size + 1) (by first | rfl | simp) ?_; intro g4 cap4 w4 hown4 hg4 hat4 hlt4; have H4 := Lib.hid (app1 O3.out hown4 hg4 B3.out (Nat.le_refl _)); have hs4 := H4.out.2.size; clear hown4 hg4 hat4 hlt4))
              | (at_builtin; (refine append_ints (w1 := w4) (base := w.heap.size) (xs := l.take k ++ [x]) (l := l.drop k) _ _ rfl rfl rfl rfl H4.out.1 (DRP.out.below H4.out.2) DRL.out (fun e => by cases e) hs4 (by omega) (by omega) ?_; intro g5 c5 w5 ho5 hg5 hat5; have O5 := Lib.hid ho5; have B5 := Lib.hid (H4.out.2.grown hg5 hs4 (fun g e => by cases e; exact (H4.out.1.lt _ rfl).1)); clear ho5 hg5 hat5)))
            go_ret
            have LN : (putL x l).length = k + 1 + (m - k) := by rw [CT.out, List.length_append, List.length_cons, PRL.out, DRL.out]; omega
            refine ⟨some ⟨g5, 0, none⟩, c5, by rw [LN]; rfl, ?_, B5.out⟩
            rw [LN, CT.out, show l.take k ++ x :: l.drop k = l.take k ++ [x] ++ l.drop k by simp]
            exact own_base O5.out hb
          · have CT : Hid (putL x l = l) := Lib.hid (by rw [CUT.out, if_pos (by rw [HY.out]; simp at hq; simp [hq])])
            go_wp2
            go_ret
            rw [CT.out]
            exact ⟨some ⟨g, 0, none⟩, c, by rw [HX.out]; rfl, by rw [HX.out]; exact ho.out, Below.refl _ _⟩
      · obtain rfl : k = m := by omega
        have CT : Hid (putL x l = l ++ [x]) := Lib.hid (by
          have := putL_cut HA.out (fun z hz => by rw [List.getElem?_eq_none (by have := HX.out; omega)] at hz; simp at hz) (by rw [HX.out]; omega)
          rw [this, if_neg (by rw [List.getElem?_eq_none (by have := HX.out; omega)]; simp), List.take_of_length_le (by have := HX.out; omega), List.drop_of_length_le (by have := HX.out; omega)])
        have LN : Hid ((putL x l).length = k + 1 + 0) := Lib.hid (by rw [CT.out, List.length_append, HX.out]; rfl)
        have hkc : (k : Int) ≤ (c : Int) := by omega
        have hk0 : (0 : Int) ≤ (k : Int) := by omega
        by_cases hck : c = k
        · subst hck
          go_wp2_with (first
            | (at_builtin; (refine append_ints (w1 := w.alloc (.cells #[] 3)) (base := w.heap.size) (xs := []) (l := l) _ _ rfl rfl rfl rfl (World.ownsRow_lit w #[] 0 (Nat.le_refl _) (by unfold maxLen; omega) rfl) (HL.out.below (below1 w _)) HX.out (fun e => by cases e) (by simp) (by omega) (by omega) ?_; intro g3 c3 w3 ho3 hg3 hat3; have O3 : Hid (w3.ownsRow w.heap.size 3 1 (.slice (some ⟨g3, 0, none⟩) c c3) c ((l).map (Value.int .i64))) := Lib.hid (by simpa using ho3); have B3 := Lib.hid ((below1 w _).grown hg3 (by simp) (fun g e => by cases e; exact Nat.le_refl _)); have hs3 := B3.out.size; try rw [Nat.zero_add]; clear ho3 hg3 hat3))
            | (at_builtin; (refine wpList_append_lies _ rfl _ _ 35 rfl w.heap.size 3 i0 (.int .i64 0) 1 8 Try.underlying35 hi0 hz0 hz1 hz2 rfl (by omega) _ c _ rfl (O3.out.alloc _) ⟨w3.heap.size, 0, none⟩ 1 1 [.int .i64 x] rfl rfl (one_new1 w3 _ _) (by intro u hu; rw [List.mem_singleton.1 hu]; rfl) (by omega) (by unfold maxLen; omega) (by omega) (by first | omega | (simp; omega)) (w3.heap.size + 1) (by first | rfl | simp) ?_; intro g4 cap4 w4 hown4 hg4 hat4 hlt4; have H4 := Lib.hid (app1 O3.out hown4 hg4 B3.out (Nat.le_refl _)); have hs4 := H4.out.2.size; clear hown4 hg4 hat4 hlt4))
            | (at_builtin; (refine append_ints (w1 := w4) (base := w.heap.size) (xs := l ++ [x]) (l := []) _ _ rfl rfl rfl rfl H4.out.1 (fun i y h => by simp at h) rfl (fun e => by cases e) hs4 (by omega) (by omega) ?_; intro g5 c5 w5 ho5 hg5 hat5; have O5 := Lib.hid ho5; have B5 := Lib.hid (H4.out.2.grown hg5 hs4 (fun g e => by cases e; exact (H4.out.1.lt _ rfl).1)); clear ho5 hg5 hat5)))
          go_ret
          refine ⟨some ⟨g5, 0, none⟩, c5, by rw [LN.out]; rfl, ?_, B5.out⟩
          rw [LN.out, CT.out]
          exact own_base (by simpa using O5.out) hb
        · have hsub : k - k = 0 := by omega
          go_wp2_with (first
            | (at_builtin; (refine append_ints (w1 := w.alloc (.cells #[] 3)) (base := w.heap.size) (xs := []) (l := l) _ _ rfl rfl rfl rfl (World.ownsRow_lit w #[] 0 (Nat.le_refl _) (by unfold maxLen; omega) rfl) (HL.out.below (below1 w _)) HX.out (fun e => by cases e) (by simp) (by omega) (by omega) ?_; intro g3 c3 w3 ho3 hg3 hat3; have O3 : Hid (w3.ownsRow w.heap.size 3 1 (.slice (some ⟨g3, 0, none⟩) k c3) k ((l).map (Value.int .i64))) := Lib.hid (by simpa using ho3); have B3 := Lib.hid ((below1 w _).grown hg3 (by simp) (fun g e => by cases e; exact Nat.le_refl _)); have hs3 := B3.out.size; try rw [Nat.zero_add]; clear ho3 hg3 hat3))
            | (at_builtin; (refine wpList_append_lies _ rfl _ _ 35 rfl w.heap.size 3 i0 (.int .i64 0) 1 8 Try.underlying35 hi0 hz0 hz1 hz2 rfl (by omega) _ k _ rfl (O3.out.alloc _) ⟨w3.heap.size, 0, none⟩ 1 1 [.int .i64 x] rfl rfl (one_new1 w3 _ _) (by intro u hu; rw [List.mem_singleton.1 hu]; rfl) (by omega) (by unfold maxLen; omega) (by omega) (by first | omega | (simp; omega)) (w3.heap.size + 1) (by first | rfl | simp) ?_; intro g4 cap4 w4 hown4 hg4 hat4 hlt4; have H4 := Lib.hid (app1 O3.out hown4 hg4 B3.out (Nat.le_refl _)); have hs4 := H4.out.2.size; clear hown4 hg4 hat4 hlt4))
            | (at_builtin; (refine append_ints (w1 := w4) (base := w.heap.size) (xs := l ++ [x]) (l := []) _ _ rfl rfl rfl rfl H4.out.1 (fun i y h => by simp at h) rfl (fun e => by cases e) hs4 (by omega) (by omega) ?_; intro g5 c5 w5 ho5 hg5 hat5; have O5 := Lib.hid ho5; have B5 := Lib.hid (H4.out.2.grown hg5 hs4 (fun g e => by cases e; exact (H4.out.1.lt _ rfl).1)); clear ho5 hg5 hat5)))
          go_ret
          refine ⟨some ⟨g5, 0, none⟩, c5, by rw [LN.out]; rfl, ?_, B5.out⟩
          rw [LN.out, CT.out]
          exact own_base (by simpa using O5.out) hb
set_option maxRecDepth 100000 in
set_option maxHeartbeats 8000000 in
theorem specPure_any (v : Int) (A : Option Addr) (n cap : Nat) (L : List (List Int)) (w : World) (r : List Int) (ok : Bool) (hr : Hid (PureR v L r ok)) (hl : Hid (LLies w A L)) (HX : Hid (L.length = n)) (hn : n ≤ 9223372036854775807) :
    Calls Try.prog 36 #[.int .i64 v, .slice A n cap] w (GaveTwo w r ok) := by
  obtain ⟨i0, hi0, hz0, hz1, hz2⟩ := info_parts info_int
  cases q1 : goodB v L
  · have E : Hid (r = [] ∧ ok = false) := Lib.hid (by have := hr.out; unfold PureR at this; rw [q1] at this; obtain ⟨rfl, rfl⟩ := this; simp)
    go_enter Try.func36, Try.ntmps36
    go_wp2_with (go_at_call 56; refine (specGoodC_any _ _ _ _ L _ hl HX hn).mono ?_; rintro e w' ⟨rfl, rfl⟩; rw [q1])
    go_ret2
    obtain ⟨rfl, rfl⟩ := E.out
    exact two_nil _ _ (Below.refl _ _)
  have hv := goodB_v q1
  obtain ⟨V, rfl⟩ : ∃ V : Nat, v = V := ⟨v.toNat, by omega⟩
  have hv2 : V ≤ 12 := by omega
  have hn60 : n ≤ 60 := by have := goodB_len q1; have := HX.out; omega
  have E : Hid (r = pureL V L.flatten ∧ ok = true) := Lib.hid (by have := hr.out; unfold PureR at this; rw [q1] at this; obtain ⟨rfl, rfl⟩ := this; simp)
  have HI := Lib.hid (goodB_in12 q1)
  have HLE : Hid (∀ c ∈ L, c.length ≤ 12) := Lib.hid (fun c hc => clauseB_len (goodB_cl q1 c hc))
  have HFV : Hid (∀ x ∈ L.flatten, -(V : Int) ≤ x ∧ x ≤ V) := Lib.hid (fun x hx => by
    obtain ⟨c, hc, hx⟩ := List.mem_flatten.1 hx
    exact (litB_iff.1 (clauseB_lits (goodB_cl q1 c hc) x hx)).2)
  have HS0 : Hid (∀ k, (L.take k).flatten.length ≤ 12 * k) := Lib.hid (fun k => by
    rw [List.length_flatten]
    have h1 := tot_few (R := L.take k) (fun c hc => HLE.out c (List.mem_of_mem_take hc))
    have h2 : (L.take k).length ≤ k := by rw [List.length_take]; omega
    omega)
  clear hv hr
  go_enter Try.func36, Try.ntmps36
  go_wp2_with (go_at_call 56; refine (specGoodC_any _ _ _ _ L _ hl HX hn).mono ?_; rintro e w' ⟨rfl, rfl⟩; rw [q1])
  clear q1
  go_loopw [6, 20] (fun u i wr => ∃ (k : Nat) (s : List Int), k ≤ n ∧ i = .int .i64 k ∧ s = putAll [] (L.take k).flatten ∧ (∃ A3 c3, u = .slice A3 s.length c3 ∧ wr.ownsRow w.heap.size 3 1 (.slice A3 s.length c3) s.length (s.map (Value.int .i64))) ∧ Below w.heap.size w wr) (fun _ i _ => n - (intOf i).toNat)
  case atStart => exact ⟨0, [], Nat.zero_le _, rfl, rfl, ⟨none, 0, rfl, World.ownsRow_nil _ _ _ _⟩, Below.refl _ _⟩
  case round =>
    obtain ⟨k, s, hk, rfl, hs, ⟨A2, d2, rfl, hown⟩, hbw⟩ := hrel
    obtain ⟨wo, hwo⟩ : ∃ x, x = wr := ⟨_, rfl⟩
    subst hwo
    have HS := Lib.hid hs
    have OW := Lib.hid hown
    have BW := Lib.hid hbw
    have LW := Lib.hid (hl.out.below hbw)
    have hsl : s.length ≤ 12 * k := by
      have h1 := putAll_len (L.take k).flatten []
      have h2 := HS0.out k
      rw [← hs] at h1
      simp at h1
      simp at h2
      omega
    clear hs hown hbw
    by_cases hlt : k < n
    · obtain ⟨c, hx⟩ : ∃ x, L[k]? = some x := ⟨_, List.getElem?_eq_getElem (by have := HX.out; omega)⟩
      obtain ⟨b, off, a, cp, rfl, hbl, ha, hca, hma, hil⟩ := LW.out k c hx
      have HFA := Lib.hid (flatten_at hx)
      have IL := Lib.hid hil
      have HCL : c.length ≤ 12 := HLE.out c (List.mem_of_getElem? hx)
      clear hx hil
      obtain ⟨z, hz⟩ : ∃ m, c.length = m := ⟨_, rfl⟩
      rw [hz] at ha hca hma HCL
      have HM := Lib.hid hz
      clear hz
      go_wp2_with fail
      go_loopw [6, 26] (fun u i wj => ∃ (j : Nat) (o : List Int), j ≤ z ∧ i = .int .i64 j ∧ o = putAll s (c.take j) ∧ (∃ A3 c3, u = .slice A3 o.length c3 ∧ wj.ownsRow w.heap.size 3 1 (.slice A3 o.length c3) o.length (o.map (Value.int .i64))) ∧ Below wo.heap.size wo wj) (fun _ i _ => z - (intOf i).toNat)
      case atStart => exact ⟨0, s, Nat.zero_le _, rfl, rfl, ⟨A2, d2, rfl, OW.out⟩, Below.refl _ _⟩
      case round =>
        obtain ⟨j, o, hj, rfl, ho, ⟨A3, c3, rfl, hown3⟩, hbj⟩ := hrel
        have hol : o.length ≤ 12 * k + 12 := by
          have h1 := putAll_len (c.take j) s
          rw [← ho] at h1
          have h2 : (c.take j).length ≤ 12 := by rw [List.length_take]; omega
          omega
        obtain ⟨q, hq⟩ : ∃ m, o.length = m := ⟨_, rfl⟩
        rw [hq] at hol hown3 ⊢
        have HQ := Lib.hid hq
        have HO := Lib.hid ho
        have O3 := Lib.hid hown3
        have B3 := Lib.hid hbj
        have ILJ := Lib.hid (IL.out.below hbj)
        have hbsz : w.heap.size ≤ wr.heap.size := by have := BW.out.size; have := hbj.size; omega
        clear hq ho hown3 hbj
        by_cases hjt : j < z
        · obtain ⟨x, hx⟩ : ∃ x, c[j]? = some x := ⟨_, List.getElem?_eq_getElem (by have := HM.out; omega)⟩
          obtain ⟨b2, off2, rfl, hbl2, ha2⟩ := ILJ.out j x hx
          have HPA := Lib.hid (putAll_at (s := s) hx)
          clear hx
          go_wp2_with fail
          refine (l1Put_any w.heap.size _ _ _ o x _ O3 HQ (by omega) hbsz).mono ?_
          rintro e w4 ⟨A4, c4, rfl, ho4, hb4⟩
          have O4 := Lib.hid ho4
          have B4 := Lib.hid (Below.tr B3.out hb4)
          clear ho4 hb4
          go_wp2
          go_roundw
          case rel => exact ⟨j + 1, putL x o, by omega, by go_num, by rw [HPA.out, HO.out], ⟨A4, c4, rfl, O4.out⟩, B4.out⟩
          case measure => simp [intOf]; omega
        · obtain rfl : j = z := by omega
          have EQ : Hid (o = putAll [] (L.take (k + 1)).flatten) := Lib.hid (by rw [HFA.out, putAll_app, ← HS.out, HO.out, List.take_of_length_le (by have := HM.out; omega)])
          go_wp2
          go_roundw
          case rel => exact ⟨k + 1, o, by omega, by go_num, EQ.out, ⟨A3, c3, by rw [HQ.out], by rw [HQ.out]; exact O3.out⟩, Below.tr BW.out B3.out⟩
          case measure => simp [intOf]; omega
    · obtain rfl : k = n := by omega
      have EQ : Hid (s = putAll [] L.flatten) := Lib.hid (by rw [HS.out, List.take_of_length_le (by have := HX.out; omega)])
      have SL := Lib.hid (own_ilies OW.out)
      obtain ⟨z, hz⟩ : ∃ m, s.length = m := ⟨_, rfl⟩
      rw [hz] at hsl ⊢
      have HM := Lib.hid hz
      clear hz
      go_wp2_with fail
      go_loopw [7, 37] (fun u i wj => ∃ (j : Nat) (o : List Int), j ≤ z ∧ i = .int .i64 j ∧ o = (s.take j).filter (fun x => !decide (-x ∈ s)) ∧ o.length ≤ j ∧ (∃ A3 c3, u = .slice A3 o.length c3 ∧ wj.ownsRow wo.heap.size 3 1 (.slice A3 o.length c3) o.length (o.map (Value.int .i64))) ∧ Below wo.heap.size wo wj) (fun _ i _ => z - (intOf i).toNat)
      case atStart => exact ⟨0, [], Nat.zero_le _, rfl, by simp, Nat.le_refl _, ⟨none, 0, rfl, World.ownsRow_nil _ _ _ _⟩, Below.refl _ _⟩
      case round =>
        obtain ⟨j, o, hj, rfl, ho, hoj, ⟨A3, c3, rfl, hown3⟩, hbj⟩ := hrel
        obtain ⟨q, hq⟩ : ∃ m, o.length = m := ⟨_, rfl⟩
        rw [hq] at hoj hown3 ⊢
        have HQ := Lib.hid hq
        have HO := Lib.hid ho
        have O3 := Lib.hid hown3
        have B3 := Lib.hid hbj
        have ILJ := Lib.hid (SL.out.below hbj)
        clear hq ho hown3 hbj
        by_cases hjt : j < z
        · obtain ⟨x, hx⟩ : ∃ x, s[j]? = some x := ⟨_, List.getElem?_eq_getElem (by have := HM.out; omega)⟩
          obtain ⟨b2, off2, rfl, hbl2, ha2⟩ := ILJ.out j x hx
          have HFT := Lib.hid (filter_at (fun x => !decide (-x ∈ s)) s j x hx)
          have hxv : -(V : Int) ≤ x ∧ x ≤ V := HFV.out x (by
            have := List.mem_of_getElem? hx
            rw [EQ.out, putAll_mem] at this
            simpa using this)
          have hx1 : -12 ≤ x := by omega
          have hx2 : x ≤ 12 := by omega
          clear hx hxv
          cases r1 : decide (-x ∈ s)
          · go_wp2_with (first
              | (at_builtin; (refine wpList_append_lies _ rfl _ _ 35 rfl wo.heap.size 3 i0 (.int .i64 0) 1 8 Try.underlying35 hi0 hz0 hz1 hz2 rfl (by omega) _ q _ rfl (O3.out.alloc _) ⟨wr.heap.size, 0, none⟩ 1 1 [.int .i64 x] rfl rfl (one_new1 wr _ _) (by intro u hu; rw [List.mem_singleton.1 hu]; rfl) (by omega) (by unfold maxLen; omega) (by omega) (by have := B3.out.size; first | omega | (simp; omega)) (wr.heap.size + 1) (by first | rfl | simp) ?_; intro g4 cap4 w4 hown4 hg4 hat4 hlt4; have H4 := Lib.hid (app1 O3.out hown4 hg4 B3.out (Nat.le_refl _)); clear hown4 hg4 hat4 hlt4))
              | (go_at_call 80; refine (l1Has_any _ _ _ s _ _ ILJ HM (by omega)).mono ?_; rintro e w' ⟨rfl, rfl⟩; rw [r1]))
            go_roundw
            case rel => exact ⟨j + 1, o ++ [x], by omega, by go_num, by rw [HFT.out, HO.out, r1]; simp, by have := HQ.out; simp; omega, acc_snoc HQ.out H4.out.1, H4.out.2⟩
            case measure => simp [intOf]; omega
          · go_wp2_with (go_at_call 80; refine (l1Has_any _ _ _ s _ _ ILJ HM (by omega)).mono ?_; rintro e w' ⟨rfl, rfl⟩; rw [r1])
            go_roundw
            case rel => exact ⟨j + 1, o, by omega, by go_num, by rw [HFT.out, HO.out, r1]; simp, by have := HQ.out; omega, acc_same HQ.out O3.out, B3.out⟩
            case measure => simp [intOf]; omega
        · obtain rfl : j = z := by omega
          have EQ2 : Hid (pureL V L.flatten = o) := Lib.hid (by rw [← pure_of HFV.out, ← EQ.out, HO.out, List.take_of_length_le (by have := HM.out; omega)])
          go_wp2
          go_ret2
          obtain ⟨rfl, rfl⟩ := E.out
          rw [EQ2.out]
          exact ⟨A3, c3, (by first | (rw [HQ.out]; done) | (rw [HQ.out]; rfl)), by rw [HQ.out]; exact own_base O3.out BW.out.size, Below.tr BW.out B3.out⟩
end Go.Proofs.Ytehedomjfpipkaa
