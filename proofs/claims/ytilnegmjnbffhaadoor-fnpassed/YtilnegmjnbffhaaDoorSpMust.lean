/-
  The model's l11Must, MustPass and NearestOf.
-/
import Derived.Test.YtilnegmjnbffhaaDoorTwo
import Derived.Lib.SliceRun
import Derived.Test.YtilnegmjnbffhaaDoorRfMust
namespace Go.Proofs.YtilnegmjnbffhaaDoor
open Go.ChangeShapes Go.WideShapes Go.ChangeAt Go.RowKit

theorem take_snoc {l : List Int} {k : Nat} {x : Int} (hx : l[k]? = some x) : l.take (k + 1) = l.take k ++ [x] := by
  have h1 := (List.getElem?_eq_some_iff.1 hx).1
  have h2 := (List.getElem?_eq_some_iff.1 hx).2
  rw [List.take_succ_eq_append_getElem h1, h2]
set_option maxRecDepth 100000 in
set_option maxHeartbeats 1000000 in
theorem l1Has_any (A : Option Addr) (n cap : Nat) (l : List Int) (y : Int) (w : World) (hl : Hid (ILies w A l)) (HX : Hid (l.length = n)) (hn : n ≤ 9223372036854775807) :
    Calls Tryd.prog 30 #[.slice A n cap, .int .i64 y] w fun e w' => e = .returned (.bool (decide (y ∈ l))) ∧ w = w' := by
  go_enter Tryd.func30, Tryd.ntmps30
  go_wp2_with fail
  go_loop [9] (fun i => ∃ k : Nat, k ≤ n ∧ i = .int .i64 k ∧ y ∉ l.take k) (fun i => n - (intOf i).toNat)
  case atStart => exact ⟨0, Nat.zero_le _, rfl, by simp⟩
  case round =>
    obtain ⟨k, hk, rfl, hnot⟩ := hrel
    have HN := Lib.hid hnot
    clear hnot
    by_cases hlt : k < n
    · obtain ⟨x, hx⟩ : ∃ x, l[k]? = some x := ⟨_, List.getElem?_eq_getElem (by have := HX.out; omega)⟩
      obtain ⟨b, off, rfl, hbl, ha⟩ := hl.out k x hx
      have HT := Lib.hid (take_snoc hx)
      have HM := Lib.hid (List.mem_of_getElem? hx)
      clear hx
      cases q : (x == y)
      · go_wp2
        go_round
        case rel => exact ⟨k + 1, by omega, by go_num, by rw [HT.out]; simp at q; simp; exact ⟨HN.out, fun e => q e.symm⟩⟩
        case measure => simp [intOf]; omega
      · have E : Hid (decide (y ∈ l) = true) := Lib.hid (by simp at q; subst q; simpa using HM.out)
        go_wp2
        go_ret
        exact ⟨ret_bool E.out.symm, rfl⟩
    · obtain rfl : k = n := by omega
      have E : Hid (decide (y ∈ l) = false) := Lib.hid (by have := HN.out; rw [List.take_of_length_le (by have := HX.out; omega)] at this; simpa using this)
      go_wp2
      go_ret
      exact ⟨ret_bool E.out.symm, rfl⟩
theorem ILies.take {w : World} {A : Option Addr} {l : List Int} (h : ILies w A l) (k : Nat) : ILies w A (l.take k) := by
  intro i y hy
  rw [List.getElem?_take] at hy
  split at hy
  · exact h i y hy
  · simp at hy
theorem ilies_cells {w : World} {A : Option Addr} {l : List Int} (h : ILies w A l) : ∀ ad, A = some ad → ∀ j u, (l.map (Value.int .i64))[j]? = some u → w.cell? (ad.add j) = some u := by
  intro ad had j u hu
  rw [List.getElem?_map] at hu
  obtain ⟨y, hy, rfl⟩ := Option.map_eq_some_iff.1 hu
  obtain ⟨b, off, hA, _, hc⟩ := h j y hy
  rw [hA] at had
  obtain rfl := Option.some.inj had
  rw [add_plain]
  exact hc
theorem own_nilA' {w : World} {base n c : Nat} {t : TypeId} {A : Option Addr} {xs : List Value} (h : w.ownsRow base t 1 (.slice A n c) n xs) (hA : A = none) : n = 0 ∧ c = 0 := by
  rcases h.2 with ⟨h', h0⟩ | ⟨g, cap, cur, h', _⟩
  · simp only [Value.slice.injEq] at h'; omega
  · simp only [Value.slice.injEq] at h'; rw [hA] at h'; simp at h'
/-- an append of a slice of ints, nil and empty let in, onto a row of one's own -/
theorem append_ints {w1 : World} {base g k cap m c2 : Nat} {B : Option Addr} {xs l : List Int} {ops : Array Oper} {rest : List Oper} {o : Oper} {a : Act} {Q : Exit → Act → World → Prop} (s x : Operand)
    (hg : o.guard = none) (hop : o.op = Op.call { callee := Callee.builtin Builtin.append, args := #[s, x], argTypes := #[24, 24] })
    (hs : a.eval s = .slice (some ⟨g, 0, none⟩) k cap) (hx : a.eval x = .slice B m c2) (ho : w1.ownsRow base 3 1 (.slice (some ⟨g, 0, none⟩) k cap) k (xs.map (Value.int .i64)))
    (hl : ILies w1 B l) (hm : l.length = m) (HN : B = none → m = 0 ∧ c2 = 0) (hb : base ≤ w1.heap.size) (hk : k ≤ 10000000) (hmm : m ≤ 10000000)
    (hK : ∀ g' cc w2, w2.ownsRow base 3 1 (.slice (some ⟨g', 0, none⟩) (k + m) cc) (k + m) ((xs ++ l).map (Value.int .i64)) → w1.grownBy w2 (some g) → (g' = g ∨ g' = w1.heap.size) → wpList Tryd.prog ops Q rest (a.put o.dst (.slice (some ⟨g', 0, none⟩) (k + m) cc)) w2) : wpList Tryd.prog ops Q (o :: rest) a w1 := by
  obtain ⟨i0, hi0, hz0, hz1, hz2⟩ := info_parts info_int
  by_cases hz : m = 0
  · subst hz
    have hg0 : l = [] := List.eq_nil_of_length_eq_zero hm
    refine wpList_append_fits_any _ hg _ _ 24 hop base 3 i0 1 Tryd.underlying24 hi0 hz1 g k cap _ hs ho B 0 c2 [] hx rfl (fun e => HN e) (fun ad _ j u hu => by simp at hu) (fun u hu => by simp at hu) (by have := own_cap ho; omega) ?_
    intro w2 h2 hg2
    exact hK _ _ w2 (by rw [hg0]; simpa using h2) hg2 (.inl rfl)
  · obtain ⟨y, hy⟩ : ∃ y, l[0]? = some y := ⟨_, List.getElem?_eq_getElem (by omega)⟩
    obtain ⟨b1, off1, hB, _, _⟩ := hl 0 y hy
    refine wpList_append_lies _ hg _ _ 24 hop base 3 i0 (.int .i64 0) 1 8 Tryd.underlying24 hi0 hz0 hz1 hz2 rfl (by omega) _ k _ hs ho ⟨b1, off1, none⟩ m c2 (l.map (Value.int .i64)) (by rw [hx, hB]) (by simp [hm]) (ilies_cells hl _ hB) (ints_oneCell _ _) (by omega) (by unfold maxLen; omega) (by omega) hb _ rfl ?_
    intro g' cap' w2 h2 hg2 hat _
    exact hK g' cap' w2 (by rw [List.map_append]; exact h2) hg2 (hat.elim (fun e => .inl (by simp [Value.ownBlock] at e; exact e.symm)) .inr)
theorem ILies.drop {w : World} {g off : Nat} {l : List Int} (h : ILies w (some ⟨g, off, none⟩) l) (k : Nat) : ILies w (some ⟨g, off + k, none⟩) (l.drop k) := by
  intro i y hy
  rw [List.getElem?_drop] at hy
  obtain ⟨b, o, hA, hb, hc⟩ := h (k + i) y hy
  simp only [Option.some.injEq, Addr.mk.injEq, and_true] at hA
  obtain ⟨rfl, rfl⟩ := hA
  exact ⟨g, off + k, rfl, hb, by rw [Nat.add_assoc]; exact hc⟩
/-- it answers a row of one's own -/
def GaveRow (base : Nat) (w : World) (r : List Int) (e : Ending) (w' : World) : Prop :=
  ∃ A2 c2, e = .returned (.slice A2 r.length c2) ∧ w'.ownsRow base 3 1 (.slice A2 r.length c2) r.length (r.map (Value.int .i64)) ∧ Below w.heap.size w w'
set_option maxRecDepth 100000 in
set_option maxHeartbeats 4000000 in
theorem l1Put_any (base : Nat) (A : Option Addr) (m c : Nat) (l : List Int) (x : Int) (w : World) (ho : Hid (w.ownsRow base 3 1 (.slice A m c) m (l.map (Value.int .i64)))) (HX : Hid (l.length = m)) (hm : m ≤ 10000) (hb : base ≤ w.heap.size) :
    Calls Tryd.prog 49 #[.slice A m c, .int .i64 x] w (GaveRow base w (putL x l)) := by
  obtain ⟨i0, hi0, hz0, hz1, hz2⟩ := info_parts info_int
  have HL := Lib.hid (own_ilies ho.out)
  have hcap := own_cap ho.out
  have HN := Lib.hid (own_nilA' ho.out)
  cases hA : A with
  | none =>
    obtain ⟨h0, h1⟩ := HN.out hA
    subst h0 h1 hA
    have L0 : Hid (l = []) := Lib.hid (List.eq_nil_of_length_eq_zero HX.out)
    go_enter Tryd.func49, Tryd.ntmps49
    go_wp2_with fail
    go_loop [5] (fun i => i = .int .i64 0) (fun _ => 0)
    case atStart => rfl
    case round =>
      subst hrel
      have LN : Hid ((putL x l).length = 0 + 1 + 0) := Lib.hid (by rw [L0.out]; rfl)
      go_wp2_with (first
        | (at_builtin; (refine append_ints (w1 := w.alloc (.cells #[] 3)) (base := w.heap.size) (xs := []) (l := []) _ _ rfl rfl rfl rfl (World.ownsRow_lit w #[] 0 (Nat.le_refl _) (by unfold maxLen; omega) rfl) (fun i y h => by simp at h) rfl (fun _ => ⟨rfl, rfl⟩) (by simp) (by omega) (by omega) ?_; intro g3 c3 w3 ho3 hg3 hat3; have O3 : Hid (w3.ownsRow w.heap.size 3 1 (.slice (some ⟨g3, 0, none⟩) 0 c3) 0 (([]).map (Value.int .i64))) := Lib.hid (by simpa using ho3); have B3 := Lib.hid ((below1 w _).grown hg3 (by simp) (fun g e => by cases e; exact Nat.le_refl _)); have hs3 := B3.out.size; try rw [Nat.zero_add]; clear ho3 hg3 hat3))
        | (at_builtin; (refine wpList_append_lies _ rfl _ _ 24 rfl w.heap.size 3 i0 (.int .i64 0) 1 8 Tryd.underlying24 hi0 hz0 hz1 hz2 rfl (by omega) _ 0 _ rfl (O3.out.alloc _) ⟨w3.heap.size, 0, none⟩ 1 1 [.int .i64 x] rfl rfl (one_newT w3 _ _) (by intro u hu; rw [List.mem_singleton.1 hu]; rfl) (by omega) (by unfold maxLen; omega) (by omega) (by first | omega | (simp; omega)) (w3.heap.size + 1) (by first | rfl | simp) ?_; intro g4 cap4 w4 hown4 hg4 hat4 hlt4; have H4 := Lib.hid (app1 O3.out hown4 hg4 B3.out (Nat.le_refl _)); have hs4 := H4.out.2.size; clear hown4 hg4 hat4 hlt4))
        | (at_builtin; (refine append_ints (w1 := w4) (base := w.heap.size) (xs := [] ++ [x]) (l := []) _ _ rfl rfl rfl rfl H4.out.1 (fun i y h => by simp at h) rfl (fun _ => ⟨rfl, rfl⟩) hs4 (by omega) (by omega) ?_; intro g5 c5 w5 ho5 hg5 hat5; have O5 := Lib.hid ho5; have B5 := Lib.hid (H4.out.2.grown hg5 hs4 (fun g e => by cases e; exact (H4.out.1.lt _ rfl).1)); clear ho5 hg5 hat5)))
      go_ret
      refine ⟨some ⟨g5, 0, none⟩, c5, by rw [LN.out]; rfl, ?_, B5.out⟩
      rw [LN.out, L0.out, show putL x [] = [x] from rfl]
      exact own_base (by simpa using O5.out) hb
  | some ad =>
    subst hA
    have hfree : ∃ g, ad = ⟨g, 0, none⟩ ∧ base ≤ g ∧ g < w.heap.size := by
      rcases ho.out.2 with ⟨h', _⟩ | ⟨g, cap, cur, h', hbg, hg, _⟩
      · simp at h'
      · simp only [Value.slice.injEq, Option.some.injEq] at h'
        exact ⟨g, h'.1, hbg, (Array.getElem?_eq_some_iff.1 hg).1⟩
    obtain ⟨g, rfl, hg1, hg2⟩ := hfree
    go_enter Tryd.func49, Tryd.ntmps49
    go_wp2_with fail
    go_loop [5] (fun i => ∃ k : Nat, k ≤ m ∧ i = .int .i64 k ∧ ∀ y ∈ l.take k, y < x) (fun i => m - (intOf i).toNat)
    case atStart => exact ⟨0, Nat.zero_le _, rfl, by simp⟩
    case round =>
      obtain ⟨k, hk, rfl, hall⟩ := hrel
      have HA := Lib.hid hall
      clear hall
      by_cases hlt : k < m
      · obtain ⟨y, hy⟩ : ∃ y, l[k]? = some y := ⟨_, List.getElem?_eq_getElem (by have := HX.out; omega)⟩
        obtain ⟨b, off, hbo, hbl, ha⟩ := HL.out k y hy
        simp only [Option.some.injEq, Addr.mk.injEq, and_true] at hbo
        obtain ⟨rfl, rfl⟩ := hbo
        rw [Nat.zero_add] at ha
        have HY := Lib.hid hy
        clear hy
        by_cases hyx : y < x
        · go_wp2
          go_round
          case rel => exact ⟨k + 1, by omega, by go_num, by
            rw [take_snoc HY.out]
            intro z hz
            simp at hz
            rcases hz with hz | rfl
            · exact HA.out z hz
            · exact hyx⟩
          case measure => simp [intOf]; omega
        · have CUT := Lib.hid (putL_cut HA.out (fun z hz => by rw [HY.out] at hz; cases hz; exact hyx) (by rw [HX.out]; omega))
          cases hq : (y == x)
          · have CT : Hid (putL x l = l.take k ++ (x :: l.drop k)) := Lib.hid (by rw [CUT.out, if_neg (by rw [HY.out]; simp at hq; simpa using hq)])
            have hkc : (k : Int) ≤ (c : Int) := by omega
            have hkm : (k : Int) ≤ (m : Int) := by omega
            have hk0 : (0 : Int) ≤ (k : Int) := by omega
            have hmc : (m : Int) ≤ (c : Int) := by omega
            have PRE := Lib.hid (HL.out.take k)
            have PRL : Hid ((l.take k).length = k) := Lib.hid (by rw [List.length_take, HX.out]; omega)
            have DRP : Hid (ILies w (some ⟨g, k, none⟩) (l.drop k)) := Lib.hid (by have := HL.out.drop k; rw [Nat.zero_add] at this; exact this)
            have DRL : Hid ((l.drop k).length = m - k) := Lib.hid (by rw [List.length_drop, HX.out])
            have hck : ¬ (c = k) := by omega
            go_wp2_with (first
              | (at_builtin; (refine append_ints (w1 := w.alloc (.cells #[] 3)) (base := w.heap.size) (xs := []) (l := l.take k) _ _ rfl rfl rfl rfl (World.ownsRow_lit w #[] 0 (Nat.le_refl _) (by unfold maxLen; omega) rfl) (PRE.out.below (below1 w _)) PRL.out (fun e => by cases e) (by simp) (by omega) (by omega) ?_; intro g3 c3 w3 ho3 hg3 hat3; have O3 : Hid (w3.ownsRow w.heap.size 3 1 (.slice (some ⟨g3, 0, none⟩) k c3) k ((l.take k).map (Value.int .i64))) := Lib.hid (by simpa using ho3); have B3 := Lib.hid ((below1 w _).grown hg3 (by simp) (fun g e => by cases e; exact Nat.le_refl _)); have hs3 := B3.out.size; try rw [Nat.zero_add]; clear ho3 hg3 hat3))
              | (at_builtin; (refine wpList_append_lies _ rfl _ _ 24 rfl w.heap.size 3 i0 (.int .i64 0) 1 8 Tryd.underlying24 hi0 hz0 hz1 hz2 rfl (by omega) _ k _ rfl (O3.out.alloc _) ⟨w3.heap.size, 0, none⟩ 1 1 [.int .i64 x] rfl rfl (one_newT w3 _ _) (by intro u hu; rw [List.mem_singleton.1 hu]; rfl) (by omega) (by unfold maxLen; omega) (by omega) (by first | omega | (simp; omega)) (w3.heap.size + 1) (by first | rfl | simp) ?_; intro g4 cap4 w4 hown4 hg4 hat4 hlt4; have H4 := Lib.hid (app1 O3.out hown4 hg4 B3.out (Nat.le_refl _)); have hs4 := H4.out.2.size; clear hown4 hg4 hat4 hlt4))
              | (at_builtin; (refine append_ints (w1 := w4) (base := w.heap.size) (xs := l.take k ++ [x]) (l := l.drop k) _ _ rfl rfl rfl rfl H4.out.1 (DRP.out.below H4.out.2) DRL.out (fun e => by cases e) hs4 (by omega) (by omega) ?_; intro g5 c5 w5 ho5 hg5 hat5; have O5 := Lib.hid ho5; have B5 := Lib.hid (H4.out.2.grown hg5 hs4 (fun g e => by cases e; exact (H4.out.1.lt _ rfl).1)); clear ho5 hg5 hat5)))
            go_ret
            have LN : (putL x l).length = k + 1 + (m - k) := by rw [CT.out, List.length_append, List.length_cons, PRL.out, DRL.out]; omega
            refine ⟨some ⟨g5, 0, none⟩, c5, by rw [LN]; rfl, ?_, B5.out⟩
            rw [LN, CT.out, show l.take k ++ x :: l.drop k = l.take k ++ [x] ++ l.drop k by simp]
            exact own_base O5.out hb
          · have CT : Hid (putL x l = l) := Lib.hid (by rw [CUT.out, if_pos (by rw [HY.out]; simp at hq; simp [hq])])
            go_wp2
            go_ret
            rw [CT.out]
            exact ⟨some ⟨g, 0, none⟩, c, by rw [HX.out]; rfl, by rw [HX.out]; exact ho.out, Below.refl _ _⟩
      · obtain rfl : k = m := by omega
        have CT : Hid (putL x l = l ++ [x]) := Lib.hid (by
          have := putL_cut HA.out (fun z hz => by rw [List.getElem?_eq_none (by have := HX.out; omega)] at hz; simp at hz) (by rw [HX.out]; omega)
          rw [this, if_neg (by rw [List.getElem?_eq_none (by have := HX.out; omega)]; simp), List.take_of_length_le (by have := HX.out; omega), List.drop_of_length_le (by have := HX.out; omega)])
        have LN : Hid ((putL x l).length = k + 1 + 0) := Lib.hid (by rw [CT.out, List.length_append, HX.out]; rfl)
        have hkc : (k : Int) ≤ (c : Int) := by omega
        have hk0 : (0 : Int) ≤ (k : Int) := by omega
        by_cases hck : c = k
        · subst hck
          go_wp2_with (first
            | (at_builtin; (refine append_ints (w1 := w.alloc (.cells #[] 3)) (base := w.heap.size) (xs := []) (l := l) _ _ rfl rfl rfl rfl (World.ownsRow_lit w #[] 0 (Nat.le_refl _) (by unfold maxLen; omega) rfl) (HL.out.below (below1 w _)) HX.out (fun e => by cases e) (by simp) (by omega) (by omega) ?_; intro g3 c3 w3 ho3 hg3 hat3; have O3 : Hid (w3.ownsRow w.heap.size 3 1 (.slice (some ⟨g3, 0, none⟩) c c3) c ((l).map (Value.int .i64))) := Lib.hid (by simpa using ho3); have B3 := Lib.hid ((below1 w _).grown hg3 (by simp) (fun g e => by cases e; exact Nat.le_refl _)); have hs3 := B3.out.size; try rw [Nat.zero_add]; clear ho3 hg3 hat3))
            | (at_builtin; (refine wpList_append_lies _ rfl _ _ 24 rfl w.heap.size 3 i0 (.int .i64 0) 1 8 Tryd.underlying24 hi0 hz0 hz1 hz2 rfl (by omega) _ c _ rfl (O3.out.alloc _) ⟨w3.heap.size, 0, none⟩ 1 1 [.int .i64 x] rfl rfl (one_newT w3 _ _) (by intro u hu; rw [List.mem_singleton.1 hu]; rfl) (by omega) (by unfold maxLen; omega) (by omega) (by first | omega | (simp; omega)) (w3.heap.size + 1) (by first | rfl | simp) ?_; intro g4 cap4 w4 hown4 hg4 hat4 hlt4; have H4 := Lib.hid (app1 O3.out hown4 hg4 B3.out (Nat.le_refl _)); have hs4 := H4.out.2.size; clear hown4 hg4 hat4 hlt4))
            | (at_builtin; (refine append_ints (w1 := w4) (base := w.heap.size) (xs := l ++ [x]) (l := []) _ _ rfl rfl rfl rfl H4.out.1 (fun i y h => by simp at h) rfl (fun e => by cases e) hs4 (by omega) (by omega) ?_; intro g5 c5 w5 ho5 hg5 hat5; have O5 := Lib.hid ho5; have B5 := Lib.hid (H4.out.2.grown hg5 hs4 (fun g e => by cases e; exact (H4.out.1.lt _ rfl).1)); clear ho5 hg5 hat5)))
          go_ret
          refine ⟨some ⟨g5, 0, none⟩, c5, by rw [LN.out]; rfl, ?_, B5.out⟩
          rw [LN.out, CT.out]
          exact own_base (by simpa using O5.out) hb
        · have hsub : k - k = 0 := by omega
          go_wp2_with (first
            | (at_builtin; (refine append_ints (w1 := w.alloc (.cells #[] 3)) (base := w.heap.size) (xs := []) (l := l) _ _ rfl rfl rfl rfl (World.ownsRow_lit w #[] 0 (Nat.le_refl _) (by unfold maxLen; omega) rfl) (HL.out.below (below1 w _)) HX.out (fun e => by cases e) (by simp) (by omega) (by omega) ?_; intro g3 c3 w3 ho3 hg3 hat3; have O3 : Hid (w3.ownsRow w.heap.size 3 1 (.slice (some ⟨g3, 0, none⟩) k c3) k ((l).map (Value.int .i64))) := Lib.hid (by simpa using ho3); have B3 := Lib.hid ((below1 w _).grown hg3 (by simp) (fun g e => by cases e; exact Nat.le_refl _)); have hs3 := B3.out.size; try rw [Nat.zero_add]; clear ho3 hg3 hat3))
            | (at_builtin; (refine wpList_append_lies _ rfl _ _ 24 rfl w.heap.size 3 i0 (.int .i64 0) 1 8 Tryd.underlying24 hi0 hz0 hz1 hz2 rfl (by omega) _ k _ rfl (O3.out.alloc _) ⟨w3.heap.size, 0, none⟩ 1 1 [.int .i64 x] rfl rfl (one_newT w3 _ _) (by intro u hu; rw [List.mem_singleton.1 hu]; rfl) (by omega) (by unfold maxLen; omega) (by omega) (by first | omega | (simp; omega)) (w3.heap.size + 1) (by first | rfl | simp) ?_; intro g4 cap4 w4 hown4 hg4 hat4 hlt4; have H4 := Lib.hid (app1 O3.out hown4 hg4 B3.out (Nat.le_refl _)); have hs4 := H4.out.2.size; clear hown4 hg4 hat4 hlt4))
            | (at_builtin; (refine append_ints (w1 := w4) (base := w.heap.size) (xs := l ++ [x]) (l := []) _ _ rfl rfl rfl rfl H4.out.1 (fun i y h => by simp at h) rfl (fun e => by cases e) hs4 (by omega) (by omega) ?_; intro g5 c5 w5 ho5 hg5 hat5; have O5 := Lib.hid ho5; have B5 := Lib.hid (H4.out.2.grown hg5 hs4 (fun g e => by cases e; exact (H4.out.1.lt _ rfl).1)); clear ho5 hg5 hat5)))
          go_ret
          refine ⟨some ⟨g5, 0, none⟩, c5, by rw [LN.out]; rfl, ?_, B5.out⟩
          rw [LN.out, CT.out]
          exact own_base (by simpa using O5.out) hb

theorem rp_len (E : Nat → Nat → Bool) (n f m : Nat) : (castL (rpL E n f m)).length ≤ n := by
  rw [castL_len]
  have := List.length_filter_le (fun j => decide (j = f) || (List.range m).any (fun a => rb E f a && E a j)) (List.range n)
  rw [List.length_range] at this
  exact this
theorem putAll_short (E : Nat → Nat → Bool) (n f m : Nat) (nx : List Int) (k : Nat) (hn : n ≤ 20) (hx : nx.length ≤ 2) : (putAll (castL (rpL E n f m)) (nx.take k)).length ≤ 22 := by
  have h1 := putAll_len (nx.take k) (castL (rpL E n f m))
  have h2 := rp_len E n f m
  have h3 : (nx.take k).length ≤ nx.length := by rw [List.length_take]; exact Nat.min_le_right _ _
  omega
set_option maxRecDepth 100000 in
set_option maxHeartbeats 4000000 in
theorem l11Reached_any (A : Option Addr) (n cap f : Nat) (xs : List Stp) (w : World) (hg : Hid (Good xs)) (hl : Hid (Lies w A xs)) (hx : Hid (xs.length = n)) (hf : f < n) :
    Calls Tryd.prog 25 #[.slice A n cap, .int .i64 f] w (GaveRow w.heap.size w (castL (reachL (edg (ktOf xs)) n f))) := by
  obtain ⟨hn0, hn20⟩ := good_20 hg.out hx.out
  have HGK := Lib.hid (good_kt hg.out)
  have HKL : Hid ((ktOf xs).length = n) := Lib.hid (by rw [ktOf_len]; exact hx.out)
  obtain ⟨E, hE⟩ : ∃ E, edg (ktOf xs) = E := ⟨_, rfl⟩
  have HE := Lib.hid hE
  rw [hE]
  clear hE
  go_enter Tryd.func25, Tryd.ntmps25
  go_wp2
  go_loopw [5, 6] (fun ov iv wr => ∃ (m : Nat) (A2 : Option Addr) (c2 z : Nat), f ≤ m ∧ m ≤ n ∧ iv = .int .i64 m ∧ (castL (rpL E n f m)).length = z ∧ ov = .slice A2 z c2 ∧ wr.ownsRow w.heap.size 3 1 (.slice A2 z c2) z ((castL (rpL E n f m)).map (Value.int .i64)) ∧ Below w.heap.size w wr) (fun _ i _ => n - (intOf i).toNat)
  case atStart =>
    refine ⟨f, some ⟨w.heap.size, 0, none⟩, 1, 1, Nat.le_refl _, by omega, rfl, by rw [rp_start hf]; rfl, rfl, ?_, below1 _ _⟩
    rw [rp_start hf]
    exact own_row w [(f : Int)] _ (Nat.le_refl _) (by simp [maxLen])
  case round =>
    obtain ⟨m, A2, c2, z, hfm, hmn, rfl, hz, rfl, hown, hb⟩ := hrel
    have O1 := Lib.hid hown
    have B1 := Lib.hid hb
    have HZ := Lib.hid hz
    have hz20 : z ≤ 20 := by have := rp_len E n f m; omega
    clear hown hb hz
    by_cases hlt : m < n
    · have hlt' : (m : Int) < (n : Int) := by omega
      obtain ⟨x, hxm⟩ : ∃ x, xs[m]? = some x := ⟨_, List.getElem?_eq_getElem (by have := hx.out; omega)⟩
      have HXM := Lib.hid hxm
      clear hxm
      have IL := Lib.hid (own_ilies O1.out)
      have hdec : decide ((m : Int) ∈ castL (rpL E n f m)) = rb E f m := by
        cases q : rb E f m
        · exact decide_eq_false (fun h => by have := (rp_at hlt).1 (castL_mem'.1 h); rw [q] at this; cases this)
        · exact decide_eq_true (castL_mem'.2 ((rp_at hlt).2 q))
      have HDC := Lib.hid hdec
      clear hdec
      cases q : rb E f m
      · have HQ := Lib.hid q
        clear q
        go_wp2_with (go_at_call 30; refine (l1Has_any _ _ _ _ _ _ IL HZ (by omega)).mono ?_; rintro e w' ⟨rfl, rfl⟩; rw [HDC.out, HQ.out])
        go_roundw
        case rel => exact ⟨m + 1, A2, c2, z, by omega, by omega, by go_num, by rw [rp_skip HQ.out]; exact HZ.out, rfl, by rw [rp_skip HQ.out]; exact O1.out, B1.out⟩
        case measure => simp [intOf]; omega
      · have HQ := Lib.hid q
        clear q
        have HOK := Lib.hid (okB_yes (hg.out.2 m x HXM.out).1)
        have L1 := Lib.hid (hl.out.below B1.out)
        go_wp2_with (go_at_call 30; refine (l1Has_any _ _ _ _ _ _ IL HZ (by omega)).mono ?_; rintro e w' ⟨rfl, rfl⟩; rw [HDC.out, HQ.out])
        refine (l2Nexts_any _ _ _ m x _ xs L1 HXM HOK.out hlt (by omega)).mono ?_
        rintro e w2 ⟨A3, c3, rfl, hown3, hb3⟩
        obtain ⟨nx, hnx⟩ : ∃ nx, nextsI x.k x.t m = nx := ⟨_, rfl⟩
        have HNX := Lib.hid hnx
        have hn2 : nx.length ≤ 2 := by rw [← hnx]; exact nexts_len _ _ _
        rw [hnx] at hown3 ⊢
        obtain ⟨y, hy⟩ : ∃ y, nx.length = y := ⟨_, rfl⟩
        have HY := Lib.hid hy
        rw [hy] at hown3 hn2 ⊢
        have O3 := Lib.hid hown3
        have O2 := Lib.hid (own_below O1.out hb3)
        have B2 := Lib.hid (Below.tr B1.out hb3)
        have IX := Lib.hid (own_ilies hown3)
        clear hnx hy hown3 hb3
        go_wp2_with fail
        go_loopw [5, 25] (fun ov iv wq => ∃ (k : Nat) (A4 : Option Addr) (c4 v : Nat), k ≤ y ∧ iv = .int .i64 k ∧ (putAll (castL (rpL E n f m)) (nx.take k)).length = v ∧ ov = .slice A4 v c4 ∧ wq.ownsRow w.heap.size 3 1 (.slice A4 v c4) v ((putAll (castL (rpL E n f m)) (nx.take k)).map (Value.int .i64)) ∧ Below w.heap.size w wq ∧ Below w2.heap.size w2 wq) (fun _ i _ => y - (intOf i).toNat)
        case atStart => exact ⟨0, A2, c2, z, Nat.zero_le _, rfl, HZ.out, rfl, O2.out, B2.out, Below.refl _ _⟩
        case round =>
          obtain ⟨k, A4, c4, v, hk, rfl, hv, rfl, hown4, hb4, hb5⟩ := hrel
          have O4 := Lib.hid hown4
          have B4 := Lib.hid hb4
          have B5 := Lib.hid hb5
          have HV := Lib.hid hv
          have hv22 : v ≤ 22 := by have := putAll_short E n f m nx k hn20 (by have := HY.out; omega); omega
          clear hown4 hb4 hb5 hv
          by_cases hlk : k < y
          · obtain ⟨u, hu⟩ : ∃ u, nx[k]? = some u := ⟨_, List.getElem?_eq_getElem (by have := HY.out; omega)⟩
            obtain ⟨b5, off5, rfl, hb5, hc5⟩ := (IX.out.below B5.out) k u hu
            have HU := Lib.hid (putAll_at hu (s := castL (rpL E n f m)))
            have hlk' : (k : Int) < (y : Int) := by omega
            clear hu
            go_wp2_with fail
            refine (l1Put_any w.heap.size _ _ _ _ u _ O4 HV (by omega) B4.out.size).mono ?_
            rintro e w6 ⟨A6, c6, rfl, hown6, hb6⟩
            rw [← HU.out] at hown6 ⊢
            have O6 := Lib.hid hown6
            have B6 := Lib.hid (Below.tr B4.out hb6)
            have B7 := Lib.hid (Below.tr B5.out hb6)
            clear hown6 hb6
            go_wp2
            go_roundw
            case rel => exact ⟨k + 1, A6, c6, _, by omega, by go_num, rfl, rfl, O6.out, B6.out, B7.out⟩
            case measure => simp [intOf]; omega
          · obtain rfl : k = y := by omega
            have e : putAll (castL (rpL E n f m)) (nx.take k) = castL (rpL E n f (m + 1)) := by
              have h := rp_put HGK.out (f := f) (ktOf_at HXM.out) (by rw [HE.out]; exact HQ.out)
              rw [HKL.out, HE.out] at h
              rw [List.take_of_length_le (by rw [HY.out]; exact Nat.le_refl _), ← HNX.out]
              exact h
            rw [e] at HV O4
            go_wp2
            go_roundw
            case rel => exact ⟨m + 1, A4, c4, v, by omega, by omega, by go_num, HV.out, rfl, O4.out, B4.out⟩
            case measure => simp [intOf]; omega
    · obtain rfl : m = n := by omega
      have hEf : ∀ a b, E a b = true → a < b := by rw [← HE.out]; exact edg_fwd HGK.out
      have e := rp_end hEf m f
      rw [e] at HZ O1
      go_wp2
      go_ret
      rw [← HZ.out] at O1 ⊢
      exact ⟨A2, c2, rfl, O1.out, B1.out⟩

/-- an append of one number to a row of one's own -/
theorem row_two {w w2 : World} {r : List Int} {l : List Int} {A : Option Addr} {c : Nat} (e : r = l) (ho : w2.ownsRow w.heap.size 3 1 (.slice A r.length c) r.length (r.map (Value.int .i64))) (hb : Below w.heap.size w w2) : GaveTwo w l true (.returned (.tuple #[.slice A r.length c, .bool true])) w2 := by
  subst e; exact ⟨A, c, rfl, ho, hb⟩
set_option maxRecDepth 100000 in
set_option maxHeartbeats 2000000 in
theorem specReached_any (A : Option Addr) (n cap : Nat) (xs : List Stp) (w : World) (b : Bool) (l : List Int) (hr : Hid (TwoRes (Good xs) (reachR xs) b l)) (hl : Hid (Lies w A xs)) (hx : Hid (xs.length = n)) (hn : n ≤ 1048576) :
    Calls Tryd.prog 9 #[.slice A n cap] w (GaveTwo w l b) := by
  go_enter Tryd.func9, Tryd.ntmps9
  go_wp2_with fail
  refine (specGood_any _ _ _ xs _ b (Lib.hid hr.out.1) hl hx hn).mono ?_
  rintro e w1 ⟨rfl, hb1⟩
  have B1 := Lib.hid hb1
  clear hb1
  cases b
  · obtain rfl := hr.out.2.1 rfl
    go_wp2
    go_ret2
    exact two_nil w _ B1.out
  · have GX := Lib.hid (hr.out.1.1 rfl)
    have hle := hr.out.2.2 rfl
    subst hle
    obtain ⟨hn0, hn20⟩ := good_20 GX.out hx.out
    go_wp2_with fail
    refine (l11Reached_any _ _ _ 0 xs _ GX (Lib.hid (hl.out.below B1.out)) hx hn0).mono ?_
    rintro e w2 ⟨A2, c2, rfl, hown, hb2⟩
    have er : castL (reachL (edg (ktOf xs)) n 0) = reachR xs := by unfold reachR; rw [hx.out]
    rw [er] at hown ⊢
    have O2 := Lib.hid (own_base hown B1.out.size)
    have B2 := Lib.hid (Below.tr B1.out hb2)
    clear hown hb2 er
    go_wp2
    go_ret2
    exact ⟨A2, c2, rfl, O2.out, B2.out⟩
theorem there_b (xs : List Stp) (n : Nat) (at_ : Int) : ∃ b : Bool, b = true ↔ There xs n at_ := by
  rcases Classical.em (There xs n at_) with h | h
  · exact ⟨true, fun _ => h, fun _ => rfl⟩
  · exact ⟨false, (fun e => by cases e), fun e => absurd e h⟩
set_option maxRecDepth 100000 in
set_option maxHeartbeats 2000000 in
theorem l11There_any (A : Option Addr) (n cap : Nat) (at_ : Int) (xs : List Stp) (w : World) (b : Bool) (hb : Hid (b = true ↔ There xs n at_)) (hl : Hid (Lies w A xs)) (hx : Hid (xs.length = n)) (hn : n ≤ 1048576) :
    Calls Tryd.prog 29 #[.slice A n cap, .int .i64 at_] w fun e w' => e = .returned (.bool b) ∧ Below w.heap.size w w' := by
  obtain ⟨g, hg⟩ := good_bool xs
  have HG := Lib.hid hg
  clear hg
  go_enter Tryd.func29, Tryd.ntmps29
  go_wp2_with fail
  refine (specGood_any _ _ _ xs _ g HG hl hx hn).mono ?_
  rintro e w1 ⟨rfl, hb1⟩
  have B1 := Lib.hid hb1
  clear hb1
  cases g
  · have hbf : b = false := by
      cases b
      · rfl
      · exact absurd (HG.out.2 (hb.out.1 rfl).1) (by simp)
    subst hbf
    go_wp2
    go_ret
    exact ⟨rfl, B1.out⟩
  · have GX := Lib.hid (HG.out.1 rfl)
    by_cases h0 : 0 ≤ at_
    · by_cases h1 : at_ < n
      · have hbt : b = true := hb.out.2 ⟨GX.out, h0, h1⟩
        subst hbt
        go_wp2
        go_ret
        exact ⟨rfl, B1.out⟩
      · have hbf : b = false := by
          cases b
          · rfl
          · exact absurd (hb.out.1 rfl).2.2 h1
        subst hbf
        have h1' : (n : Int) ≤ at_ := by omega
        go_wp2
        go_ret
        exact ⟨ret_bool (decide_eq_false (by omega)), B1.out⟩
    · have hbf : b = false := by
        cases b
        · rfl
        · exact absurd (hb.out.1 rfl).2.1 h0
      subst hbf
      have h0' : at_ < 0 := by omega
      go_wp2
      go_ret
      exact ⟨rfl, B1.out⟩
theorem mem_row {xs : List Stp} {i : Nat} {u : Int} {n f : Nat} (hx : xs.length = n) (h : (castL (reachL (edg (ktOf xs)) n f))[i]? = some u) : ∃ a : Nat, u = (a : Int) ∧ a < n ∧ ∃ x, xs[a]? = some x := by
  obtain ⟨a, ha, e⟩ := castL_mem.1 (List.mem_of_getElem? h)
  have := (mem_reach.1 ha).1
  exact ⟨a, e.symm, this, _, List.getElem?_eq_getElem (by omega)⟩
set_option maxRecDepth 100000 in
set_option maxHeartbeats 4000000 in
theorem l11Ahead_any (A : Option Addr) (n cap : Nat) (f : Nat) (xs : List Stp) (w : World) (hg : Hid (Good xs)) (hl : Hid (Lies w A xs)) (hx : Hid (xs.length = n)) :
    Calls Tryd.prog 45 #[.slice A n cap, .int .i64 f] w (GaveRow w.heap.size w (castL (aheadL (edg (ktOf xs)) n f))) := by
  obtain ⟨hn0, hn20⟩ := good_20 hg.out hx.out
  obtain ⟨i0, hi0, hz0, hz1, hz2⟩ := info_parts info_int
  obtain ⟨R, hR⟩ : ∃ R, castL (reachL (edg (ktOf xs)) n 0) = R := ⟨_, rfl⟩
  have HR := Lib.hid hR
  have hrl := reach_len (edg (ktOf xs)) n 0
  go_enter Tryd.func45, Tryd.ntmps45
  go_wp2_with fail
  refine (l11Reached_any _ _ _ 0 xs _ hg hl hx hn0).mono ?_
  rintro e w1 ⟨A1, c1, rfl, hown1, hb1⟩
  rw [hR] at hown1 hrl ⊢
  obtain ⟨z, hz⟩ : ∃ z, R.length = z := ⟨_, rfl⟩
  have HZ := Lib.hid hz
  rw [hz] at hown1 hrl ⊢
  have B1 := Lib.hid hb1
  have I1 := Lib.hid (own_ilies hown1)
  clear hown1 hb1 hR hz
  go_wp2_with fail
  go_loopw [5, 11] (fun ov iv wr => ∃ (k : Nat) (A2 : Option Addr) (c2 v : Nat), k ≤ z ∧ iv = .int .i64 k ∧ ((R.take k).filter (fun u => edg (ktOf xs) u.toNat f)).length = v ∧ ov = .slice A2 v c2 ∧ wr.ownsRow w1.heap.size 3 1 (.slice A2 v c2) v (((R.take k).filter (fun u => edg (ktOf xs) u.toNat f)).map (Value.int .i64)) ∧ Below w1.heap.size w1 wr) (fun _ i _ => z - (intOf i).toNat)
  case atStart => exact ⟨0, none, 0, 0, Nat.zero_le _, rfl, rfl, rfl, World.ownsRow_nil _ _ _ _, Below.refl _ _⟩
  case round =>
    obtain ⟨k, A2, c2, v, hk, rfl, hv, rfl, hown, hb⟩ := hrel
    have O1 := Lib.hid hown
    have C1 := Lib.hid hb
    have HV := Lib.hid hv
    have hv20 : v ≤ 20 := by
      have h1 := List.length_filter_le (fun u : Int => edg (ktOf xs) u.toNat f) (R.take k)
      have h2 : (R.take k).length ≤ R.length := by rw [List.length_take]; exact Nat.min_le_right _ _
      have := HZ.out
      omega
    clear hown hb hv
    by_cases hlt : k < z
    · obtain ⟨u, hu⟩ : ∃ u, R[k]? = some u := ⟨_, List.getElem?_eq_getElem (by have := HZ.out; omega)⟩
      obtain ⟨a, rfl, han, x, hxa⟩ := mem_row hx.out (by rw [HR.out]; exact hu)
      obtain ⟨b5, off5, rfl, hb5, hc5⟩ := (I1.out.below C1.out) k _ hu
      have HU := Lib.hid (take_snoc hu)
      have HXA := Lib.hid hxa
      have HOK := Lib.hid (okB_yes (hg.out.2 a x hxa).1)
      have L1 := Lib.hid (hl.out.below (Below.tr B1.out C1.out))
      have HED := Lib.hid (show decide ((f : Int) ∈ nextsI x.k x.t a) = edg (ktOf xs) a f from by
        have h := edg_iff (ktOf_at hxa) (b := f)
        cases q : edg (ktOf xs) a f
        · exact decide_eq_false (fun r => by have := h.2 r; rw [q] at this; cases this)
        · exact decide_eq_true (h.1 q))
      clear hu hxa
      go_wp2_with fail
      refine (l2Nexts_any _ _ _ a x _ xs L1 HXA HOK.out han (by omega)).mono ?_
      rintro e w3 ⟨A3, c3, rfl, hown3, hb3⟩
      have I3 := Lib.hid (own_ilies hown3)
      have O3 := Lib.hid (own_below O1.out hb3)
      have C3 := Lib.hid (Below.tr C1.out hb3)
      have hl3 := nexts_len x.k x.t a
      clear hown3 hb3
      cases q : edg (ktOf xs) a f
      · have HQ := Lib.hid q
        clear q
        go_wp2_with (go_at_call 30; refine (l1Has_any _ _ _ _ _ _ I3 (Lib.hid rfl) (by omega)).mono ?_; rintro e w' ⟨rfl, rfl⟩; rw [HED.out, HQ.out])
        have e : (R.take (k + 1)).filter (fun u => edg (ktOf xs) u.toNat f) = (R.take k).filter (fun u => edg (ktOf xs) u.toNat f) := by rw [HU.out, List.filter_append]; simp [List.filter, HQ.out]
        go_roundw
        case rel => exact ⟨k + 1, A2, c2, v, by omega, by go_num, by rw [e]; exact HV.out, rfl, by rw [e]; exact O3.out, C3.out⟩
        case measure => simp [intOf]; omega
      · have HQ := Lib.hid q
        clear q
        go_wp2_with (first
          | (go_at_call 30; refine (l1Has_any _ _ _ _ _ _ I3 (Lib.hid rfl) (by omega)).mono ?_; rintro e w' ⟨rfl, rfl⟩; rw [HED.out, HQ.out])
          | (at_builtin; (refine wpList_append_lies _ rfl _ _ 24 rfl w1.heap.size 3 i0 (.int .i64 0) 1 8 Tryd.underlying24 hi0 hz0 hz1 hz2 rfl (by omega) _ v _ rfl (O3.out.alloc _) ⟨w3.heap.size, 0, none⟩ 1 1 [.int .i64 a] rfl rfl (one_newT w3 _ _) (by intro u hu; rw [List.mem_singleton.1 hu]; rfl) (by omega) (by unfold maxLen; omega) (by omega) (by have := C3.out.size; first | omega | (simp; omega)) (w3.heap.size + 1) (by first | rfl | simp) ?_; intro g4 cap4 w4 hown4 hg4 hat4 hlt4; have H4 := Lib.hid (app1 O3.out hown4 hg4 C3.out (Nat.le_refl _)); clear hown4 hg4)))
        have e : (R.take (k + 1)).filter (fun u => edg (ktOf xs) u.toNat f) = (R.take k).filter (fun u => edg (ktOf xs) u.toNat f) ++ [(a : Int)] := by rw [HU.out, List.filter_append]; simp [List.filter, HQ.out]
        go_roundw
        case rel => exact ⟨k + 1, some ⟨g4, 0, none⟩, cap4, v + 1, by omega, by go_num, by rw [e, List.length_append, HV.out]; rfl, rfl, by rw [e]; exact H4.out.1, H4.out.2⟩
        case measure => simp [intOf]; omega
    · obtain rfl : k = z := by omega
      have e : (R.take k).filter (fun u => edg (ktOf xs) u.toNat f) = castL (aheadL (edg (ktOf xs)) n f) := by
        rw [List.take_of_length_le (by rw [HZ.out]; exact Nat.le_refl _), ← HR.out, castL_filter]
        unfold aheadL
        simp only [Int.toNat_natCast]
      rw [e] at HV O1
      go_wp2
      go_ret
      rw [← HV.out] at O1 ⊢
      exact ⟨A2, c2, rfl, own_base O1.out B1.out.size, Below.tr B1.out C1.out⟩

theorem leadQ_len (l : KT) (Q : List Nat) : (castL (leadQ l Q)).length ≤ l.length := by
  rw [castL_len]
  unfold leadQ
  have := List.length_filter_le (fun i : Nat => decide (i = 0) || Q.any (fun k => decide (ttA l k ≠ 0) && (decide ((i : Int) = (k : Int) + ttA l k + 1) || (decide (i = k + 1) && rb (edg l) 0 i)))) (List.range l.length)
  rw [List.length_range] at this
  exact this
theorem castL_get {a : List Nat} {k : Nat} {u : Int} (h : (castL a)[k]? = some u) : ∃ m, a[k]? = some m ∧ u = (m : Int) := by
  unfold castL at h
  rw [List.getElem?_map] at h
  cases q : a[k]? with
  | none => rw [q] at h; cases h
  | some m => rw [q] at h; exact ⟨m, rfl, (Option.some.inj h).symm⟩
theorem wpV_zero (E : Nat → Nat → Bool) (n : Nat) : ((madeCells #[Value.int .i64 0] n).setIfInBounds 0 (Value.int .i64 1)) = (numsV n (fun j => ((wp E 0 j : Nat) : Int))).toArray := by
  rw [made_rep, numsV_const, List.setIfInBounds_toArray, numsV_set]
  refine congrArg List.toArray (numsV_ext (fun j _ => ?_))
  rw [wp_start]
  by_cases e : j = 0 <;> simp [e]
/-- the numbers while step m hands its own on -/
def wpI (E : Nat → Nat → Bool) (m : Nat) (t : List Int) (j : Nat) : Nat := wp E m j + if (j : Int) ∈ t then wc E m else 0
theorem wpI_snoc {E : Nat → Nat → Bool} {m b : Nat} {nx : List Int} {k n : Nat} (hk : nx[k]? = some (b : Int)) (hd : nx.Nodup) :
    (numsV n (fun j => ((wpI E m (nx.take k) j : Nat) : Int))).set b (.int .i64 ((wpI E m (nx.take k) b : Int) + (wc E m : Int))) = numsV n (fun j => ((wpI E m (nx.take (k + 1)) j : Nat) : Int)) := by
  rw [numsV_set]
  refine numsV_ext (fun j _ => ?_)
  have ht := take_snoc hk
  have hnot : ¬ (b : Int) ∈ nx.take k := by
    intro h
    have h2 : (nx.take (k + 1)).Nodup := hd.sublist (List.take_sublist _ _)
    rw [ht, List.nodup_append] at h2
    exact h2.2.2 _ h _ (by simp) rfl
  unfold wpI
  rw [ht]
  by_cases e : j = b
  · subst e
    rw [if_pos rfl, if_neg hnot, if_pos (by simp)]
    push_cast; omega
  · rw [if_neg e]
    have : ((j : Int) ∈ nx.take k ++ [(b : Int)]) ↔ ((j : Int) ∈ nx.take k) := by
      rw [List.mem_append, List.mem_singleton]
      constructor
      · rintro (h | h)
        · exact h
        · omega
      · exact .inl
    by_cases q : (j : Int) ∈ nx.take k
    · rw [if_pos q, if_pos (this.2 q)]
    · rw [if_neg q, if_neg (fun h => q (this.1 h))]
theorem pow20 {j : Nat} (h : j ≤ 20) : 2 ^ j ≤ 1048576 := by
  have h3 : 2 ^ j ≤ 2 ^ 20 := Nat.pow_le_pow_right (by omega) h
  have : (2 : Nat) ^ 20 = 1048576 := by decide
  omega

/-- what all of these steps have in common among their dominators -/
def intL (E : Nat → Nat → Bool) : List Nat → List Nat
  | [] => []
  | b :: Q => Q.foldl (fun l b => l.filter (fun x => decide (x ∈ domL E b))) (domL E b)
theorem intL_snoc (E : Nat → Nat → Bool) (Q : List Nat) (b : Nat) (h : Q ≠ []) : intL E (Q ++ [b]) = (intL E Q).filter (fun x => decide (x ∈ domL E b)) := by
  cases Q with
  | nil => exact absurd rfl h
  | cons c Q => unfold intL; simp [List.foldl_append]
theorem intL_ahead {l : KT} (g : GoodKT l) {i : Nat} (hr : rb (edg l) 0 i = true) (hin : i < l.length) : intL (edg l) (aheadL (edg l) l.length i) = (List.range i).filter (fun k => dm (edg l) k i) := by
  by_cases h0 : i = 0
  · subst h0
    have : aheadL (edg l) l.length 0 = [] := by
      rw [List.eq_nil_iff_forall_not_mem]
      intro a ha
      have := edg_fwd g _ _ (mem_ahead.1 ha).2.2
      omega
    rw [this]; rfl
  · have hp := ahead_some g hr (by omega)
    cases hP : aheadL (edg l) l.length i with
    | nil => rw [hP] at hp; simp at hp
    | cons a P => rw [dom_inter l.length (edg_fwd g) hP (by omega) (by omega)]; rfl
/-- the rows of dominators of the steps of Q; the others are nil -/
def MustUp (w : World) (g n : Nat) (E : Nat → Nat → Bool) (Q : List Nat) : Prop := ∃ vs : List Value, Blk w g 24 vs ∧ vs.length = n ∧
  ∀ j, j < n → (j ∈ Q → ∃ a c, vs[j]? = some (.slice a (domL E j).length c) ∧ w.ownsRow (g + 1) 3 1 (.slice a (domL E j).length c) (domL E j).length ((castL (domL E j)).map (Value.int .i64))) ∧ (j ∉ Q → vs[j]? = some (.slice none 0 0))
theorem MustUp.below {w w' : World} {g n : Nat} {E : Nat → Nat → Bool} {Q : List Nat} (h : MustUp w g n E Q) (hb : Below w.heap.size w w') : MustUp w' g n E Q := by
  obtain ⟨vs, h1, h2, h3⟩ := h
  exact ⟨vs, h1.below hb, h2, fun j hj => ⟨fun q => by obtain ⟨a, c, h4, h5⟩ := (h3 j hj).1 q; exact ⟨a, c, h4, own_below h5 hb⟩, (h3 j hj).2⟩⟩
theorem MustUp.lt {w : World} {g n : Nat} {E : Nat → Nat → Bool} {Q : List Nat} (h : MustUp w g n E Q) : g < w.heap.size := by obtain ⟨vs, h1, _⟩ := h; exact h1.lt
theorem MustUp.at {w : World} {g n j : Nat} {E : Nat → Nat → Bool} {Q : List Nat} (h : MustUp w g n E Q) (hj : j < n) (hq : j ∈ Q) : ∃ a c, w.cell? ⟨g, j, none⟩ = some (.slice a (domL E j).length c) ∧ ILies w a (castL (domL E j)) ∧ (a = none → (domL E j).length = 0 ∧ c = 0) := by
  obtain ⟨vs, h1, h2, h3⟩ := h
  obtain ⟨a, c, h4, h5⟩ := (h3 j hj).1 hq
  exact ⟨a, c, (h1.cell j).trans h4, own_ilies h5, own_nilA' h5⟩
theorem MustUp.no {w : World} {g n j : Nat} {E : Nat → Nat → Bool} {Q : List Nat} (h : MustUp w g n E Q) (hj : j < n) (hq : j ∉ Q) : w.cell? ⟨g, j, none⟩ = some (.slice none 0 0) := by
  obtain ⟨vs, h1, h2, h3⟩ := h
  exact (h1.cell j).trans ((h3 j hj).2 hq)
theorem MustUp.any {w : World} {g n j : Nat} {E : Nat → Nat → Bool} {Q : List Nat} (h : MustUp w g n E Q) (hj : j < n) : (∃ v, w.cell? ⟨g, j, none⟩ = some v) ∧ w.frozen? ⟨g, j, none⟩ = false := by
  obtain ⟨vs, h1, h2, h3⟩ := h
  exact ⟨⟨_, (h1.cell j).trans (List.getElem?_eq_getElem (by omega))⟩, h1.frozen j⟩
theorem MustUp.step {w : World} {g n j c : Nat} {a : Option Addr} {E : Nat → Nat → Bool} {Q : List Nat} (h : MustUp w g n E Q) (hj : j < n)
    (ho : w.ownsRow (g + 1) 3 1 (.slice a (domL E j).length c) (domL E j).length ((castL (domL E j)).map (Value.int .i64))) : MustUp (w.setCell ⟨g, j, none⟩ (.slice a (domL E j).length c)) g n E (Q ++ [j]) := by
  obtain ⟨vs, h1, h2, h3⟩ := h
  have keep : ∀ {v : Value} {m : Nat} {l : List Value}, w.ownsRow (g + 1) 3 1 v m l → (w.setCell ⟨g, j, none⟩ (.slice a (domL E j).length c)).ownsRow (g + 1) 3 1 v m l := fun ho => (Kept.set (w := w) (g := g) (j := j)).own ho (fun b hb e => by have := (ho.lt b hb).1; omega)
  refine ⟨_, h1.set j _, by rw [List.length_set]; exact h2, fun i hi => ?_⟩
  by_cases e : j = i
  · subst e
    refine ⟨fun _ => ⟨a, c, by rw [List.getElem?_set, if_pos rfl, if_pos (by omega)], keep ho⟩, fun q => absurd (by simp) q⟩
  · have hm : i ∈ Q ++ [j] ↔ i ∈ Q := by rw [List.mem_append, List.mem_singleton]; constructor
                                         · rintro (q | q)
                                           · exact q
                                           · exact absurd q.symm e
                                         · exact .inl
    rw [List.getElem?_set, if_neg e, hm]
    exact ⟨fun q => by obtain ⟨a', c', h4, h5⟩ := (h3 i hi).1 q; exact ⟨a', c', h4, keep h5⟩, (h3 i hi).2⟩
theorem must_start {w : World} (n : Nat) (E : Nat → Nat → Bool) : MustUp (w.alloc (.cells (madeCells #[.slice none 0 0] n) 24)) w.heap.size n E [] := by
  rw [made_rep]
  refine ⟨List.replicate n (.slice none 0 0), heap_alloc_new w _, by simp, fun j hj => ⟨fun q => by simp at q, fun _ => by rw [List.getElem?_replicate, if_pos hj]⟩⟩
theorem dom_len (E : Nat → Nat → Bool) (i : Nat) : (domL E i).length ≤ i + 1 := by
  unfold domL
  have := List.length_filter_le (fun k => dm E k i) (List.range (i + 1))
  rw [List.length_range] at this
  exact this
theorem int_len (E : Nat → Nat → Bool) (Q : List Nat) (n : Nat) (h : ∀ b ∈ Q, b < n) : (intL E Q).length ≤ n := by
  cases Q with
  | nil => simp [intL]
  | cons b Q =>
    have h1 := dom_len E b
    have h2 := h b (by simp)
    have : ∀ (Q : List Nat) (l : List Nat), (Q.foldl (fun l b => l.filter (fun x => decide (x ∈ domL E b))) l).length ≤ l.length := by
      intro Q
      induction Q with
      | nil => intro l; exact Nat.le_refl _
      | cons c Q ih => intro l; exact Nat.le_trans (ih _) (List.length_filter_le _ _)
    exact Nat.le_trans (this Q (domL E b)) (by omega)
theorem before_in {R : List Nat} (hs : R.Pairwise (· < ·)) {i a b : Nat} (ha : R[i]? = some a) (hb : b ∈ R) (hlt : b < a) : b ∈ R.take i := by
  have h1 := (List.getElem?_eq_some_iff.1 ha).1
  have h2 := (List.getElem?_eq_some_iff.1 ha).2
  rw [← List.take_append_drop i R, List.drop_eq_getElem_cons h1, h2] at hb hs
  rcases List.mem_append.1 hb with q | q
  · exact q
  · rw [List.pairwise_append, List.pairwise_cons] at hs
    rcases List.mem_cons.1 q with q | q
    · omega
    · have := hs.2.1.1 b q; omega
/-- what l11Must answers -/
def GaveMust (w : World) (n : Nat) (E : Nat → Nat → Bool) (e : Ending) (w' : World) : Prop :=
  ∃ g, e = .returned (.slice (some ⟨g, 0, none⟩) n n) ∧ w.heap.size ≤ g ∧ MustUp w' g n E (reachL E n 0) ∧ Below w.heap.size w w'
set_option maxRecDepth 100000 in
set_option maxHeartbeats 8000000 in
theorem l11Must_any (A : Option Addr) (n cap : Nat) (xs : List Stp) (w : World) (hg : Hid (Good xs)) (hl : Hid (Lies w A xs)) (hx : Hid (xs.length = n)) :
    Calls Tryd.prog 22 #[.slice A n cap] w (GaveMust w n (edg (ktOf xs))) := by
  obtain ⟨hn0, hn20⟩ := good_20 hg.out hx.out
  obtain ⟨i0, hi0, hz0, hz1, hz2⟩ := info_parts info_int
  have HGK := Lib.hid (good_kt hg.out)
  have HKL : Hid ((ktOf xs).length = n) := Lib.hid (by rw [ktOf_len]; exact hx.out)
  obtain ⟨E, hE⟩ : ∃ E, edg (ktOf xs) = E := ⟨_, rfl⟩
  have HE := Lib.hid hE
  obtain ⟨R, hR⟩ : ∃ R, reachL E n 0 = R := ⟨_, rfl⟩
  have HR := Lib.hid hR
  have RS : Hid (R.Pairwise (· < ·)) := Lib.hid (by rw [← hR]; exact filter_sorted _ _)
  have hrl := reach_len E n 0
  rw [hE]
  unfold GaveMust
  rw [hR]
  have hmk := fun w : World => run_make_row' (P := Tryd.prog) 47 24 (.slice none 0 0) 24 Tryd.underlying47 info_ints rfl .i64 .i64 n (by omega) (by omega) w
  have M0 := Lib.hid (must_start (w := w) n E)
  go_enter Tryd.func22, Tryd.ntmps22
  go_wp2_with fail
  obtain ⟨w1, hw1⟩ : ∃ W, w.alloc (.cells (madeCells #[.slice none 0 0] n) 24) = W := ⟨_, rfl⟩
  have B1 : Hid (Below w.heap.size w w1) := Lib.hid (by rw [← hw1]; exact below1 _ _)
  rw [hw1] at M0 ⊢
  clear hw1
  refine (l11Reached_any _ _ _ 0 xs _ hg (Lib.hid (hl.out.below B1.out)) hx hn0).mono ?_
  rintro e w2 ⟨A2, c2, rfl, hown2, hb2⟩
  rw [hE, hR] at hown2 ⊢
  rw [hR] at hrl
  obtain ⟨z, hz⟩ : ∃ z, (castL R).length = z := ⟨_, rfl⟩
  have HZ := Lib.hid hz
  rw [hz] at hown2 hrl ⊢
  have O2 := Lib.hid hown2
  have M2 := Lib.hid (M0.out.below hb2)
  have B2 := Lib.hid (Below.tr B1.out hb2)
  have hg1 : w.heap.size < w1.heap.size := M0.out.lt
  clear hown2 hb2 hR hz hE M0
  go_wp2_with fail
  go_loopw [18] (fun iv wr => ∃ i : Nat, i ≤ z ∧ iv = .int .i64 i ∧ MustUp wr w.heap.size n E (R.take i) ∧ Below w.heap.size w wr ∧ Kept w2 wr (fun b => b = w.heap.size)) (fun i _ => z - (intOf i).toNat)
  case atStart => exact ⟨0, Nat.zero_le _, rfl, by simpa using M2.out, B2.out, Kept.refl _ _⟩
  case round =>
    obtain ⟨i, hi, rfl, hmu, hb, hkp⟩ := hrel
    have M3 := Lib.hid hmu
    have B3 := Lib.hid hb
    have K3 := Lib.hid hkp
    clear hmu hb hkp
    by_cases hlt : i < z
    · obtain ⟨u, hu⟩ : ∃ u, (castL R)[i]? = some u := ⟨_, List.getElem?_eq_getElem (by have := HZ.out; omega)⟩
      obtain ⟨a, ha, rfl⟩ := castL_get hu
      have haR : a ∈ R := List.mem_of_getElem? ha
      have har : a < n ∧ rb E 0 a = true := by have h := haR; rw [← HR.out] at h; exact mem_reach.1 h
      obtain ⟨han, hra⟩ := har
      have IR := Lib.hid (own_ilies (K3.out.own O2.out (fun b hb q => by have := (O2.out.lt b hb).1; omega)))
      obtain ⟨b5, off5, rfl, hb5, hc5⟩ := IR.out i _ hu
      have HU : Hid (R.take (i + 1) = R.take i ++ [a]) := Lib.hid (take_snocP ha)
      have HA := Lib.hid ha
      have HRA := Lib.hid hra
      have hi' : (i : Int) < (z : Int) := by omega
      clear hu ha haR hra
      go_wp2_with fail
      refine (l11Ahead_any _ _ _ a xs _ hg (Lib.hid (hl.out.below B3.out)) hx).mono ?_
      rintro e w3 ⟨A3, c3, rfl, hown3, hb3⟩
      rw [HE.out] at hown3 ⊢
      obtain ⟨P, hP⟩ : ∃ P, aheadL E n a = P := ⟨_, rfl⟩
      have HP := Lib.hid hP
      have hpn : P.length ≤ 20 := by have := ahead_len E n a; rw [castL_len, hP] at this; omega
      rw [hP] at hown3 ⊢
      obtain ⟨y, hy⟩ : ∃ y, (castL P).length = y := ⟨_, rfl⟩
      have HY := Lib.hid hy
      have hy20 : y ≤ 20 := by rw [← hy, castL_len]; exact hpn
      rw [hy] at hown3 ⊢
      have O3 := Lib.hid hown3
      have M4 := Lib.hid (M3.out.below hb3)
      have B4 := Lib.hid (Below.tr B3.out hb3)
      have K4 := Lib.hid (K3.out.trans (Kept.of_below hb3))
      have I3 := Lib.hid (own_ilies hown3)
      have hgw : w.heap.size < wr.heap.size := M3.out.lt
      have hww : wr.heap.size ≤ w3.heap.size := hb3.size
      have hPin : Hid (∀ b ∈ P, b < n ∧ b < a ∧ b ∈ R.take i) := Lib.hid (fun b hb => by
        rw [← hP] at hb
        obtain ⟨h1, h2, h3⟩ := mem_ahead.1 hb
        have h4 : b < a := by rw [← HE.out] at h3; exact edg_fwd HGK.out _ _ h3
        exact ⟨h1, h4, before_in RS.out HA.out (by rw [← HR.out]; exact mem_reach.2 ⟨h1, h2⟩) h4⟩)
      clear hown3 hb3 hP hy hpn
      go_wp2_with fail
      go_loopw [6, 26] (fun av iv wq => ∃ (k : Nat) (A4 : Option Addr) (c4 v : Nat), k ≤ y ∧ iv = .int .i64 k ∧ (castL (intL E (P.take k))).length = v ∧ av = .slice A4 v c4 ∧ ILies wq A4 (castL (intL E (P.take k))) ∧ (A4 = none → v = 0 ∧ c4 = 0) ∧ Below w3.heap.size w3 wq) (fun _ i _ => y - (intOf i).toNat)
      case atStart => exact ⟨0, none, 0, 0, Nat.zero_le _, rfl, rfl, rfl, (fun i y h => by simp [intL, castL] at h), (fun _ => ⟨rfl, rfl⟩), Below.refl _ _⟩
      case round =>
        obtain ⟨k, A4, c4, v, hk, rfl, hv, rfl, hil, hnil, hb⟩ := hrel
        have I4 := Lib.hid hil
        have N4 := Lib.hid hnil
        have D4 := Lib.hid hb
        have HV := Lib.hid hv
        have hv20 : v ≤ 20 := by
          have h1 := int_len E (P.take k) n (fun b hb => (hPin.out b (List.mem_of_mem_take hb)).1)
          rw [castL_len] at hv
          omega
        have M5 := Lib.hid (M4.out.below D4.out)
        clear hil hnil hb hv
        by_cases hlk : k < y
        · obtain ⟨u, hu⟩ : ∃ u, (castL P)[k]? = some u := ⟨_, List.getElem?_eq_getElem (by have := HY.out; omega)⟩
          obtain ⟨d, hd, rfl⟩ := castL_get hu
          obtain ⟨hdn, hda, hdi⟩ := hPin.out d (List.mem_of_getElem? hd)
          obtain ⟨b6, off6, rfl, hb6, hc6⟩ := (I3.out.below D4.out) k _ hu
          obtain ⟨A7, c7, hc7, hi7, hn7⟩ := M5.out.at hdn hdi
          have HUP : Hid (P.take (k + 1) = P.take k ++ [d]) := Lib.hid (take_snocP hd)
          have hk' : (k : Int) < (y : Int) := by omega
          have hdn' : (d : Int) < (n : Int) := by omega
          obtain ⟨q7, hq7⟩ : ∃ q, (domL E d).length = q := ⟨_, rfl⟩
          rw [hq7] at hc7
          have HQ7 := Lib.hid hq7
          have I7 := Lib.hid hi7
          have N7 := Lib.hid hn7
          have hq20 : q7 ≤ 20 := by have := dom_len E d; omega
          clear hu hd hi7 hn7 hq7
          rcases Nat.eq_zero_or_pos k with hk0 | hk0
          · have e1 : Hid (intL E (P.take (k + 1)) = domL E d) := Lib.hid (by rw [HUP.out, hk0]; simp [intL])
            have hke : ((k : Int) == (0 : Int)) = true := by simp [hk0]
            clear hk0
            go_wp2_with fail
            go_roundw
            case rel => exact ⟨k + 1, A7, c7, q7, by omega, by go_num, by rw [e1.out, castL_len]; exact HQ7.out, rfl, by rw [e1.out]; exact I7.out, (fun h => by have := N7.out h; rw [HQ7.out] at this; exact this), D4.out⟩
            case measure => simp [intOf]; omega
          · have hke : ((k : Int) == (0 : Int)) = false := by simp; omega
            have e1 : Hid (castL (intL E (P.take (k + 1))) = (castL (intL E (P.take k))).filter (fun x => decide (x ∈ castL (domL E d)))) := Lib.hid (by
              rw [HUP.out, intL_snoc E _ _ (fun h => by
                have h2 : (P.take k).length = k := by rw [List.length_take]; have := HY.out; rw [castL_len] at this; omega
                rw [h, List.length_nil] at h2
                omega), castL_both])
            clear hk0
            go_wp2_with fail
            obtain ⟨L, hL⟩ : ∃ L, castL (intL E (P.take k)) = L := ⟨_, rfl⟩
            rw [hL] at e1 HV I4
            clear hL
            obtain ⟨DL, hDL⟩ : ∃ DL, castL (domL E d) = DL := ⟨_, rfl⟩
            have HDL : Hid (DL.length = q7) := Lib.hid (by rw [← hDL, castL_len]; exact HQ7.out)
            rw [hDL] at e1 I7
            clear hDL
            obtain ⟨wo, hwo⟩ : ∃ x, x = wr := ⟨_, rfl⟩
            subst hwo
            have hgq : w.heap.size < wo.heap.size := M5.out.lt
            go_loopw [9, 39] (fun ov iv wt => ∃ (p : Nat) (A8 : Option Addr) (c8 s : Nat), p ≤ v ∧ iv = .int .i64 p ∧ ((L.take p).filter (fun x => decide (x ∈ DL))).length = s ∧ ov = .slice A8 s c8 ∧ wt.ownsRow wo.heap.size 3 1 (.slice A8 s c8) s (((L.take p).filter (fun x => decide (x ∈ DL))).map (Value.int .i64)) ∧ Below wo.heap.size wo wt) (fun _ i _ => v - (intOf i).toNat)
            case atStart => exact ⟨0, none, 0, 0, Nat.zero_le _, rfl, rfl, rfl, World.ownsRow_nil _ _ _ _, Below.refl _ _⟩
            case round =>
              obtain ⟨p, A8, c8, s, hp, rfl, hs, rfl, hown8, hb8⟩ := hrel
              have O8 := Lib.hid hown8
              have D8 := Lib.hid hb8
              have HS := Lib.hid hs
              have hs20 : s ≤ 20 := by
                have h1 := List.length_filter_le (fun x => decide (x ∈ DL)) (L.take p)
                have h2 : (L.take p).length ≤ L.length := by rw [List.length_take]; exact Nat.min_le_right _ _
                have := HV.out
                omega
              have I8 := Lib.hid (I7.out.below D8.out)
              have hc8 := ((bcell D8.out).1 w.heap.size d hgq).trans hc7
              clear hown8 hb8 hs
              by_cases hlp : p < v
              · obtain ⟨u, hu⟩ : ∃ u, L[p]? = some u := ⟨_, List.getElem?_eq_getElem (by have := HV.out; omega)⟩
                obtain ⟨b9, off9, rfl, hb9, hc9⟩ := (I4.out.below D8.out) p _ hu
                have HUL := Lib.hid (take_snoc hu)
                have hp' : (p : Int) < (v : Int) := by omega
                clear hu
                cases hq : decide (u ∈ DL)
                · have HQ := Lib.hid hq
                  have HEE : Hid ((L.take (p + 1)).filter (fun x => decide (x ∈ DL)) = (L.take p).filter (fun x => decide (x ∈ DL))) := Lib.hid (by rw [HUL.out, List.filter_append]; simp only [List.filter, hq, List.append_nil])
                  clear hq
                  go_wp2_with (go_at_call 30; refine (l1Has_any _ _ _ DL u _ I8 HDL (by omega)).mono ?_; rintro e w' ⟨rfl, rfl⟩; rw [HQ.out])
                  go_roundw
                  case rel => exact ⟨p + 1, A8, c8, s, by omega, by go_num, by rw [HEE.out]; exact HS.out, rfl, by rw [HEE.out]; exact O8.out, D8.out⟩
                  case measure => simp [intOf]; omega
                · have HQ := Lib.hid hq
                  have HEE : Hid ((L.take (p + 1)).filter (fun x => decide (x ∈ DL)) = (L.take p).filter (fun x => decide (x ∈ DL)) ++ [u]) := Lib.hid (by rw [HUL.out, List.filter_append]; simp only [List.filter, hq])
                  clear hq
                  go_wp2_with (first
                    | (go_at_call 30; refine (l1Has_any _ _ _ DL u _ I8 HDL (by omega)).mono ?_; rintro e w' ⟨rfl, rfl⟩; rw [HQ.out])
                    | (at_builtin; (refine wpList_append_lies _ rfl _ _ 24 rfl wo.heap.size 3 i0 (.int .i64 0) 1 8 Tryd.underlying24 hi0 hz0 hz1 hz2 rfl (by omega) _ s _ rfl (O8.out.alloc _) ⟨wr.heap.size, 0, none⟩ 1 1 [.int .i64 u] rfl rfl (one_newT wr _ _) (by intro u hu; rw [List.mem_singleton.1 hu]; rfl) (by omega) (by unfold maxLen; omega) (by omega) (by have := D8.out.size; first | omega | (simp; omega)) (wr.heap.size + 1) (by first | rfl | simp) ?_; intro g4 cap4 w4 hown4 hg4 hat4 hlt4; have H4 := Lib.hid (app1 O8.out hown4 hg4 D8.out (Nat.le_refl _)); clear hown4 hg4)))
                  go_roundw
                  case rel => exact ⟨p + 1, some ⟨g4, 0, none⟩, cap4, s + 1, by omega, by go_num, by rw [HEE.out, List.length_append, HS.out]; rfl, rfl, by rw [HEE.out]; exact H4.out.1, H4.out.2⟩
                  case measure => simp [intOf]; omega
              · obtain rfl : p = v := by omega
                have hfull : (L.take p).filter (fun x => decide (x ∈ DL)) = L.filter (fun x => decide (x ∈ DL)) := by rw [List.take_of_length_le (by rw [HV.out]; exact Nat.le_refl _)]
                rw [hfull, ← e1.out] at HS O8
                go_wp2
                go_roundw
                case rel => exact ⟨k + 1, A8, c8, s, by omega, by go_num, HS.out, rfl, own_ilies O8.out, own_nilA' O8.out, Below.tr D4.out D8.out⟩
                case measure => simp [intOf]; omega
        · obtain rfl : k = y := by omega
          obtain ⟨wo, hwo⟩ : ∃ x, x = wr := ⟨_, rfl⟩
          subst hwo
          have eI : castL (intL E (P.take k)) ++ [(a : Int)] = castL (domL E a) := by
            rw [List.take_of_length_le (by have := HY.out; rw [castL_len] at this; omega), ← HP.out]
            have h := intL_ahead HGK.out (i := a) (by rw [HE.out]; exact HRA.out) (by rw [HKL.out]; exact han)
            rw [HKL.out, HE.out] at h
            rw [h, dom_snoc, castL_app]
            rfl
          have EI := Lib.hid eI
          obtain ⟨L, hL⟩ : ∃ L, castL (intL E (P.take k)) = L := ⟨_, rfl⟩
          rw [hL] at EI HV I4
          have hgq : w.heap.size < wo.heap.size := M5.out.lt
          have han' : (a : Int) < (n : Int) := by omega
          clear eI hL
          go_wp2_with (first
            | (at_builtin; (refine append_ints (w1 := wo.alloc (.cells #[] 3)) (base := wo.heap.size) (xs := []) (l := L) _ _ rfl rfl rfl rfl (World.ownsRow_lit wo #[] 0 (Nat.le_refl _) (by unfold maxLen; omega) rfl) (I4.out.below (below1 wo _)) HV.out N4.out (by simp) (by omega) (by omega) ?_; intro g5 c5 w5 ho5 hg5 hat5; have O5 : Hid (w5.ownsRow wo.heap.size 3 1 (.slice (some ⟨g5, 0, none⟩) v c5) v (L.map (Value.int .i64))) := Lib.hid (by simpa using ho5); have B5 := Lib.hid ((below1 wo _).grown hg5 (by simp) (fun g e => by cases e; exact Nat.le_refl _)); have hs5 := B5.out.size; try rw [Nat.zero_add]; clear ho5 hg5 hat5))
            | (at_builtin; (refine wpList_append_lies _ rfl _ _ 24 rfl wo.heap.size 3 i0 (.int .i64 0) 1 8 Tryd.underlying24 hi0 hz0 hz1 hz2 rfl (by omega) _ v _ rfl (O5.out.alloc _) ⟨w5.heap.size, 0, none⟩ 1 1 [.int .i64 a] rfl rfl (one_newT w5 _ _) (by intro u hu; rw [List.mem_singleton.1 hu]; rfl) (by omega) (by unfold maxLen; omega) (by omega) (by first | omega | (simp; omega)) (w5.heap.size + 1) (by first | rfl | simp) ?_; intro g6 cap6 w6 hown6 hg6 hat6 hlt6; have H6 := Lib.hid (app1 O5.out hown6 hg6 B5.out (Nat.le_refl _)); obtain ⟨⟨vv, hvv⟩, hff⟩ := (M5.out.below H6.out.2).any han; clear hown6 hg6 hat6 hlt6)))
          have hdl : (domL E a).length = v + 1 := by have h := congrArg List.length EI.out; rw [List.length_append, HV.out, castL_len] at h; simp at h; omega
          have o6 := own_base H6.out.1 (show w.heap.size + 1 ≤ wo.heap.size by omega)
          rw [EI.out, ← hdl] at o6
          have m6 := (M5.out.below H6.out.2).step han o6
          rw [hdl] at m6
          have hdd := HU.out
          clear hdl o6 hvv hff
          have M6 := Lib.hid m6
          clear m6
          go_roundw
          case rel => exact ⟨i + 1, by omega, by go_num, by rw [hdd]; exact M6.out, (Below.tr B4.out (Below.tr D4.out H6.out.2)).setCell (Nat.le_refl _) _, (K4.out.trans ((Kept.of_below (Below.tr D4.out H6.out.2)).trans Kept.set))⟩
          case measure => simp [intOf]; omega
    · obtain rfl : i = z := by omega
      go_wp2
      go_ret
      refine ⟨w.heap.size, rfl, Nat.le_refl _, ?_, B3.out⟩
      have e := M3.out
      rw [List.take_of_length_le (by have := HZ.out; rw [castL_len] at this; omega)] at e
      exact e
set_option maxRecDepth 100000 in
set_option maxHeartbeats 4000000 in
theorem specMust_any (A : Option Addr) (n cap : Nat) (at_ : Int) (xs : List Stp) (w : World) (b : Bool) (l : List Int) (hr : Hid (TwoRes (ThereR xs n at_) (mustR xs at_) b l)) (hl : Hid (Lies w A xs)) (hx : Hid (xs.length = n)) (hn : n ≤ 1048576) :
    Calls Tryd.prog 14 #[.slice A n cap, .int .i64 at_] w (GaveTwo w l b) := by
  obtain ⟨i0, hi0, hz0, hz1, hz2⟩ := info_parts info_int
  obtain ⟨b0, hb0⟩ := there_b xs n at_
  have HB0 := Lib.hid hb0
  clear hb0
  go_enter Tryd.func14, Tryd.ntmps14
  go_wp2_with fail
  refine (l11There_any _ _ _ _ xs _ b0 HB0 hl hx hn).mono ?_
  rintro e w1 ⟨rfl, hb1⟩
  have B1 := Lib.hid hb1
  clear hb1
  cases b0
  · obtain ⟨rfl, rfl⟩ := hr.out.no (fun h => by have := HB0.out.2 h.1; cases this)
    go_wp2
    go_ret2
    exact two_nil w _ B1.out
  · obtain ⟨GX, g0, g1⟩ := HB0.out.1 rfl
    obtain ⟨f, rfl⟩ := Int.eq_ofNat_of_zero_le g0
    have hfn : f < n := by omega
    have hfn' : (f : Int) < (n : Int) := g1
    have HGX := Lib.hid GX
    obtain ⟨hn0, hn20⟩ := good_20 HGX.out hx.out
    have hdec : decide ((f : Int) ∈ castL (reachL (edg (ktOf xs)) n 0)) = rb (edg (ktOf xs)) 0 f := by
      cases q : rb (edg (ktOf xs)) 0 f
      · exact decide_eq_false (fun h => by have := (mem_reach.1 (castL_mem'.1 h)).2; rw [q] at this; cases this)
      · exact decide_eq_true (castL_mem'.2 (mem_reach.2 ⟨hfn, q⟩))
    have HDC := Lib.hid hdec
    clear hdec GX
    go_wp2_with fail
    refine (l11Reached_any _ _ _ 0 xs _ HGX (Lib.hid (hl.out.below B1.out)) hx hn0).mono ?_
    rintro e w2 ⟨A2, c2, rfl, hown2, hb2⟩
    have hrl := reach_len (edg (ktOf xs)) n 0
    have I2 := Lib.hid (own_ilies hown2)
    have B2 := Lib.hid (Below.tr B1.out hb2)
    clear hown2 hb2
    cases q : rb (edg (ktOf xs)) 0 f
    · have HQ := Lib.hid q
      obtain ⟨rfl, rfl⟩ := hr.out.no (fun h => by have := h.2; rw [Int.toNat_natCast, q] at this; cases this)
      clear q
      go_wp2_with (go_at_call 30; refine (l1Has_any _ _ _ _ _ _ I2 (Lib.hid rfl) (by omega)).mono ?_; rintro e w' ⟨rfl, rfl⟩; rw [HDC.out, HQ.out])
      go_ret2
      exact two_nil w _ B2.out
    · have HQ := Lib.hid q
      obtain ⟨rfl, rfl⟩ := hr.out.yes ⟨⟨HGX.out, by omega, g1⟩, by rw [Int.toNat_natCast]; exact q⟩
      clear q
      go_wp2_with (go_at_call 30; refine (l1Has_any _ _ _ _ _ _ I2 (Lib.hid rfl) (by omega)).mono ?_; rintro e w' ⟨rfl, rfl⟩; rw [HDC.out, HQ.out])
      refine (l11Must_any _ _ _ xs _ HGX (Lib.hid (hl.out.below (Below.tr B2.out (below1 w2 _)))) hx).mono ?_
      rintro e w5 ⟨gr, rfl, hgr, hmu, hb5⟩
      have B5 := Lib.hid (Below.tr (below1 w2 _) hb5)
      have OL := Lib.hid (own_below (World.ownsRow_lit w2 #[] 0 (Nat.le_refl _) (by unfold maxLen; omega) rfl : (w2.alloc (.cells #[] 3)).ownsRow w2.heap.size 3 1 _ 0 _) hb5)
      obtain ⟨A7, c7, hc7, hi7, hn7⟩ := hmu.at hfn (mem_reach.2 ⟨hfn, HQ.out⟩)
      have I7 := Lib.hid hi7
      have N7 := Lib.hid hn7
      have hs5 := B5.out.size
      have hdl : (castL (domL (edg (ktOf xs)) f)).length = (domL (edg (ktOf xs)) f).length := castL_len _
      have hd20 := dom_len (edg (ktOf xs)) f
      have em : castL (domL (edg (ktOf xs)) f) = mustR xs f := by unfold mustR; rw [Int.toNat_natCast]
      have EM := Lib.hid em
      have HDL := Lib.hid hdl
      clear hgr hmu hb5 hi7 hn7 hdl em
      go_wp2_with (at_builtin; (refine append_ints (w1 := w5) (base := w2.heap.size) (xs := []) (l := castL (domL (edg (ktOf xs)) f)) _ _ rfl rfl rfl rfl OL.out I7.out HDL.out N7.out hs5 (by omega) (by omega) ?_; intro g8 c8 w8 ho8 hg8 hat8; have O8 := Lib.hid ho8; have B8 := Lib.hid (B5.out.grown hg8 hs5 (fun g e => by cases e; exact (OL.out.lt _ rfl).1)); clear ho8 hg8 hat8))
      go_ret2
      have o8 := O8.out
      rw [List.nil_append, EM.out, Nat.zero_add] at o8
      have e9 : (mustR xs f).length = (domL (edg (ktOf xs)) f).length := by rw [← EM.out]; exact HDL.out
      refine two_of e9 (own_base o8 B2.out.size) (Below.tr B2.out B8.out)
set_option maxRecDepth 100000 in
set_option maxHeartbeats 4000000 in
theorem specNear_any (A : Option Addr) (n cap : Nat) (xs : List Stp) (w : World) (b : Bool) (l : List Int) (hr : Hid (TwoRes (Good xs) (nearR xs) b l)) (hl : Hid (Lies w A xs)) (hx : Hid (xs.length = n)) (hn : n ≤ 1048576) :
    Calls Tryd.prog 7 #[.slice A n cap] w (GaveTwo w l b) := by
  obtain ⟨i0, hi0, hz0, hz1, hz2⟩ := info_parts info_int
  go_enter Tryd.func7, Tryd.ntmps7
  go_wp2_with fail
  refine (specGood_any _ _ _ xs _ b (Lib.hid hr.out.1) hl hx hn).mono ?_
  rintro e w0 ⟨rfl, hb0⟩
  have B0 := Lib.hid hb0
  clear hb0
  cases b
  · obtain rfl := hr.out.2.1 rfl
    go_wp2
    go_ret2
    exact two_nil w _ B0.out
  · have HGX := Lib.hid (hr.out.1.1 rfl)
    have hle := hr.out.2.2 rfl
    subst hle
    obtain ⟨hn0, hn20⟩ := good_20 HGX.out hx.out
    go_wp2_with fail
    refine (l11Must_any _ _ _ xs _ HGX (Lib.hid (hl.out.below B0.out)) hx).mono ?_
    rintro e w1 ⟨gr, rfl, hgr, hmu, hb1⟩
    have M1 := Lib.hid hmu
    have B1 := Lib.hid (Below.tr B0.out hb1)
    have hgl : gr < w1.heap.size := hmu.lt
    clear hgr hmu hb1
    go_wp2_with fail
    go_loopw [4, 13] (fun ov iv wr => ∃ (k : Nat) (A2 : Option Addr) (c2 : Nat), k ≤ n ∧ iv = .int .i64 k ∧ ov = .slice A2 k c2 ∧ wr.ownsRow w1.heap.size 3 1 (.slice A2 k c2) k ((nearF (ktOf xs) k).map (Value.int .i64)) ∧ Below w1.heap.size w1 wr) (fun _ i _ => n - (intOf i).toNat)
    case atStart => exact ⟨0, none, 0, Nat.zero_le _, rfl, rfl, World.ownsRow_nil _ _ _ _, Below.refl _ _⟩
    case round =>
      obtain ⟨k, A2, c2, hk, rfl, rfl, hown, hb⟩ := hrel
      have O3 := Lib.hid hown
      have C3 := Lib.hid hb
      have M3 := Lib.hid (M1.out.below C3.out)
      clear hown hb
      by_cases hlt : k < n
      · have hk' : (k : Int) < (n : Int) := by omega
        have HSN : Hid (nearF (ktOf xs) (k + 1) = nearF (ktOf xs) k ++ [nearN (edg (ktOf xs)) k]) := Lib.hid (by unfold nearF; rw [List.range_succ, List.map_append]; rfl)
        by_cases hrk : rb (edg (ktOf xs)) 0 k = true ∧ 0 < k
        · obtain ⟨A7, c7, hc7, hi7, -⟩ := M3.out.at hlt (mem_reach.2 ⟨hlt, hrk.1⟩)
          obtain ⟨hlen, d, hd, hnd⟩ := near_dom hrk.1 hrk.2
          have h2 := dom_two hrk.1 hrk.2
          obtain ⟨q, hq⟩ : ∃ q, (domL (edg (ktOf xs)) k).length = q := ⟨_, rfl⟩
          have hq20 : q ≤ 20 := by have := dom_len (edg (ktOf xs)) k; omega
          rw [hq] at hlen hd hc7
          have hq2 : 2 ≤ q := by omega
          obtain ⟨m, hm⟩ : ∃ m, q - 2 = m := ⟨_, rfl⟩
          rw [hm] at hd
          obtain ⟨b5, off5, rfl, hb5, hc5⟩ := hi7 m _ (castL_at hd)
          have HND := Lib.hid hnd
          have hmi : (q : Int) - 2 = (m : Int) := by omega
          have hmq : (m : Int) < (q : Int) := by omega
          clear hi7 hrk hd hnd hlen h2 hq hm
          rw [HND.out] at HSN
          go_wp2_with (at_builtin; (refine wpList_append_lies _ rfl _ _ 24 rfl w1.heap.size 3 i0 (.int .i64 0) 1 8 Tryd.underlying24 hi0 hz0 hz1 hz2 rfl (by omega) _ k _ rfl (O3.out.alloc _) ⟨wr.heap.size, 0, none⟩ 1 1 [.int .i64 d] rfl rfl (one_newT wr _ _) (by intro u hu; rw [List.mem_singleton.1 hu]; rfl) (by omega) (by unfold maxLen; omega) (by omega) (by have := C3.out.size; first | omega | (simp; omega)) (wr.heap.size + 1) (by first | rfl | simp) ?_; intro g4 cap4 w4 hown4 hg4 hat4 hlt4; have H4 := Lib.hid (app1 O3.out hown4 hg4 C3.out (Nat.le_refl _)); clear hown4 hg4))
          go_roundw
          case rel => exact ⟨k + 1, some ⟨g4, 0, none⟩, cap4, by omega, by go_num, rfl, by rw [HSN.out]; exact H4.out.1, H4.out.2⟩
          case measure => simp [intOf]; omega
        · have HNN := Lib.hid (near_none hrk)
          have hcell : ∃ (a : Option Addr) (q c : Nat), wr.cell? ⟨gr, k, none⟩ = some (.slice a q c) ∧ q ≤ 1 := by
            by_cases q : rb (edg (ktOf xs)) 0 k = true
            · have hk0 : k = 0 := by rcases Nat.eq_zero_or_pos k with h | h; · exact h
                                     · exact absurd ⟨q, h⟩ hrk
              obtain ⟨A7, c7, hc7, _, _⟩ := M3.out.at hlt (mem_reach.2 ⟨hlt, q⟩)
              exact ⟨A7, _, c7, hc7, by rw [hk0, dom_zero]; simp⟩
            · exact ⟨none, 0, 0, M3.out.no hlt (fun h => q (mem_reach.1 h).2), by omega⟩
          obtain ⟨a7, q7, c7, hc7, hq7⟩ := hcell
          have hq7' : (q7 : Int) ≤ 1 := by omega
          clear hrk
          rw [HNN.out] at HSN
          go_wp2_with (at_builtin; (refine wpList_append_lies _ rfl _ _ 24 rfl w1.heap.size 3 i0 (.int .i64 0) 1 8 Tryd.underlying24 hi0 hz0 hz1 hz2 rfl (by omega) _ k _ rfl (O3.out.alloc _) ⟨wr.heap.size, 0, none⟩ 1 1 [.int .i64 (-1)] rfl rfl (one_newT wr _ _) (by intro u hu; rw [List.mem_singleton.1 hu]; rfl) (by omega) (by unfold maxLen; omega) (by omega) (by have := C3.out.size; first | omega | (simp; omega)) (wr.heap.size + 1) (by first | rfl | simp) ?_; intro g4 cap4 w4 hown4 hg4 hat4 hlt4; have H4 := Lib.hid (app1 O3.out hown4 hg4 C3.out (Nat.le_refl _)); clear hown4 hg4))
          go_roundw
          case rel => exact ⟨k + 1, some ⟨g4, 0, none⟩, cap4, by omega, by go_num, rfl, by rw [HSN.out]; exact H4.out.1, H4.out.2⟩
          case measure => simp [intOf]; omega
      · obtain rfl : k = n := by omega
        have e : nearF (ktOf xs) k = nearR xs := by unfold nearR; rw [hx.out]
        have el : (nearR xs).length = k := by unfold nearR nearF; rw [List.length_map, List.length_range]; exact hx.out
        rw [e] at O3
        go_wp2
        go_ret2
        exact two_of el (own_base O3.out B1.out.size) (Below.tr B1.out C3.out)
end Go.Proofs.YtilnegmjnbffhaaDoor
