/-
  What the model's l1Has and l1Put answer.
-/
import Derived.Test.YtbmmajdacebncaaPutMath
import Derived.Test.YtbmmajdacebncaaTwo
import Derived.Lib.SliceRun
namespace Go.Proofs.Ytbmmajdacebncaa
open Go.ChangeShapes Go.WideShapes Go.ChangeAt Go.RowKit

theorem take_snoc {l : List Int} {k : Nat} {x : Int} (hx : l[k]? = some x) : l.take (k + 1) = l.take k ++ [x] := by
  have h1 := (List.getElem?_eq_some_iff.1 hx).1
  have h2 := (List.getElem?_eq_some_iff.1 hx).2
  rw [List.take_succ_eq_append_getElem h1, h2]
set_option maxRecDepth 100000 in
set_option maxHeartbeats 1000000 in
theorem l1Has_any (A : Option Addr) (n cap : Nat) (l : List Int) (y : Int) (w : World) (hl : Hid (ILies w A l)) (HX : Hid (l.length = n)) (hn : n ≤ 9223372036854775807) :
    Calls Try.prog 56 #[.slice A n cap, .int .i64 y] w fun e w' => e = .returned (.bool (decide (y ∈ l))) ∧ w = w' := by
  go_enter Try.func56, Try.ntmps56
  go_wp2_with fail
  go_loop [9] (fun i => ∃ k : Nat, k ≤ n ∧ i = .int .i64 k ∧ y ∉ l.take k) (fun i => n - (intOf i).toNat)
  case atStart => exact ⟨0, Nat.zero_le _, rfl, by simp⟩
  case round =>
    obtain ⟨k, hk, rfl, hnot⟩ := hrel
    have HN := Lib.hid hnot
    clear hnot
    by_cases hlt : k < n
    · obtain ⟨x, hx⟩ : ∃ x, l[k]? = some x := ⟨_, List.getElem?_eq_getElem (by have := HX.out; omega)⟩
      obtain ⟨b, off, rfl, hbl, ha⟩ := hl.out k x hx
      have HT := Lib.hid (take_snoc hx)
      have HM := Lib.hid (List.mem_of_getElem? hx)
      clear hx
      cases q : (x == y)
      · go_wp2
        go_round
        case rel => exact ⟨k + 1, by omega, by go_num, by rw [HT.out]; simp at q; simp; exact ⟨HN.out, fun e => q e.symm⟩⟩
        case measure => simp [intOf]; omega
      · have E : Hid (decide (y ∈ l) = true) := Lib.hid (by simp at q; subst q; simpa using HM.out)
        go_wp2
        go_ret
        exact ⟨ret_bool E.out.symm, rfl⟩
    · obtain rfl : k = n := by omega
      have E : Hid (decide (y ∈ l) = false) := Lib.hid (by have := HN.out; rw [List.take_of_length_le (by have := HX.out; omega)] at this; simpa using this)
      go_wp2
      go_ret
      exact ⟨ret_bool E.out.symm, rfl⟩
theorem ILies.take {w : World} {A : Option Addr} {l : List Int} (h : ILies w A l) (k : Nat) : ILies w A (l.take k) := by
  intro i y hy
  rw [List.getElem?_take] at hy
  split at hy
  · exact h i y hy
  · simp at hy
theorem ilies_cells {w : World} {A : Option Addr} {l : List Int} (h : ILies w A l) : ∀ ad, A = some ad → ∀ j u, (l.map (Value.int .i64))[j]? = some u → w.cell? (ad.add j) = some u := by
  intro ad had j u hu
  rw [List.getElem?_map] at hu
  obtain ⟨y, hy, rfl⟩ := Option.map_eq_some_iff.1 hu
  obtain ⟨b, off, hA, _, hc⟩ := h j y hy
  rw [hA] at had
  obtain rfl := Option.some.inj had
  rw [add_plain]
  exact hc
theorem own_nilA' {w : World} {base n c : Nat} {t : TypeId} {A : Option Addr} {xs : List Value} (h : w.ownsRow base t 1 (.slice A n c) n xs) (hA : A = none) : n = 0 ∧ c = 0 := by
  rcases h.2 with ⟨h', h0⟩ | ⟨g, cap, cur, h', _⟩
  · simp only [Value.slice.injEq] at h'; omega
  · simp only [Value.slice.injEq] at h'; rw [hA] at h'; simp at h'
/-- an append of a slice of ints, nil and empty let in, onto a row of one's own -/
theorem append_ints {w1 : World} {base g k cap m c2 : Nat} {B : Option Addr} {xs l : List Int} {ops : Array Oper} {rest : List Oper} {o : Oper} {a : Act} {Q : Exit → Act → World → Prop} (s x : Operand)
    (hg : o.guard = none) (hop : o.op = Op.call { callee := Callee.builtin Builtin.append, args := #[s, x], argTypes := #[24, 24] })
    (hs : a.eval s = .slice (some ⟨g, 0, none⟩) k cap) (hx : a.eval x = .slice B m c2) (ho : w1.ownsRow base 3 1 (.slice (some ⟨g, 0, none⟩) k cap) k (xs.map (Value.int .i64)))
    (hl : ILies w1 B l) (hm : l.length = m) (HN : B = none → m = 0 ∧ c2 = 0) (hb : base ≤ w1.heap.size) (hk : k ≤ 10000000) (hmm : m ≤ 10000000)
    (hK : ∀ g' cc w2, w2.ownsRow base 3 1 (.slice (some ⟨g', 0, none⟩) (k + m) cc) (k + m) ((xs ++ l).map (Value.int .i64)) → w1.grownBy w2 (some g) → (g' = g ∨ g' = w1.heap.size) → wpList Try.prog ops Q rest (a.put o.dst (.slice (some ⟨g', 0, none⟩) (k + m) cc)) w2) : wpList Try.prog ops Q (o :: rest) a w1 := by
  obtain ⟨i0, hi0, hz0, hz1, hz2⟩ := info_parts info_int
  by_cases hz : m = 0
  · subst hz
    have hg0 : l = [] := List.eq_nil_of_length_eq_zero hm
    refine wpList_append_fits_any _ hg _ _ 24 hop base 3 i0 1 Try.underlying24 hi0 hz1 g k cap _ hs ho B 0 c2 [] hx rfl (fun e => HN e) (fun ad _ j u hu => by simp at hu) (fun u hu => by simp at hu) (by have := own_cap ho; omega) ?_
    intro w2 h2 hg2
    exact hK _ _ w2 (by rw [hg0]; simpa using h2) hg2 (.inl rfl)
  · obtain ⟨y, hy⟩ : ∃ y, l[0]? = some y := ⟨_, List.getElem?_eq_getElem (by omega)⟩
    obtain ⟨b1, off1, hB, _, _⟩ := hl 0 y hy
    refine wpList_append_lies _ hg _ _ 24 hop base 3 i0 (.int .i64 0) 1 8 Try.underlying24 hi0 hz0 hz1 hz2 rfl (by omega) _ k _ hs ho ⟨b1, off1, none⟩ m c2 (l.map (Value.int .i64)) (by rw [hx, hB]) (by simp [hm]) (ilies_cells hl _ hB) (ints_oneCell _ _) (by omega) (by unfold maxLen; omega) (by omega) hb _ rfl ?_
    intro g' cap' w2 h2 hg2 hat _
    exact hK g' cap' w2 (by rw [List.map_append]; exact h2) hg2 (hat.elim (fun e => .inl (by simp [Value.ownBlock] at e; exact e.symm)) .inr)
theorem ILies.drop {w : World} {g off : Nat} {l : List Int} (h : ILies w (some ⟨g, off, none⟩) l) (k : Nat) : ILies w (some ⟨g, off + k, none⟩) (l.drop k) := by
  intro i y hy
  rw [List.getElem?_drop] at hy
  obtain ⟨b, o, hA, hb, hc⟩ := h (k + i) y hy
  simp only [Option.some.injEq, Addr.mk.injEq, and_true] at hA
  obtain ⟨rfl, rfl⟩ := hA
  exact ⟨g, off + k, rfl, hb, by rw [Nat.add_assoc]; exact hc⟩
/-- it answers a row of one's own -/
def GaveRow (base : Nat) (w : World) (r : List Int) (e : Ending) (w' : World) : Prop :=
  ∃ A2 c2, e = .returned (.slice A2 r.length c2) ∧ w'.ownsRow base 3 1 (.slice A2 r.length c2) r.length (r.map (Value.int .i64)) ∧ Below w.heap.size w w'
set_option maxRecDepth 100000 in
set_option maxHeartbeats 4000000 in
theorem l1Put_any (base : Nat) (A : Option Addr) (m c : Nat) (l : List Int) (x : Int) (w : World) (ho : Hid (w.ownsRow base 3 1 (.slice A m c) m (l.map (Value.int .i64)))) (HX : Hid (l.length = m)) (hm : m ≤ 10000) (hb : base ≤ w.heap.size) :
    Calls Try.prog 70 #[.slice A m c, .int .i64 x] w (GaveRow base w (putL x l)) := by
  obtain ⟨i0, hi0, hz0, hz1, hz2⟩ := info_parts info_int
  have HL := Lib.hid (own_ilies ho.out)
  have hcap := own_cap ho.out
  have HN := Lib.hid (own_nilA' ho.out)
  cases hA : A with
  | none =>
    obtain ⟨h0, h1⟩ := HN.out hA
    subst h0 h1 hA
    have L0 : Hid (l = []) := Lib.hid (List.eq_nil_of_length_eq_zero HX.out)
    go_enter Try.func70, Try.ntmps70
    go_wp2_with fail
    go_loop [5] (fun i => i = .int .i64 0) (fun _ => 0)
    case atStart => rfl
    case round =>
      subst hrel
      have LN : Hid ((putL x l).length = 0 + 1 + 0) := Lib.hid (by rw [L0.out]; rfl)
      go_wp2_with (first
        | (at_builtin; (refine append_ints (w1 := w.alloc (.cells #[] 3)) (base := w.heap.size) (xs := []) (l := []) _ _ rfl rfl rfl rfl (World.ownsRow_lit w #[] 0 (Nat.le_refl _) (by unfold maxLen; omega) rfl) (fun i y h => by simp at h) rfl (fun _ => ⟨rfl, rfl⟩) (by simp) (by omega) (by omega) ?_; intro g3 c3 w3 ho3 hg3 hat3; have O3 : Hid (w3.ownsRow w.heap.size 3 1 (.slice (some ⟨g3, 0, none⟩) 0 c3) 0 (([]).map (Value.int .i64))) := Lib.hid (by simpa using ho3); have B3 := Lib.hid ((below1 w _).grown hg3 (by simp) (fun g e => by cases e; exact Nat.le_refl _)); have hs3 := B3.out.size; try rw [Nat.zero_add]; clear ho3 hg3 hat3))
        | (at_builtin; (refine wpList_append_lies _ rfl _ _ 24 rfl w.heap.size 3 i0 (.int .i64 0) 1 8 Try.underlying24 hi0 hz0 hz1 hz2 rfl (by omega) _ 0 _ rfl (O3.out.alloc _) ⟨w3.heap.size, 0, none⟩ 1 1 [.int .i64 x] rfl rfl (one_new1 w3 _ _) (by intro u hu; rw [List.mem_singleton.1 hu]; rfl) (by omega) (by unfold maxLen; omega) (by omega) (by first | omega | (simp; omega)) (w3.heap.size + 1) (by first | rfl | simp) ?_; intro g4 cap4 w4 hown4 hg4 hat4 hlt4; have H4 := Lib.hid (app1 O3.out hown4 hg4 B3.out (Nat.le_refl _)); have hs4 := H4.out.2.size; clear hown4 hg4 hat4 hlt4))
        | (at_builtin; (refine append_ints (w1 := w4) (base := w.heap.size) (xs := [] ++ [x]) (l := []) _ _ rfl rfl rfl rfl H4.out.1 (fun i y h => by simp at h) rfl (fun _ => ⟨rfl, rfl⟩) hs4 (by omega) (by omega) ?_; intro g5 c5 w5 ho5 hg5 hat5; have O5 := Lib.hid ho5; have B5 := Lib.hid (H4.out.2.grown hg5 hs4 (fun g e => by cases e; exact (H4.out.1.lt _ rfl).1)); clear ho5 hg5 hat5)))
      go_ret
      refine ⟨some ⟨g5, 0, none⟩, c5, by rw [LN.out]; rfl, ?_, B5.out⟩
      rw [LN.out, L0.out, show putL x [] = [x] from rfl]
      exact own_base (by simpa using O5.out) hb
  | some ad =>
    subst hA
    have hfree : ∃ g, ad = ⟨g, 0, none⟩ ∧ base ≤ g ∧ g < w.heap.size := by
      rcases ho.out.2 with ⟨h', _⟩ | ⟨g, cap, cur, h', hbg, hg, _⟩
      · simp at h'
      · simp only [Value.slice.injEq, Option.some.injEq] at h'
        exact ⟨g, h'.1, hbg, (Array.getElem?_eq_some_iff.1 hg).1⟩
    obtain ⟨g, rfl, hg1, hg2⟩ := hfree
    go_enter Try.func70, Try.ntmps70
    go_wp2_with fail
    go_loop [5] (fun i => ∃ k : Nat, k ≤ m ∧ i = .int .i64 k ∧ ∀ y ∈ l.take k, y < x) (fun i => m - (intOf i).toNat)
    case atStart => exact ⟨0, Nat.zero_le _, rfl, by simp⟩
    case round =>
      obtain ⟨k, hk, rfl, hall⟩ := hrel
      have HA := Lib.hid hall
      clear hall
      by_cases hlt : k < m
      · obtain ⟨y, hy⟩ : ∃ y, l[k]? = some y := ⟨_, List.getElem?_eq_getElem (by have := HX.out; omega)⟩
        obtain ⟨b, off, hbo, hbl, ha⟩ := HL.out k y hy
        simp only [Option.some.injEq, Addr.mk.injEq, and_true] at hbo
        obtain ⟨rfl, rfl⟩ := hbo
        rw [Nat.zero_add] at ha
        have HY := Lib.hid hy
        clear hy
        by_cases hyx : y < x
        · go_wp2
          go_round
          case rel => exact ⟨k + 1, by omega, by go_num, by
            rw [take_snoc HY.out]
            intro z hz
            simp at hz
            rcases hz with hz | rfl
            · exact HA.out z hz
            · exact hyx⟩
          case measure => simp [intOf]; omega
        · have CUT := Lib.hid (putL_cut HA.out (fun z hz => by rw [HY.out] at hz; cases hz; exact hyx) (by rw [HX.out]; omega))
          cases hq : (y == x)
          · have CT : Hid (putL x l = l.take k ++ (x :: l.drop k)) := Lib.hid (by rw [CUT.out, if_neg (by rw [HY.out]; simp at hq; simpa using hq)])
            have hkc : (k : Int) ≤ (c : Int) := by omega
            have hkm : (k : Int) ≤ (m : Int) := by omega
            have hk0 : (0 : Int) ≤ (k : Int) := by omega
            have hmc : (m : Int) ≤ (c : Int) := by omega
            have PRE := Lib.hid (HL.out.take k)
            have PRL : Hid ((l.take k).length = k) := Lib.hid (by rw [List.length_take, HX.out]; omega)
            have DRP : Hid (ILies w (some ⟨g, k, none⟩) (l.drop k)) := Lib.hid (by have := HL.out.drop k; rw [Nat.zero_add] at this; exact this)
            have DRL : Hid ((l.drop k).length = m - k) := Lib.hid (by rw [List.length_drop, HX.out])
            have hck : ¬ (c = k) := by omega
            go_wp2_with (first
              | (at_builtin; (refine append_ints (w1 := w.alloc (.cells #[] 3)) (base := w.heap.size) (xs := []) (l := l.take k) _ _ rfl rfl rfl rfl (World.ownsRow_lit w #[] 0 (Nat.le_refl _) (by unfold maxLen; omega) rfl) (PRE.out.below (below1 w _)) PRL.out (fun e => by cases e) (by simp) (by omega) (by omega) ?_; intro g3 c3 w3 ho3 hg3 hat3; have O3 : Hid (w3.ownsRow w.heap.size 3 1 (.slice (some ⟨g3, 0, none⟩) k c3) k ((l.take k).map (Value.int .i64))) := Lib.hid (by simpa using ho3); have B3 := Lib.hid ((below1 w _).grown hg3 (by simp) (fun g e => by cases e; exact Nat.le_refl _)); have hs3 := B3.out.size; try rw [Nat.zero_add]; clear ho3 hg3 hat3))
              | (at_builtin; (refine wpList_append_lies _ rfl _ _ 24 rfl w.heap.size 3 i0 (.int .i64 0) 1 8 Try.underlying24 hi0 hz0 hz1 hz2 rfl (by omega) _ k _ rfl (O3.out.alloc _) ⟨w3.heap.size, 0, none⟩ 1 1 [.int .i64 x] rfl rfl (one_new1 w3 _ _) (by intro u hu; rw [List.mem_singleton.1 hu]; rfl) (by omega) (by unfold maxLen; omega) (by omega) (by first | omega | (simp; omega)) (w3.heap.size + 1) (by first | rfl | simp) ?_; intro g4 cap4 w4 hown4 hg4 hat4 hlt4; have H4 := Lib.hid (app1 O3.out hown4 hg4 B3.out (Nat.le_refl _)); have hs4 := H4.out.2.size; clear hown4 hg4 hat4 hlt4))
              | (at_builtin; (refine append_ints (w1 := w4) (base := w.heap.size) (xs := l.take k ++ [x]) (l := l.drop k) _ _ rfl rfl rfl rfl H4.out.1 (DRP.out.below H4.out.2) DRL.out (fun e => by cases e) hs4 (by omega) (by omega) ?_; intro g5 c5 w5 ho5 hg5 hat5; have O5 := Lib.hid ho5; have B5 := Lib.hid (H4.out.2.grown hg5 hs4 (fun g e => by cases e; exact (H4.out.1.lt _ rfl).1)); clear ho5 hg5 hat5)))
            go_ret
            have LN : (putL x l).length = k + 1 + (m - k) := by rw [CT.out, List.length_append, List.length_cons, PRL.out, DRL.out]; omega
            refine ⟨some ⟨g5, 0, none⟩, c5, by rw [LN]; rfl, ?_, B5.out⟩
            rw [LN, CT.out, show l.take k ++ x :: l.drop k = l.take k ++ [x] ++ l.drop k by simp]
            exact own_base O5.out hb
          · have CT : Hid (putL x l = l) := Lib.hid (by rw [CUT.out, if_pos (by rw [HY.out]; simp at hq; simp [hq])])
            go_wp2
            go_ret
            rw [CT.out]
            exact ⟨some ⟨g, 0, none⟩, c, by rw [HX.out]; rfl, by rw [HX.out]; exact ho.out, Below.refl _ _⟩
      · obtain rfl : k = m := by omega
        have CT : Hid (putL x l = l ++ [x]) := Lib.hid (by
          have := putL_cut HA.out (fun z hz => by rw [List.getElem?_eq_none (by have := HX.out; omega)] at hz; simp at hz) (by rw [HX.out]; omega)
          rw [this, if_neg (by rw [List.getElem?_eq_none (by have := HX.out; omega)]; simp), List.take_of_length_le (by have := HX.out; omega), List.drop_of_length_le (by have := HX.out; omega)])
        have LN : Hid ((putL x l).length = k + 1 + 0) := Lib.hid (by rw [CT.out, List.length_append, HX.out]; rfl)
        have hkc : (k : Int) ≤ (c : Int) := by omega
        have hk0 : (0 : Int) ≤ (k : Int) := by omega
        by_cases hck : c = k
        · subst hck
          go_wp2_with (first
            | (at_builtin; (refine append_ints (w1 := w.alloc (.cells #[] 3)) (base := w.heap.size) (xs := []) (l := l) _ _ rfl rfl rfl rfl (World.ownsRow_lit w #[] 0 (Nat.le_refl _) (by unfold maxLen; omega) rfl) (HL.out.below (below1 w _)) HX.out (fun e => by cases e) (by simp) (by omega) (by omega) ?_; intro g3 c3 w3 ho3 hg3 hat3; have O3 : Hid (w3.ownsRow w.heap.size 3 1 (.slice (some ⟨g3, 0, none⟩) c c3) c ((l).map (Value.int .i64))) := Lib.hid (by simpa using ho3); have B3 := Lib.hid ((below1 w _).grown hg3 (by simp) (fun g e => by cases e; exact Nat.le_refl _)); have hs3 := B3.out.size; try rw [Nat.zero_add]; clear ho3 hg3 hat3))
            | (at_builtin; (refine wpList_append_lies _ rfl _ _ 24 rfl w.heap.size 3 i0 (.int .i64 0) 1 8 Try.underlying24 hi0 hz0 hz1 hz2 rfl (by omega) _ c _ rfl (O3.out.alloc _) ⟨w3.heap.size, 0, none⟩ 1 1 [.int .i64 x] rfl rfl (one_new1 w3 _ _) (by intro u hu; rw [List.mem_singleton.1 hu]; rfl) (by omega) (by unfold maxLen; omega) (by omega) (by first | omega | (simp; omega)) (w3.heap.size + 1) (by first | rfl | simp) ?_; intro g4 cap4 w4 hown4 hg4 hat4 hlt4; have H4 := Lib.hid (app1 O3.out hown4 hg4 B3.out (Nat.le_refl _)); have hs4 := H4.out.2.size; clear hown4 hg4 hat4 hlt4))
            | (at_builtin; (refine append_ints (w1 := w4) (base := w.heap.size) (xs := l ++ [x]) (l := []) _ _ rfl rfl rfl rfl H4.out.1 (fun i y h => by simp at h) rfl (fun e => by cases e) hs4 (by omega) (by omega) ?_; intro g5 c5 w5 ho5 hg5 hat5; have O5 := Lib.hid ho5; have B5 := Lib.hid (H4.out.2.grown hg5 hs4 (fun g e => by cases e; exact (H4.out.1.lt _ rfl).1)); clear ho5 hg5 hat5)))
          go_ret
          refine ⟨some ⟨g5, 0, none⟩, c5, by rw [LN.out]; rfl, ?_, B5.out⟩
          rw [LN.out, CT.out]
          exact own_base (by simpa using O5.out) hb
        · have hsub : k - k = 0 := by omega
          go_wp2_with (first
            | (at_builtin; (refine append_ints (w1 := w.alloc (.cells #[] 3)) (base := w.heap.size) (xs := []) (l := l) _ _ rfl rfl rfl rfl (World.ownsRow_lit w #[] 0 (Nat.le_refl _) (by unfold maxLen; omega) rfl) (HL.out.below (below1 w _)) HX.out (fun e => by cases e) (by simp) (by omega) (by omega) ?_; intro g3 c3 w3 ho3 hg3 hat3; have O3 : Hid (w3.ownsRow w.heap.size 3 1 (.slice (some ⟨g3, 0, none⟩) k c3) k ((l).map (Value.int .i64))) := Lib.hid (by simpa using ho3); have B3 := Lib.hid ((below1 w _).grown hg3 (by simp) (fun g e => by cases e; exact Nat.le_refl _)); have hs3 := B3.out.size; try rw [Nat.zero_add]; clear ho3 hg3 hat3))
            | (at_builtin; (refine wpList_append_lies _ rfl _ _ 24 rfl w.heap.size 3 i0 (.int .i64 0) 1 8 Try.underlying24 hi0 hz0 hz1 hz2 rfl (by omega) _ k _ rfl (O3.out.alloc _) ⟨w3.heap.size, 0, none⟩ 1 1 [.int .i64 x] rfl rfl (one_new1 w3 _ _) (by intro u hu; rw [List.mem_singleton.1 hu]; rfl) (by omega) (by unfold maxLen; omega) (by omega) (by first | omega | (simp; omega)) (w3.heap.size + 1) (by first | rfl | simp) ?_; intro g4 cap4 w4 hown4 hg4 hat4 hlt4; have H4 := Lib.hid (app1 O3.out hown4 hg4 B3.out (Nat.le_refl _)); have hs4 := H4.out.2.size; clear hown4 hg4 hat4 hlt4))
            | (at_builtin; (refine append_ints (w1 := w4) (base := w.heap.size) (xs := l ++ [x]) (l := []) _ _ rfl rfl rfl rfl H4.out.1 (fun i y h => by simp at h) rfl (fun e => by cases e) hs4 (by omega) (by omega) ?_; intro g5 c5 w5 ho5 hg5 hat5; have O5 := Lib.hid ho5; have B5 := Lib.hid (H4.out.2.grown hg5 hs4 (fun g e => by cases e; exact (H4.out.1.lt _ rfl).1)); clear ho5 hg5 hat5)))
          go_ret
          refine ⟨some ⟨g5, 0, none⟩, c5, by rw [LN.out]; rfl, ?_, B5.out⟩
          rw [LN.out, CT.out]
          exact own_base (by simpa using O5.out) hb
end Go.Proofs.Ytbmmajdacebncaa
