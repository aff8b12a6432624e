/-
  The clauses of gates in a row: the program's and the model's.
-/
import Derived.Test.YtklcfbjaodildaaGi8
namespace Go.Proofs.Ytklcfbjaodildaa
open Go.ChangeShapes Go.WideShapes Go.ChangeAt Go.RowKit

theorem Inner.app {w : World} {lo : Nat} {vs ws : List Value} {L P : List (List Int)} (h : Inner w lo vs L) (k : Inner w lo ws P) (hd : ∀ g, blks vs g → ¬ blks ws g) : Inner w lo (vs ++ ws) (L ++ P) := by
  refine ⟨by simp [h.len, k.len], fun i l hl => ?_, fun i j x y g hx hy gx gy => ?_⟩
  · rw [List.getElem?_append] at hl
    split at hl
    · rename_i q
      obtain ⟨a, c, e, r⟩ := h.row i l hl
      exact ⟨a, c, by rw [List.getElem?_append_left (by rw [h.len]; exact q)]; exact e, r⟩
    · rename_i q
      obtain ⟨a, c, e, r⟩ := k.row _ l hl
      exact ⟨a, c, by rw [List.getElem?_append_right (by rw [h.len]; omega), h.len]; exact e, r⟩
  · rw [List.getElem?_append] at hx hy
    split at hx <;> split at hy
    · exact h.apart i j x y g hx hy gx gy
    · exact absurd ⟨_, y, hy, gy⟩ (hd g ⟨_, x, hx, gx⟩)
    · exact absurd ⟨_, x, hx, gx⟩ (hd g ⟨_, y, hy, gy⟩)
    · have := k.apart _ _ x y g hx hy gx gy
      omega
theorem ownG_nil {w : World} {base n c : Nat} {t : TypeId} {A : Option Addr} {xs : List Value} (h : w.ownsRow base t 1 (.slice A n c) n xs) : A = none → n = 0 ∧ c = 0 := by
  intro e
  rcases h.2 with ⟨h', _⟩ | ⟨g', cap', cur, h', _⟩
  · simp only [Value.slice.injEq] at h'
    exact ⟨h'.2.1, h'.2.2⟩
  · simp only [Value.slice.injEq] at h'
    rw [e] at h'
    cases h'.1
theorem ownG_cells {w : World} {base n c : Nat} {t : TypeId} {A : Option Addr} {xs : List Value} (h : w.ownsRow base t 1 (.slice A n c) n xs) : ∀ ad, A = some ad → ∀ j u, xs[j]? = some u → w.cell? (ad.add j) = some u := by
  intro ad e j u hu
  have hn : 0 < n := by have h1 := (List.getElem?_eq_some_iff.1 hu).1; have := h.1; omega
  obtain ⟨g, cap, hv, _, hg⟩ := h.form hn
  have hA : A = some ⟨g, 0, none⟩ := by injection hv
  subst hA
  obtain rfl := Option.some.inj e
  exact h.cells (g := g) rfl j u hu
theorem Inner.one {w : World} {lo : Nat} {vs : List Value} {L : List (List Int)} (h : Inner w lo vs L) : ∀ u ∈ vs, u.oneCell' = true := by
  intro u hu
  obtain ⟨i, hi⟩ := List.getElem?_of_mem hu
  have hlt : i < L.length := by have := (List.getElem?_eq_some_iff.1 hi).1; rw [h.len] at this; exact this
  obtain ⟨a, c, e, _⟩ := h.row i _ (List.getElem?_eq_getElem hlt)
  rw [hi] at e
  injection e with e
  subst e
  rfl
theorem OwnSS.app {w w2 : World} {lo N n m c cc : Nat} {A A2 : Option Addr} {v : Value} {vs ws : List Value} {L P : List (List Int)}
    (O : OwnSS w lo (.slice A n c) vs L) (hn : L.length = n) (Q : OwnSS w N v ws P) (hm : P.length = m) (hlN : lo ≤ N) (h1 : ∀ g, (Value.slice A n c).ownBlock = some g → g < N) (h2 : ∀ g, blks vs g → g < N)
    (ho : w2.ownsRow lo 55 1 (.slice A2 (n + m) cc) (n + m) (vs ++ ws)) (hk : Kept w w2 (fun g => (Value.slice A n c).ownBlock = some g)) (hat : ∀ g, (Value.slice A2 (n + m) cc).ownBlock = some g → (Value.slice A n c).ownBlock = some g ∨ w.heap.size ≤ g) :
    OwnSS w2 lo (.slice A2 (n + m) cc) (vs ++ ws) (L ++ P) := by
  refine ⟨by rw [List.length_append, hn, hm]; exact ho, ?_, fun g hb e => ?_⟩
  · refine (O.inner.kept hk (fun g hb q => O.off g hb q)).app ((Q.inner.kept hk (fun g hb q => ?_)).base hlN) (fun g a b => ?_)
    · have := (Q.inner.lt g hb).1
      have := h1 g q
      omega
    · have := (Q.inner.lt g b).1
      have := h2 g a
      omega
  · obtain ⟨i, x, hx, gx⟩ := hb
    rw [List.getElem?_append] at hx
    split at hx
    · have hb : blks vs g := ⟨_, x, hx, gx⟩
      rcases hat g e with q | q
      · exact O.off g hb q
      · have := (O.inner.lt g hb).2; omega
    · have hb : blks ws g := ⟨_, x, hx, gx⟩
      have hl := Q.inner.lt g hb
      rcases hat g e with q | q
      · have := h1 g q; omega
      · omega
set_option maxRecDepth 100000 in
set_option maxHeartbeats 8000000 in
theorem l8Raw_any (x : Gt) (v : Int) (w : World) (ha : 0 ≤ x.a ∧ x.a ≤ 1000) (hb : 0 ≤ x.b ∧ x.b ≤ 1000) (hv : 0 ≤ v ∧ v ≤ 1000) :
    Calls Try.prog 139 #[.agg #[.int .i64 x.k, .int .i64 x.a, .int .i64 x.b], .int .i64 v] w fun e w' => ∃ A c, e = .returned (.slice A (rawC x v).length c) ∧ LLies w' A (rawC x v) ∧ Below w.heap.size w w' := by
  by_cases h2 : x.k = 2
  · have E : Hid (rawC x v = [[v, (x.a + 1)], [-v, -(x.a + 1)]]) := Lib.hid (by simp [rawC, h2])
    have e2 : (x.k == 2) = true := by rw [h2]; rfl
    clear h2
    go_enter Try.func139, Try.ntmps139
    go_wp2
    generalize hW1 : w.alloc (.cells #[.int .i64 x.k, .int .i64 x.a, .int .i64 x.b] 120) = W1
    have hs : W1.heap.size = w.heap.size + 1 := by rw [← hW1]; simp
    have hb : Below w.heap.size w W1 := by rw [← hW1]; exact below1 _ _
    rw [← hs]
    have B1 := Lib.hid (Below.tr hb (allocAll_below [ic [v, (x.a + 1)], ic [-v, -(x.a + 1)], .cells #[sl W1.heap.size 2, sl (W1.heap.size + 1) 2] 55] _ _ _ (Below.refl _ _) (Nat.le_refl _)))
    have LL := Lib.hid (lit2 W1 ([v, (x.a + 1)] : List Int) ([-v, -(x.a + 1)] : List Int) (by simp) (by simp))
    clear hW1 hs hb
    go_ret
    exact ⟨some ⟨W1.heap.size + 2, 0, none⟩, 2, by rw [E.out]; rfl, by rw [E.out]; exact LL.out, B1.out⟩
  by_cases h3 : x.k = 3
  · have E : Hid (rawC x v = [[-v, (x.a + 1)], [-v, (x.b + 1)], [v, -(x.a + 1), -(x.b + 1)]]) := Lib.hid (by simp [rawC, h3])
    have e2 : (x.k == 2) = false := by rw [h3]; rfl
    have e3 : (x.k == 3) = true := by rw [h3]; rfl
    clear h3
    go_enter Try.func139, Try.ntmps139
    go_wp2
    generalize hW1 : w.alloc (.cells #[.int .i64 x.k, .int .i64 x.a, .int .i64 x.b] 120) = W1
    have hs : W1.heap.size = w.heap.size + 1 := by rw [← hW1]; simp
    have hb : Below w.heap.size w W1 := by rw [← hW1]; exact below1 _ _
    rw [← hs]
    have B1 := Lib.hid (Below.tr hb (allocAll_below [ic [-v, (x.a + 1)], ic [-v, (x.b + 1)], ic [v, -(x.a + 1), -(x.b + 1)], .cells #[sl W1.heap.size 2, sl (W1.heap.size + 1) 2, sl (W1.heap.size + 2) 3] 55] _ _ _ (Below.refl _ _) (Nat.le_refl _)))
    have LL := Lib.hid (lit3 W1 ([-v, (x.a + 1)] : List Int) ([-v, (x.b + 1)] : List Int) ([v, -(x.a + 1), -(x.b + 1)] : List Int) (by simp) (by simp) (by simp))
    clear hW1 hs hb
    go_ret
    exact ⟨some ⟨W1.heap.size + 3, 0, none⟩, 3, by rw [E.out]; rfl, by rw [E.out]; exact LL.out, B1.out⟩
  by_cases h4 : x.k = 4
  · have E : Hid (rawC x v = [[v, -(x.a + 1)], [v, -(x.b + 1)], [-v, (x.a + 1), (x.b + 1)]]) := Lib.hid (by simp [rawC, h4])
    have e2 : (x.k == 2) = false := by rw [h4]; rfl
    have e3 : (x.k == 3) = false := by rw [h4]; rfl
    have e4 : (x.k == 4) = true := by rw [h4]; rfl
    clear h4
    go_enter Try.func139, Try.ntmps139
    go_wp2
    generalize hW1 : w.alloc (.cells #[.int .i64 x.k, .int .i64 x.a, .int .i64 x.b] 120) = W1
    have hs : W1.heap.size = w.heap.size + 1 := by rw [← hW1]; simp
    have hb : Below w.heap.size w W1 := by rw [← hW1]; exact below1 _ _
    rw [← hs]
    have B1 := Lib.hid (Below.tr hb (allocAll_below [ic [v, -(x.a + 1)], ic [v, -(x.b + 1)], ic [-v, (x.a + 1), (x.b + 1)], .cells #[sl W1.heap.size 2, sl (W1.heap.size + 1) 2, sl (W1.heap.size + 2) 3] 55] _ _ _ (Below.refl _ _) (Nat.le_refl _)))
    have LL := Lib.hid (lit3 W1 ([v, -(x.a + 1)] : List Int) ([v, -(x.b + 1)] : List Int) ([-v, (x.a + 1), (x.b + 1)] : List Int) (by simp) (by simp) (by simp))
    clear hW1 hs hb
    go_ret
    exact ⟨some ⟨W1.heap.size + 3, 0, none⟩, 3, by rw [E.out]; rfl, by rw [E.out]; exact LL.out, B1.out⟩
  by_cases h5 : x.k = 5
  · have E : Hid (rawC x v = [[-v, (x.a + 1), (x.b + 1)], [-v, -(x.a + 1), -(x.b + 1)], [v, -(x.a + 1), (x.b + 1)], [v, (x.a + 1), -(x.b + 1)]]) := Lib.hid (by simp [rawC, h5])
    have e2 : (x.k == 2) = false := by rw [h5]; rfl
    have e3 : (x.k == 3) = false := by rw [h5]; rfl
    have e4 : (x.k == 4) = false := by rw [h5]; rfl
    have e5 : (x.k == 5) = true := by rw [h5]; rfl
    clear h5
    go_enter Try.func139, Try.ntmps139
    go_wp2
    generalize hW1 : w.alloc (.cells #[.int .i64 x.k, .int .i64 x.a, .int .i64 x.b] 120) = W1
    have hs : W1.heap.size = w.heap.size + 1 := by rw [← hW1]; simp
    have hb : Below w.heap.size w W1 := by rw [← hW1]; exact below1 _ _
    rw [← hs]
    have B1 := Lib.hid (Below.tr hb (allocAll_below [ic [-v, (x.a + 1), (x.b + 1)], ic [-v, -(x.a + 1), -(x.b + 1)], ic [v, -(x.a + 1), (x.b + 1)], ic [v, (x.a + 1), -(x.b + 1)], .cells #[sl W1.heap.size 3, sl (W1.heap.size + 1) 3, sl (W1.heap.size + 2) 3, sl (W1.heap.size + 3) 3] 55] _ _ _ (Below.refl _ _) (Nat.le_refl _)))
    have LL := Lib.hid (lit4 W1 ([-v, (x.a + 1), (x.b + 1)] : List Int) ([-v, -(x.a + 1), -(x.b + 1)] : List Int) ([v, -(x.a + 1), (x.b + 1)] : List Int) ([v, (x.a + 1), -(x.b + 1)] : List Int) (by simp) (by simp) (by simp) (by simp))
    clear hW1 hs hb
    go_ret
    exact ⟨some ⟨W1.heap.size + 4, 0, none⟩, 4, by rw [E.out]; rfl, by rw [E.out]; exact LL.out, B1.out⟩
  have E : Hid (rawC x v = []) := Lib.hid (by simp [rawC, h2, h3, h4, h5])
  have e2 := beqC_no h2
  have e3 := beqC_no h3
  have e4 := beqC_no h4
  have e5 := beqC_no h5
  go_enter Try.func139, Try.ntmps139
  go_wp2
  go_ret
  exact ⟨none, 0, by rw [E.out]; rfl, by rw [E.out]; exact fun i l h => by simp at h, below1 _ _⟩
set_option maxRecDepth 100000 in
set_option maxHeartbeats 4000000 in
theorem l8Clauses_any (x : Gt) (v : Int) (w : World) (ha : 0 ≤ x.a ∧ x.a ≤ 1000) (hb : 0 ≤ x.b ∧ x.b ≤ 1000) (hv : 0 ≤ v ∧ v ≤ 900) :
    Calls Try.prog 97 #[.agg #[.int .i64 x.k, .int .i64 x.a, .int .i64 x.b], .int .i64 v] w (GaveCL w (oneC x (v + 1))) := by
  obtain ⟨iS, hiS, hs0, hs1, hs2⟩ := info_parts info_ints
  obtain ⟨L, hL⟩ : ∃ L, rawC x (v + 1) = L := ⟨_, rfl⟩
  obtain ⟨n, hn⟩ : ∃ n, L.length = n := ⟨_, rfl⟩
  have hn4 : n ≤ 4 := by rw [← hn, ← hL]; exact rawC_len _ _
  have EL := Lib.hid hL
  have HX := Lib.hid hn
  clear hL hn
  go_enter Try.func97, Try.ntmps97
  go_wp2_with (go_at_call 139; refine (l8Raw_any x (v + 1) _ ha hb (by omega)).mono ?_; rintro e w2 ⟨A1, c1, rfl, hll, hb2⟩; rw [EL.out] at hll; rw [EL.out, HX.out]; have LL := Lib.hid hll; have B1 := Lib.hid (Below.tr (below1 _ _) hb2); clear hll hb2)
  go_loopw [5, 15] (fun v i wr => ∃ k m : Nat, k ≤ n ∧ i = .int .i64 k ∧ (clsC (L.take k)).length = m ∧ m ≤ k ∧ (∃ A2 c2 vs, v = .slice A2 m c2 ∧ OwnSS wr w2.heap.size (.slice A2 m c2) vs (clsC (L.take k))) ∧ Below w2.heap.size w2 wr) (fun _ i _ => n - (intOf i).toNat)
  case atStart => exact ⟨0, 0, Nat.zero_le _, rfl, by simp [clsC], Nat.le_refl _, ⟨none, 0, [], rfl, by rw [show clsC (L.take 0) = [] from rfl]; exact ⟨World.ownsRow_nil _ _ _ _, Inner.nil _ _, fun g _ e => by simp [Value.ownBlock] at e⟩⟩, Below.refl _ _⟩
  case round =>
    obtain ⟨k, m, hk, rfl, hm, hmk, ⟨A2, c2, vs, rfl, hown⟩, hbw⟩ := hrel
    have HM := Lib.hid hm
    have O2 := Lib.hid hown
    have B2 := Lib.hid hbw
    clear hm hown hbw
    by_cases hlt : k < n
    · obtain ⟨c, hx⟩ : ∃ x, L[k]? = some x := ⟨_, List.getElem?_eq_getElem (by have := HX.out; omega)⟩
      obtain ⟨b, off, a, cp, rfl, hbl, ha, hca, hma, hil⟩ := (LL.out.below B2.out) k c hx
      have HXK := Lib.hid hx
      have IL := Lib.hid hil
      clear hx hil
      obtain ⟨z, hz⟩ : ∃ m, c.length = m := ⟨_, rfl⟩
      rw [hz] at ha hca hma
      have HZ := Lib.hid hz
      clear hz
      obtain ⟨r, ok, hr⟩ := opt_any (cleanB c)
      have HR := Lib.hid hr
      clear hr
      go_wp2_with fail
      refine (specClean_any _ _ _ c _ r ok HR IL HZ hma).mono ?_
      rintro e w3 ⟨A3, c3, rfl, ho3, hb3⟩
      have O3 := Lib.hid ho3
      have B3 := Lib.hid hb3
      clear ho3 hb3
      cases ok
      · have E := Lib.hid (clsC_no HXK.out (HR.out.2 rfl).1)
        have O4 := Lib.hid (O2.out.below B3.out)
        go_wp2
        go_roundw
        case rel => exact ⟨k + 1, m, by omega, by go_num, by rw [E.out]; exact HM.out, by omega, ⟨A2, c2, vs, rfl, by rw [E.out]; exact O4.out⟩, Below.tr B2.out B3.out⟩
        case measure => simp [intOf]; omega
      · have E := Lib.hid (clsC_yes HXK.out (HR.out.1 rfl))
        have OU : Hid (w3.ownsRow w2.heap.size 55 1 (.slice A2 m c2) m vs) := Lib.hid (by have := (O2.out.below B3.out).outer; rw [HM.out] at this; exact this)
        go_wp2_with (at_builtin; (refine wpList_append_lies _ rfl _ _ 23 rfl w2.heap.size 55 iS (.slice none 0 0) 1 24 Try.underlying23 hiS hs0 hs1 hs2 rfl (by omega) _ m _ rfl (OU.out.alloc _) ⟨w3.heap.size, 0, none⟩ 1 1 [.slice A3 r.length c3] rfl rfl (one_new1 w3 _ _) (by intro u hu; rw [List.mem_singleton.1 hu]; rfl) (by omega) (by unfold maxLen; omega) (by omega) (by have := (Below.tr B2.out B3.out).size; first | omega | (simp; omega)) (w3.heap.size + 1) (by first | rfl | simp) ?_; intro g4 cap4 w4 hown4 hg4 hat4 hlt4; have H4 := Lib.hid (OwnSS.grow HM.out O2.out B2.out B3.out O3.out hown4 hg4 hat4); clear hown4 hg4 hat4 hlt4))
        go_roundw
        case rel => exact ⟨k + 1, m + 1, by omega, by go_num, by rw [E.out, List.length_append, HM.out]; rfl, by omega, ⟨some ⟨g4, 0, none⟩, cap4, _, rfl, by rw [E.out]; exact H4.out.1⟩, H4.out.2⟩
        case measure => simp [intOf]; omega
    · obtain rfl : k = n := by omega
      have E : Hid (L.take k = L) := Lib.hid (List.take_of_length_le (by have := HX.out; omega))
      rw [E.out] at HM O2
      have EO : Hid (oneC x (v + 1) = clsC L) := Lib.hid (by unfold oneC; rw [EL.out])
      go_wp2
      go_ret
      exact ⟨A2, c2, vs, by rw [EO.out, HM.out]; rfl, by rw [EO.out, HM.out]; exact O2.out.baseG B1.out.size, Below.tr B1.out B2.out⟩
set_option maxRecDepth 100000 in
set_option maxHeartbeats 4000000 in
theorem implGc_any (v : Int) (A : Option Addr) (n cap : Nat) (xs : List Gt) (w : World) (r0 : List (List Int)) (r1 : Bool) (HR : Hid (rGc xs v = (r0, r1))) (hl : Hid (GLies w A xs)) (HX : Hid (xs.length = n)) (hn : n ≤ 1048576) :
    Calls Try.prog 46 #[.slice A n cap, .int .i64 v] w (GaveSS w r0 r1) := by
  cases q1 : goodGB xs
  · have E := Lib.hid (rGc_no HR.out (.inl q1))
    go_enter Try.func46, Try.ntmps46
    go_wp2_with (go_at_call 35; refine (implGoodG_any _ n _ xs _ hl HX hn).mono ?_; rintro e w1 ⟨rfl, hb1⟩; rw [q1]; have B1 := Lib.hid hb1; clear hb1)
    go_ret2
    exact ss_no E.out B1.out
  have hn12 : n ≤ 12 := by have := goodG_len q1; have := HX.out; omega
  cases q2 : ixB v n
  · have E := Lib.hid (rGc_no HR.out (.inr (by rw [HX.out]; exact q2)))
    go_enter Try.func46, Try.ntmps46
    go_wp2_with (first | (go_at_call 35; refine (implGoodG_any _ n _ xs _ hl HX hn).mono ?_; rintro e w1 ⟨rfl, hb1⟩; rw [q1]; have B1 := Lib.hid hb1; clear hb1) | (go_at_call 109; refine (isIndex_any _ n _).mono ?_; rintro e w' ⟨rfl, rfl⟩; rw [q2]))
    go_ret2
    exact ss_no E.out B1.out
  · obtain ⟨i, rfl⟩ : ∃ i : Nat, v = i := ⟨v.toNat, by have := ixB_yes q2; omega⟩
    have hin : i < n := by have := ixB_yes q2; omega
    obtain ⟨x, hx⟩ : ∃ x, xs[i]? = some x := ⟨_, List.getElem?_eq_getElem (by have := HX.out; omega)⟩
    have E : Hid (r0 = oneC x ((i : Int) + 1) ∧ r1 = true) := Lib.hid (by have := rGc_yes HR.out q1 (by rw [HX.out]; exact q2); rwa [show ((i : Int)).toNat = i from Int.toNat_natCast i, gk_at hx] at this)
    have hgk := gateB_kind (goodG_at q1 hx)
    have HA : Hid (0 ≤ x.a ∧ x.a ≤ 1000 ∧ 0 ≤ x.b ∧ x.b ≤ 1000) := Lib.hid (by omega)
    have HXK := Lib.hid hx
    clear hx hgk
    go_enter Try.func46, Try.ntmps46
    go_wp2_with (first | (go_at_call 35; refine (implGoodG_any _ n _ xs _ hl HX hn).mono ?_; rintro e w1 ⟨rfl, hb1⟩; rw [q1]; have B1 := Lib.hid hb1; obtain ⟨b, off, rfl, hbl, ha⟩ := (hl.out.below B1.out) i x HXK.out; obtain ⟨e0, e1, e2⟩ := ha; clear hb1) | (go_at_call 109; refine (isIndex_any _ n _).mono ?_; rintro e w' ⟨rfl, rfl⟩; rw [q2]) | (go_at_call 96; refine (gateClauses_any x ((i : Int) + 1) _ (by have := HA.out; omega) (by have := HA.out; omega) (by omega)).mono ?_; rintro e w3 ⟨A3, c3, vs3, rfl, ho3, hb3⟩; have O3 := Lib.hid (ho3.baseG (base' := w.heap.size) (by have := B1.out.size; omega)); have B3 := Lib.hid (Below.tr B1.out hb3); clear ho3 hb3))
    go_ret2
    exact ⟨A3, c3, vs3, by rw [E.out.1, E.out.2]; rfl, by rw [E.out.1]; exact O3.out, B3.out⟩
set_option maxRecDepth 100000 in
set_option maxHeartbeats 8000000 in
theorem implCls_any (A : Option Addr) (n cap : Nat) (xs : List Gt) (w : World) (r0 : List (List Int)) (r1 : Bool) (HR : Hid (rCls xs = (r0, r1))) (hl : Hid (GLies w A xs)) (HX : Hid (xs.length = n)) (hn : n ≤ 1048576) :
    Calls Try.prog 29 #[.slice A n cap] w (GaveSS w r0 r1) := by
  obtain ⟨iS, hiS, hs0, hs1, hs2⟩ := info_parts info_ints
  cases q1 : goodGB xs
  · have E := Lib.hid (rCls_no HR.out q1)
    go_enter Try.func29, Try.ntmps29
    go_wp2_with (go_at_call 35; refine (implGoodG_any _ n _ xs _ hl HX hn).mono ?_; rintro e w1 ⟨rfl, hb1⟩; rw [q1]; have B1 := Lib.hid hb1; clear hb1)
    go_ret2
    exact ss_no E.out B1.out
  have hn12 : n ≤ 12 := by have := goodG_len q1; have := HX.out; omega
  have E : Hid (r0 = clsK xs n ++ [[(n : Int)]] ∧ r1 = true) := Lib.hid (by have := rCls_yes HR.out q1; unfold clsG at this; rwa [HX.out] at this)
  have HG := Lib.hid q1
  go_enter Try.func29, Try.ntmps29
  go_wp2_with (go_at_call 35; refine (implGoodG_any _ n _ xs _ hl HX hn).mono ?_; rintro e w1 ⟨rfl, hb1⟩; rw [q1]; have B1 := Lib.hid hb1; clear hb1)
  go_loopw [4, 12] (fun v i wr => ∃ k m : Nat, k ≤ n ∧ i = .int .i64 k ∧ (clsK xs k).length = m ∧ m ≤ 4 * k ∧ (∃ A2 c2 vs, v = .slice A2 m c2 ∧ OwnSS wr w.heap.size (.slice A2 m c2) vs (clsK xs k)) ∧ Below w.heap.size w wr) (fun _ i _ => n - (intOf i).toNat)
  case atStart => exact ⟨0, 0, Nat.zero_le _, rfl, rfl, Nat.le_refl _, ⟨none, 0, [], rfl, by rw [show clsK xs 0 = [] from rfl]; exact ⟨World.ownsRow_nil _ _ _ _, Inner.nil _ _, fun g _ e => by simp [Value.ownBlock] at e⟩⟩, B1.out⟩
  case round =>
    obtain ⟨k, m, hk, rfl, hm, hmk, ⟨A2, c2, vs, rfl, hown⟩, hbw⟩ := hrel
    have HM := Lib.hid hm
    have O2 := Lib.hid hown
    have B2 := Lib.hid hbw
    clear hm hown hbw
    by_cases hlt : k < n
    · obtain ⟨x, hx⟩ : ∃ x, xs[k]? = some x := ⟨_, List.getElem?_eq_getElem (by have := HX.out; omega)⟩
      obtain ⟨b, off, rfl, hbl, ha⟩ := (hl.out.below B2.out) k x hx
      have hgk := gateB_kind (goodG_at HG.out hx)
      have HA : Hid (0 ≤ x.a ∧ x.a ≤ 1000 ∧ 0 ≤ x.b ∧ x.b ≤ 1000) := Lib.hid (by omega)
      have E2 := Lib.hid (clsK_succ hx)
      have hp4 := oneC_len x ((k : Int) + 1)
      obtain ⟨p, hp⟩ : ∃ p, (oneC x ((k : Int) + 1)).length = p := ⟨_, rfl⟩
      rw [hp] at hp4
      have HP := Lib.hid hp
      clear hx hgk hp
      obtain ⟨e0, e1, e2⟩ := ha
      go_wp2_with (first
        | (go_at_call 96; refine (gateClauses_any x ((k : Int) + 1) _ (by have := HA.out; omega) (by have := HA.out; omega) (by omega)).mono ?_; rintro e w3 ⟨A3, c3, vs3, rfl, ho3, hb3⟩; rw [HP.out] at ho3 ⊢; have hb4 := Below.tr (below1 wr _) hb3; have O3 := Lib.hid (ho3.baseG (base' := wr.heap.size) (by simp)); have O4 := Lib.hid (O2.out.below hb4); have B3 := Lib.hid (Below.tr B2.out hb4); have OU : Hid (w3.ownsRow w.heap.size 55 1 (.slice A2 m c2) m vs) := Lib.hid (by have := O4.out.outer; rw [HM.out] at this; exact this); have OP : Hid (w3.ownsRow wr.heap.size 55 1 (.slice A3 p c3) p vs3) := Lib.hid (by have := O3.out.outer; rw [HP.out] at this; exact this); clear ho3 hb3 hb4)
        | (at_builtin; (refine append_rowsN (w1 := w3) (base := w.heap.size) (xs := vs) (vs := vs3) _ _ rfl rfl rfl rfl OU.out (ownG_cells OP.out) O3.out.inner.one (by rw [O3.out.inner.len, HP.out]) (ownG_nil OP.out) (by have := B3.out.size; omega) (by omega) (by omega) ?_; intro A4 c4 w4 ho4 hk4 hat4; have H4 := Lib.hid (OwnSS.app O4.out HM.out O3.out HP.out B2.out.size (fun g h => (O2.out.outer.lt g h).2) (fun g h => (O2.out.inner.lt g h).2) ho4 hk4 hat4); have B4 := Lib.hid (hk4.below B3.out B3.out.size (fun i e => by have := (OU.out.lt i e).1; omega)); clear ho4 hk4 hat4)))
      go_roundw
      case rel => exact ⟨k + 1, m + p, by omega, by go_num, by rw [E2.out, List.length_append, HM.out, HP.out], by omega, ⟨A4, c4, _, rfl, by rw [E2.out]; exact H4.out⟩, B4.out⟩
      case measure => simp [intOf]; omega
    · obtain rfl : k = n := by omega
      have OU : Hid (wr.ownsRow w.heap.size 55 1 (.slice A2 m c2) m vs) := Lib.hid (by have := O2.out.outer; rw [HM.out] at this; exact this)
      have ON : Hid ((wr.alloc (.cells #[.int .i64 k] 3)).ownsRow wr.heap.size 3 1 (.slice (some ⟨wr.heap.size, 0, none⟩) 1 1) 1 [.int .i64 k]) := Lib.hid (own_row wr [(k : Int)] wr.heap.size (Nat.le_refl _) (by simp [maxLen]))
      go_wp2_with (at_builtin; (refine wpList_append_lies _ rfl _ _ 23 rfl w.heap.size 55 iS (.slice none 0 0) 1 24 Try.underlying23 hiS hs0 hs1 hs2 rfl (by omega) _ m _ rfl ((OU.out.alloc _).alloc _) ⟨wr.heap.size + 1, 0, none⟩ 1 1 [.slice (some ⟨wr.heap.size, 0, none⟩) 1 1] rfl rfl (by exact one_newG wr _ _ _) (by intro u hu; rw [List.mem_singleton.1 hu]; rfl) (by omega) (by unfold maxLen; omega) (by omega) (by have := B2.out.size; first | omega | (simp; omega)) (wr.heap.size + 1 + 1) (by first | rfl | simp) ?_; intro g4 cap4 w4 hown4 hg4 hat4 hlt4; have H4 := Lib.hid (OwnSS.grow (o := [(k : Int)]) HM.out O2.out B2.out (below1 wr _) ON.out hown4 hg4 (hat4.imp id (fun e => by rw [e]; simp))); clear hown4 hg4 hat4 hlt4))
      go_ret2
      exact ⟨some ⟨g4, 0, none⟩, cap4, _, by rw [E.out.1, E.out.2, List.length_append, HM.out]; rfl, by rw [E.out.1, List.length_append, HM.out]; exact H4.out.1, H4.out.2⟩
set_option maxRecDepth 100000 in
set_option maxHeartbeats 4000000 in
theorem specGc_any (v : Int) (A : Option Addr) (n cap : Nat) (xs : List Gt) (w : World) (r0 : List (List Int)) (r1 : Bool) (HR : Hid (rGc xs v = (r0, r1))) (hl : Hid (GLies w A xs)) (HX : Hid (xs.length = n)) (hn : n ≤ 1048576) :
    Calls Try.prog 51 #[.slice A n cap, .int .i64 v] w (GaveSS w r0 r1) := by
  cases q1 : goodGB xs
  · have E := Lib.hid (rGc_no HR.out (.inl q1))
    go_enter Try.func51, Try.ntmps51
    go_wp2_with (go_at_call 60; refine (specGoodG_any _ n _ xs _ hl HX hn).mono ?_; rintro e w1 ⟨rfl, hb1⟩; rw [q1]; have B1 := Lib.hid hb1; clear hb1)
    go_ret2
    exact ss_no E.out B1.out
  have hn12 : n ≤ 12 := by have := goodG_len q1; have := HX.out; omega
  cases q2 : ixB v n
  · have E := Lib.hid (rGc_no HR.out (.inr (by rw [HX.out]; exact q2)))
    by_cases hv0 : v < 0
    · go_enter Try.func51, Try.ntmps51
      go_wp2_with (go_at_call 60; refine (specGoodG_any _ n _ xs _ hl HX hn).mono ?_; rintro e w1 ⟨rfl, hb1⟩; rw [q1]; have B1 := Lib.hid hb1; clear hb1)
      go_ret2
      exact ss_no E.out B1.out
    · have hv1 : (n : Int) ≤ v := by
        cases hh : decide ((n : Int) ≤ v)
        · simp [ixB] at q2 hh; omega
        · simpa using hh
      go_enter Try.func51, Try.ntmps51
      go_wp2_with (go_at_call 60; refine (specGoodG_any _ n _ xs _ hl HX hn).mono ?_; rintro e w1 ⟨rfl, hb1⟩; rw [q1]; have B1 := Lib.hid hb1; clear hb1)
      go_ret2
      exact ss_no E.out B1.out
  · obtain ⟨i, rfl⟩ : ∃ i : Nat, v = i := ⟨v.toNat, by have := ixB_yes q2; omega⟩
    have hin : i < n := by have := ixB_yes q2; omega
    obtain ⟨x, hx⟩ : ∃ x, xs[i]? = some x := ⟨_, List.getElem?_eq_getElem (by have := HX.out; omega)⟩
    have E : Hid (r0 = oneC x ((i : Int) + 1) ∧ r1 = true) := Lib.hid (by have := rGc_yes HR.out q1 (by rw [HX.out]; exact q2); rwa [show ((i : Int)).toNat = i from Int.toNat_natCast i, gk_at hx] at this)
    have hgk := gateB_kind (goodG_at q1 hx)
    have HA : Hid (0 ≤ x.a ∧ x.a ≤ 1000 ∧ 0 ≤ x.b ∧ x.b ≤ 1000) := Lib.hid (by omega)
    have HXK := Lib.hid hx
    clear hx hgk
    go_enter Try.func51, Try.ntmps51
    go_wp2_with (first | (go_at_call 60; refine (specGoodG_any _ n _ xs _ hl HX hn).mono ?_; rintro e w1 ⟨rfl, hb1⟩; rw [q1]; have B1 := Lib.hid hb1; obtain ⟨b, off, rfl, hbl, ha⟩ := (hl.out.below B1.out) i x HXK.out; obtain ⟨e0, e1, e2⟩ := ha; clear hb1) | (go_at_call 97; refine (l8Clauses_any x (i : Int) _ (by have := HA.out; omega) (by have := HA.out; omega) (by omega)).mono ?_; rintro e w3 ⟨A3, c3, vs3, rfl, ho3, hb3⟩; have O3 := Lib.hid (ho3.baseG (base' := w.heap.size) (by have := B1.out.size; omega)); have B3 := Lib.hid (Below.tr B1.out hb3); clear ho3 hb3))
    go_ret2
    exact ⟨A3, c3, vs3, by rw [E.out.1, E.out.2]; rfl, by rw [E.out.1]; exact O3.out, B3.out⟩
set_option maxRecDepth 100000 in
set_option maxHeartbeats 8000000 in
theorem specCls_any (A : Option Addr) (n cap : Nat) (xs : List Gt) (w : World) (r0 : List (List Int)) (r1 : Bool) (HR : Hid (rCls xs = (r0, r1))) (hl : Hid (GLies w A xs)) (HX : Hid (xs.length = n)) (hn : n ≤ 1048576) :
    Calls Try.prog 30 #[.slice A n cap] w (GaveSS w r0 r1) := by
  obtain ⟨iS, hiS, hs0, hs1, hs2⟩ := info_parts info_ints
  cases q1 : goodGB xs
  · have E := Lib.hid (rCls_no HR.out q1)
    go_enter Try.func30, Try.ntmps30
    go_wp2_with (go_at_call 60; refine (specGoodG_any _ n _ xs _ hl HX hn).mono ?_; rintro e w1 ⟨rfl, hb1⟩; rw [q1]; have B1 := Lib.hid hb1; clear hb1)
    go_ret2
    exact ss_no E.out B1.out
  have hn12 : n ≤ 12 := by have := goodG_len q1; have := HX.out; omega
  have E : Hid (r0 = clsK xs n ++ [[(n : Int)]] ∧ r1 = true) := Lib.hid (by have := rCls_yes HR.out q1; unfold clsG at this; rwa [HX.out] at this)
  have HG := Lib.hid q1
  go_enter Try.func30, Try.ntmps30
  go_wp2_with (go_at_call 60; refine (specGoodG_any _ n _ xs _ hl HX hn).mono ?_; rintro e w1 ⟨rfl, hb1⟩; rw [q1]; have B1 := Lib.hid hb1; clear hb1)
  go_loopw [4, 12] (fun v i wr => ∃ k m : Nat, k ≤ n ∧ i = .int .i64 k ∧ (clsK xs k).length = m ∧ m ≤ 4 * k ∧ (∃ A2 c2 vs, v = .slice A2 m c2 ∧ OwnSS wr w.heap.size (.slice A2 m c2) vs (clsK xs k)) ∧ Below w.heap.size w wr) (fun _ i _ => n - (intOf i).toNat)
  case atStart => exact ⟨0, 0, Nat.zero_le _, rfl, rfl, Nat.le_refl _, ⟨none, 0, [], rfl, by rw [show clsK xs 0 = [] from rfl]; exact ⟨World.ownsRow_nil _ _ _ _, Inner.nil _ _, fun g _ e => by simp [Value.ownBlock] at e⟩⟩, B1.out⟩
  case round =>
    obtain ⟨k, m, hk, rfl, hm, hmk, ⟨A2, c2, vs, rfl, hown⟩, hbw⟩ := hrel
    have HM := Lib.hid hm
    have O2 := Lib.hid hown
    have B2 := Lib.hid hbw
    clear hm hown hbw
    by_cases hlt : k < n
    · obtain ⟨x, hx⟩ : ∃ x, xs[k]? = some x := ⟨_, List.getElem?_eq_getElem (by have := HX.out; omega)⟩
      obtain ⟨b, off, rfl, hbl, ha⟩ := (hl.out.below B2.out) k x hx
      have hgk := gateB_kind (goodG_at HG.out hx)
      have HA : Hid (0 ≤ x.a ∧ x.a ≤ 1000 ∧ 0 ≤ x.b ∧ x.b ≤ 1000) := Lib.hid (by omega)
      have E2 := Lib.hid (clsK_succ hx)
      have hp4 := oneC_len x ((k : Int) + 1)
      obtain ⟨p, hp⟩ : ∃ p, (oneC x ((k : Int) + 1)).length = p := ⟨_, rfl⟩
      rw [hp] at hp4
      have HP := Lib.hid hp
      clear hx hgk hp
      obtain ⟨e0, e1, e2⟩ := ha
      go_wp2_with (first
        | (go_at_call 97; refine (l8Clauses_any x (k : Int) _ (by have := HA.out; omega) (by have := HA.out; omega) (by omega)).mono ?_; rintro e w3 ⟨A3, c3, vs3, rfl, ho3, hb3⟩; rw [HP.out] at ho3 ⊢; have hb4 := Below.tr (below1 wr _) hb3; have O3 := Lib.hid (ho3.baseG (base' := wr.heap.size) (by simp)); have O4 := Lib.hid (O2.out.below hb4); have B3 := Lib.hid (Below.tr B2.out hb4); have OU : Hid (w3.ownsRow w.heap.size 55 1 (.slice A2 m c2) m vs) := Lib.hid (by have := O4.out.outer; rw [HM.out] at this; exact this); have OP : Hid (w3.ownsRow wr.heap.size 55 1 (.slice A3 p c3) p vs3) := Lib.hid (by have := O3.out.outer; rw [HP.out] at this; exact this); clear ho3 hb3 hb4)
        | (at_builtin; (refine append_rowsN (w1 := w3) (base := w.heap.size) (xs := vs) (vs := vs3) _ _ rfl rfl rfl rfl OU.out (ownG_cells OP.out) O3.out.inner.one (by rw [O3.out.inner.len, HP.out]) (ownG_nil OP.out) (by have := B3.out.size; omega) (by omega) (by omega) ?_; intro A4 c4 w4 ho4 hk4 hat4; have H4 := Lib.hid (OwnSS.app O4.out HM.out O3.out HP.out B2.out.size (fun g h => (O2.out.outer.lt g h).2) (fun g h => (O2.out.inner.lt g h).2) ho4 hk4 hat4); have B4 := Lib.hid (hk4.below B3.out B3.out.size (fun i e => by have := (OU.out.lt i e).1; omega)); clear ho4 hk4 hat4)))
      go_roundw
      case rel => exact ⟨k + 1, m + p, by omega, by go_num, by rw [E2.out, List.length_append, HM.out, HP.out], by omega, ⟨A4, c4, _, rfl, by rw [E2.out]; exact H4.out⟩, B4.out⟩
      case measure => simp [intOf]; omega
    · obtain rfl : k = n := by omega
      have OU : Hid (wr.ownsRow w.heap.size 55 1 (.slice A2 m c2) m vs) := Lib.hid (by have := O2.out.outer; rw [HM.out] at this; exact this)
      have ON : Hid ((wr.alloc (.cells #[.int .i64 k] 3)).ownsRow wr.heap.size 3 1 (.slice (some ⟨wr.heap.size, 0, none⟩) 1 1) 1 [.int .i64 k]) := Lib.hid (own_row wr [(k : Int)] wr.heap.size (Nat.le_refl _) (by simp [maxLen]))
      go_wp2_with (at_builtin; (refine wpList_append_lies _ rfl _ _ 23 rfl w.heap.size 55 iS (.slice none 0 0) 1 24 Try.underlying23 hiS hs0 hs1 hs2 rfl (by omega) _ m _ rfl ((OU.out.alloc _).alloc _) ⟨wr.heap.size + 1, 0, none⟩ 1 1 [.slice (some ⟨wr.heap.size, 0, none⟩) 1 1] rfl rfl (by exact one_newG wr _ _ _) (by intro u hu; rw [List.mem_singleton.1 hu]; rfl) (by omega) (by unfold maxLen; omega) (by omega) (by have := B2.out.size; first | omega | (simp; omega)) (wr.heap.size + 1 + 1) (by first | rfl | simp) ?_; intro g4 cap4 w4 hown4 hg4 hat4 hlt4; have H4 := Lib.hid (OwnSS.grow (o := [(k : Int)]) HM.out O2.out B2.out (below1 wr _) ON.out hown4 hg4 (hat4.imp id (fun e => by rw [e]; simp))); clear hown4 hg4 hat4 hlt4))
      go_ret2
      exact ⟨some ⟨g4, 0, none⟩, cap4, _, by rw [E.out.1, E.out.2, List.length_append, HM.out]; rfl, by rw [E.out.1, List.length_append, HM.out]; exact H4.out.1, H4.out.2⟩
end Go.Proofs.Ytklcfbjaodildaa
