/-
  The drawing of clauses that mostly have no model, and of proofs (the texts Hard and DrawPf in one).
-/
import Derived.Test.YtkkoeeoalkjhoaaDrawFol
import Derived.Test.YtkkoeeoalkjhoaaPf
namespace Go.Proofs.Ytkkoeeoalkjhoaa
open Go.ChangeShapes Go.WideShapes Go.ChangeAt Go.RowKit

/-- it answers clauses of its own, drawn, and how many variables there are -/
def GaveH (c K : Nat) (w : World) (e : Ending) (w' : World) : Prop :=
  ∃ (v : Int) (L : List (List Int)) (A : Option Addr) (cap : Nat) (vs : List Value), e = .returned (.tuple #[.int .i64 v, .slice A L.length cap]) ∧ (0 ≤ v ∧ v ≤ 13) ∧ L.length ≤ 60 ∧ tot L ≤ 200 ∧
    OwnSS w' w.heap.size (.slice A L.length cap) vs L ∧ Cur w' c K ∧ w.grownBy w' (some c)
set_option maxRecDepth 100000 in
set_option maxHeartbeats 16000000 in
theorem hard_any (c K : Nat) (w : World) (h : Hid (Cur w c K)) (hK : K ≤ 600000000) :
    Calls Try.prog 69 #[.pointer (some ⟨c, 0, none⟩)] w (GaveH c (K + 1300) w) := by
  obtain ⟨iS, hiS, hs0, hs1, hs2⟩ := info_parts info_ints
  have hcl : Hid (c < w.heap.size) := Lib.hid h.out.lt
  go_enter Try.func69, Try.ntmps69
  go_wp2_with fail
  refine (clauses_any c K _ h (by omega)).mono ?_
  rintro e w1 ⟨v, L, A, cp, vs, rfl, hv, hL, hT, ho, hc, hg⟩
  have O1 := Lib.hid ho
  have C1 := Lib.hid hc
  have G1 := Lib.hid hg
  have hv1 := hv.1
  have hv2 := hv.2
  clear ho hc hg h hv
  obtain ⟨n, hn⟩ : ∃ n, L.length = n := ⟨_, rfl⟩
  rw [hn] at hL O1 ⊢
  have HX := Lib.hid hn
  clear hn
  by_cases h2 : v < 2
  · have hd : decide (v < 2) = true := by simpa using h2
    go_wp2
    go_ret2
    exact ⟨v, L, A, cp, vs, by rw [HX.out]; rfl, ⟨hv1, hv2⟩, by rw [HX.out]; omega, by omega, by rw [HX.out]; exact O1.out, C1.out.mono (by omega), G1.out⟩
  have hd : decide (v < 2) = false := by simpa using h2
  by_cases h6 : 6 < v
  · have hd6 : decide (v > 6) = true := by simpa using h6
    go_wp2
    go_ret2
    exact ⟨v, L, A, cp, vs, by rw [HX.out]; rfl, ⟨hv1, hv2⟩, by rw [HX.out]; omega, by omega, by rw [HX.out]; exact O1.out, C1.out.mono (by omega), G1.out⟩
  have hd6 : decide (v > 6) = false := by simpa using h6
  go_wp2_with fail
  refine (one_any c _ _ _ C1 (by omega) (by omega) (by omega)).mono ?_
  rintro e w2 ⟨b, rfl, hc2, hg2⟩
  have C2 := Lib.hid hc2
  have O2 := Lib.hid (O1.out.read hg2 hcl.out)
  have G2 := Lib.hid (grownC_trans G1.out hg2)
  clear hc2 hg2 C1 O1 G1
  cases b
  rotate_left
  · go_wp2
    go_ret2
    exact ⟨v, L, A, cp, vs, by rw [HX.out]; rfl, ⟨hv1, hv2⟩, by rw [HX.out]; omega, by omega, by rw [HX.out]; exact O2.out, C2.out.mono (by omega), G2.out⟩
  go_wp2_with fail
  refine (pick_any c _ _ _ C2 (by omega) (by omega) (by omega)).mono ?_
  rintro e w3 ⟨n1, ⟨l1, u1⟩, rfl, hc3, hg3⟩
  have C3 := Lib.hid hc3
  have O3 := Lib.hid (O2.out.read hg3 hcl.out)
  have G3 := Lib.hid (grownC_trans G2.out hg3)
  clear hc3 hg3 C2 O2 G2
  obtain ⟨k1, rfl⟩ : ∃ k : Nat, n1 = k := ⟨n1.toNat, by omega⟩
  go_wp2_with fail
  go_loopw [5, 6] (fun u i wr => ∃ (k p : Nat) (L : List (List Int)), i = .int .i64 k ∧ k ≤ 21 ∧ L.length = p ∧ p + k ≤ 34 ∧ tot L + 2 * k ≤ 142 ∧ (∃ A cp vs, u = .slice A p cp ∧ OwnSS wr w.heap.size (.slice A p cp) vs L) ∧ Cur wr c (K + 1004 + 8 * (21 - k)) ∧ w.grownBy wr (some c)) (fun _ i _ => (intOf i).toNat)
  case atStart => exact ⟨12 + k1, n, L, by first | rfl | (congr 1; omega), by omega, HX.out, by omega, by omega, ⟨A, cp, vs, rfl, O3.out⟩, C3.out.mono (by omega), G3.out⟩
  case round =>
    clear C3 O3 G3 HX hL hT
    obtain ⟨k, p, L, rfl, hk, hp, hpk, htk, ⟨A2, d2, vs, rfl, how⟩, hcw, hgw⟩ := hrel
    have OW := Lib.hid how
    have CW := Lib.hid hcw
    have GW := Lib.hid hgw
    have HP := Lib.hid hp
    have ZW : w.heap.size ≤ wr.heap.size := hgw.size
    clear how hcw hgw hp
    by_cases hk0 : 0 < k
    · have hkd : decide ((k : Int) > 0) = true := by simp; omega
      go_wp2_with fail
      refine (lit_any c _ v _ CW (by omega) (by omega) (by omega)).mono ?_
      rintro e w4 ⟨x, _, rfl, hc4, hg4⟩
      have C4 := Lib.hid hc4
      have O4 := Lib.hid (OW.out.read hg4 hcl.out)
      have G4 := Lib.hid (grownC_trans GW.out hg4)
      have Z4 := hg4.size
      clear hc4 hg4 CW
      go_wp2_with fail
      refine (lit_any c _ v _ C4 (by omega) (by omega) (by omega)).mono ?_
      rintro e w5 ⟨y, _, rfl, hc5, hg5⟩
      have C5 := Lib.hid hc5
      have O5 := Lib.hid (O4.out.read hg5 hcl.out)
      have G5 := Lib.hid (grownC_trans G4.out hg5)
      have Z5 := hg5.size
      clear hc5 hg5 C4 O4 G4
      obtain ⟨r, br, hrb⟩ := opt_any (cleanB [x, y])
      have HR := Lib.hid hrb
      have hrl : r.length ≤ 2 := by have := clean_le hrb; simpa using this
      have HXY : Hid ([x, y].length = 2) := Lib.hid rfl
      have IXY : Hid (ILies (w5.alloc (.cells #[.int .i64 x, .int .i64 y] 3)) (some ⟨w5.heap.size, 0, none⟩) [x, y]) := Lib.hid (own_ilies (own_row w5 [x, y] w5.heap.size (Nat.le_refl _) (by unfold maxLen; simp)))
      have BA := below1 w5 (.cells #[.int .i64 x, .int .i64 y] 3)
      have CA := Lib.hid (C5.out.below BA)
      have OA := Lib.hid (O5.out.below BA)
      have GA := Lib.hid (grownC_trans G5.out (grown_of_below BA))
      clear hrb BA C5 O5 G5
      go_wp2_with fail
      refine (specClean_any _ _ _ [x, y] _ r br HR IXY HXY (by omega)).mono ?_
      rintro e w6 ⟨A6, c6, rfl, ho6, hb6⟩
      have O6 := Lib.hid (own_base (base' := wr.heap.size) ho6 (by simp; omega))
      have C6 := Lib.hid (CA.out.below hb6)
      have OJ6 := Lib.hid (OA.out.below hb6)
      have G6 := Lib.hid (grownC_trans GA.out (grown_of_below hb6))
      have Z6 := hb6.size
      clear ho6 hb6 CA OA GA IXY
      cases br
      · go_wp2
        go_roundw
        case rel => exact ⟨k - 1, p, L, int_cast_sub hk0, by omega, HP.out, by omega, by omega, ⟨A2, d2, vs, rfl, OJ6.out⟩, C6.out.mono (by omega), G6.out⟩
        case measure => simp [intOf]; omega
      · have OU : Hid (w6.ownsRow w.heap.size 40 1 (.slice A2 p d2) p vs) := Lib.hid (by have h := OJ6.out.outer; rw [HP.out] at h; exact h)
        obtain ⟨z, hz⟩ : ∃ z, r.length = z := ⟨_, rfl⟩
        have HZ := Lib.hid hz
        rw [hz] at hrl ⊢
        clear hz
        have h60 : decide ((p : Int) < 60) = true := by simp; omega
        go_wp2_with (at_builtin; (refine wpList_append_lies _ rfl _ _ 23 rfl w.heap.size 40 iS (.slice none 0 0) 1 24 Try.underlying23 hiS hs0 hs1 hs2 rfl (by omega) _ p _ rfl (OU.out.alloc _) ⟨w6.heap.size, 0, none⟩ 1 1 [.slice A6 z c6] rfl rfl (one_new1 w6 _ _) (by intro u hu; rw [List.mem_singleton.1 hu]; rfl) (by omega) (by unfold maxLen; omega) (by omega) (by have := G6.out.size; first | omega | (simp; omega)) (w6.heap.size + 1) (by first | rfl | simp) ?_; intro g7 cap7 w7 hown7 hg7 hat7 hlt7; have H7 := Lib.hid (OwnSS.grow2 (o := r) (c3 := c6) (A3 := A6) (lo := wr.heap.size) HP.out OJ6.out ZW (fun g h => (OW.out.outer.lt g h).2) (fun g h => (OW.out.inner.lt g h).2) O6.out (by rw [HZ.out]; exact hown7) (by rw [HZ.out]; exact hg7) hat7); have C7 := Lib.hid ((C6.out.alloc _).grown hg7 (fun g e => by have := (OU.out.lt g e).1; have := hcl.out; omega)); have G7 := Lib.hid (grown_app G6.out hg7 (fun g e => (OU.out.lt g e).1)); clear hown7 hg7 hat7 hlt7))
        go_roundw
        case rel => exact ⟨k - 1, p + 1, L ++ [r], int_cast_sub hk0, by omega, by rw [List.length_append, HP.out]; rfl, by omega, by have := HZ.out; rw [tot_snoc]; omega, ⟨some ⟨g7, 0, none⟩, cap7, _, rfl, H7.out⟩, C7.out.mono (by omega), G7.out⟩
        case measure => simp [intOf]; omega
    · obtain rfl : k = 0 := by omega
      go_wp2
      go_ret2
      exact ⟨v, L, A2, d2, vs, by rw [HP.out]; rfl, ⟨hv1, hv2⟩, by rw [HP.out]; omega, by omega, by rw [HP.out]; exact OW.out, CW.out.mono (by omega), GW.out⟩

/-- where a slice among these is nil its capacity is 0 -/
def VNil (vs : List Value) : Prop := ∀ (i : Nat) (m c : Nat), vs[i]? = some (.slice none m c) → m = 0 ∧ c = 0
theorem CR.lnil {w : World} {base n c : Nat} {A : Option Addr} {vs : List Value} {L : List (List Int)} (h : CR w base (.slice A n c) vs L) (hv : VNil vs) : LNil w A L := by
  intro i l hl b off a m cc hA hc ha
  have hlt : i < L.length := (List.getElem?_eq_some_iff.1 hl).1
  obtain ⟨a', c', h1, h2, h3, h4, _⟩ := h.rows.2 i l hl
  obtain ⟨g, cap, hvv, _, hg⟩ := h.outer.form (by omega)
  have hA' : A = some ⟨g, 0, none⟩ := by injection hvv
  rw [hA] at hA'
  simp only [Option.some.injEq, Addr.mk.injEq, and_true] at hA'
  obtain ⟨rfl, rfl⟩ := hA'
  subst hA
  have := h.outer.cells (g := b) rfl i _ h1
  rw [add_plain] at this
  rw [this] at hc
  simp only [Option.some.injEq, Value.slice.injEq] at hc
  obtain ⟨rfl, rfl, rfl⟩ := hc
  subst ha
  exact hv i _ _ h1
theorem OwnSS.vnil {w : World} {base : Nat} {v : Value} {vs : List Value} {L : List (List Int)} (h : OwnSS w base v vs L) : VNil vs := by
  intro i m c hi
  have hlt : i < L.length := by rw [← h.inner.len]; exact (List.getElem?_eq_some_iff.1 hi).1
  obtain ⟨a', c', h1, h2⟩ := h.inner.row i _ (List.getElem?_eq_getElem hlt)
  rw [hi] at h1
  simp only [Option.some.injEq, Value.slice.injEq] at h1
  obtain ⟨e1, e2, e3⟩ := h1
  have := own_nilA' h2 e1.symm
  omega
theorem VNil.app {a b : List Value} (ha : VNil a) (hb : VNil b) : VNil (a ++ b) := by
  intro i m c h
  by_cases hi : i < a.length
  · rw [List.getElem?_append_left hi] at h; exact ha i m c h
  · rw [List.getElem?_append_right (by omega)] at h; exact hb _ m c h
theorem VNil.drop {a : List Value} (ha : VNil a) (k : Nat) : VNil (a.drop k) := by
  intro i m c h
  rw [List.getElem?_drop] at h
  exact ha _ m c h
theorem Rows0.drop {w : World} {I0 : Nat → Prop} {vs : List Value} {L : List (List Int)} (h : Rows0 w I0 vs L) (k : Nat) : Rows0 w I0 (vs.drop k) (L.drop k) := by
  refine ⟨by simp [h.1], fun i l hl => ?_⟩
  rw [List.getElem?_drop] at hl
  obtain ⟨a, c, h1, rest⟩ := h.2 _ l hl
  exact ⟨a, c, by rw [List.getElem?_drop]; exact h1, rest⟩
theorem LNil.take {w : World} {A : Option Addr} {L : List (List Int)} (h : LNil w A L) (k : Nat) : LNil w A (L.take k) := by
  intro i l hl b off a m c
  exact h i l (by
    rw [List.getElem?_take] at hl
    split at hl
    · exact hl
    · simp at hl) b off a m c
theorem Rows0.mono {w : World} {I0 I1 : Nat → Prop} {vs : List Value} {L : List (List Int)} (h : Rows0 w I0 vs L) (hi : ∀ g, I0 g → I1 g) : Rows0 w I1 vs L := by
  refine ⟨h.1, fun i l hl => ?_⟩
  obtain ⟨a, c, h1, h2, h3, h4, h5⟩ := h.2 _ l hl
  exact ⟨a, c, h1, h2, h3, h4, fun ad e p => hi _ (h5 ad e p)⟩
/-- as append_rowsN, at a step of a region that draws its order -/
theorem step_rowsN {w1 : World} {base n c m c2 : Nat} {A B : Option Addr} {xs vs : List Value} {ops : Array Oper} {o : Oper} {a : Act} {K : Act → World → Prop} {Q : Exit → Act → World → Prop} {E : Prop} (s x : Operand)
    (hg : o.guard = none) (hop : o.op = Op.call { callee := Callee.builtin Builtin.append, args := #[s, x], argTypes := #[23, 23] })
    (hs : a.eval s = .slice A n c) (hx : a.eval x = .slice B m c2) (ho : w1.ownsRow base 40 1 (.slice A n c) n xs)
    (hc : ∀ ad, B = some ad → ∀ j u, vs[j]? = some u → w1.cell? (ad.add j) = some u) (h1 : ∀ u ∈ vs, u.oneCell' = true) (hm : vs.length = m) (HN : B = none → m = 0 ∧ c2 = 0) (hb : base ≤ w1.heap.size) (hk : n ≤ 10000000) (hmm : m ≤ 10000000)
    (hK : ∀ A2 cc w2, w2.ownsRow base 40 1 (.slice A2 (n + m) cc) (n + m) (xs ++ vs) → Kept w1 w2 (fun g => (Value.slice A n c).ownBlock = some g) → (∀ g, (Value.slice A2 (n + m) cc).ownBlock = some g → (Value.slice A n c).ownBlock = some g ∨ w1.heap.size ≤ g) → K (a.put o.dst (.slice A2 (n + m) cc)) w2) :
    if Region.wanted o (yielded ops a.tmps) = true then Oper.wp Try.prog o a w1 K Q else E := by
  obtain ⟨iS, hiS, hs0, hs1, hs2⟩ := info_parts info_ints
  by_cases hz : m = 0
  · subst hz
    have hg0 : vs = [] := List.eq_nil_of_length_eq_zero hm
    have hsrc : Src Try.prog iS.size 23 (.slice B 0 c2) 0 [] w1 := by
      cases B with
      | none => exact Src.ofNil w1 Try.underlying23 c2
      | some ad => exact Src.ofSlice w1 Try.underlying23 ad 0 c2 [] (by simp) (fun j u h => by simp at h) (fun u h => by simp at h)
    have hrun := run_append_nothing w1 23 23 o.type 40 iS Try.underlying23 hiS A n c (own_cap ho) _ hsrc
    rw [if_pos (by simp [Region.wanted, hg])]
    unfold Oper.wp
    simp [execOp, hop, resolve, invoke, builtin, hs, hx, hrun, Result.andThen]
    have := hK A c w1 (by rw [hg0, List.append_nil]; exact ho) (Kept.refl _ _) (fun g e => .inl (by cases A <;> exact e))
    exact this
  · cases hB : B with
    | none => have := HN hB; omega
    | some ad =>
      refine step_append_lies _ hg _ _ 23 hop base 40 iS (.slice none 0 0) 1 24 Try.underlying23 hiS hs0 hs1 hs2 rfl (by omega) _ n _ hs ho ad m c2 vs (by rw [hx, hB]) (by omega) (hc ad hB) h1 (by omega) (by unfold maxLen; omega) (by omega) hb _ rfl ?_
      intro g' cap' w2 h2 hg2 hat _
      exact hK (some ⟨g', 0, none⟩) cap' w2 h2 (Kept.of_grown hg2 (fun _ e => e)) (fun g e => by
        have e' : g = g' := by simp [Value.ownBlock] at e; exact e.symm
        subst e'
        rcases hat with q | q
        · exact .inl q
        · exact .inr (by omega))
/-- drawn clauses and a drawn proof -/
def GaveP (c : Nat) (w : World) (e : Ending) (w' : World) : Prop :=
  ∃ (v : Int) (L p : List (List Int)) (A B : Option Addr) (c1 c2 : Nat) (vs : List Value), e = .returned (.tuple #[.int .i64 v, .slice A L.length c1, .slice B p.length c2]) ∧ (0 ≤ v ∧ v ≤ 13) ∧ L.length ≤ 60 ∧ tot L ≤ 200 ∧ p.length ≤ 300 ∧ tot p ≤ 3600 ∧
    OwnSS w' w.heap.size (.slice A L.length c1) vs L ∧ LLies w' B p ∧ LNil w' B p ∧ w.grownBy w' (some c)
theorem tot_drop1 (L : List (List Int)) (k : Nat) : tot (L.take k ++ L.drop (k + 1)) ≤ tot L := by
  induction L generalizing k with
  | nil => simp
  | cons a t ih =>
    cases k with
    | zero => simp [tot]
    | succ k =>
      have := ih k
      simp [tot] at this ⊢
      omega
theorem two_nil_lies (w : World) : LLies (((w.alloc (.cells #[.int .i64 1] 3)).alloc (.cells #[] 3)).alloc (.cells #[.slice (some ⟨w.heap.size, 0, none⟩) 1 1, .slice (some ⟨w.heap.size + 1, 0, none⟩) 0 0] 40)) (some ⟨w.heap.size + 2, 0, none⟩) [[1], []] := by
  have h1 : ILies ((w.alloc (.cells #[.int .i64 1] 3)).alloc (.cells #[] 3)) (some ⟨w.heap.size, 0, none⟩) [1] := (own_ilies (sing_own w 1)).below (below1 _ _)
  have h2 : ILies ((w.alloc (.cells #[.int .i64 1] 3)).alloc (.cells #[] 3)) (some ⟨w.heap.size + 1, 0, none⟩) [] := fun i y h => by simp at h
  have := llies_two (n := 1) (m := 0) (c1 := 1) (c2 := 0) h1 h2 rfl rfl (Nat.le_refl _) (Nat.le_refl _) (by omega) (by omega)
  simpa using this
theorem two_nil_lnil (w : World) : LNil (((w.alloc (.cells #[.int .i64 1] 3)).alloc (.cells #[] 3)).alloc (.cells #[.slice (some ⟨w.heap.size, 0, none⟩) 1 1, .slice (some ⟨w.heap.size + 1, 0, none⟩) 0 0] 40)) (some ⟨w.heap.size + 2, 0, none⟩) [[1], []] := by
  intro i l hl b off a m c hA hc ha
  have hi : i < 2 := (List.getElem?_eq_some_iff.1 hl).1
  simp only [Option.some.injEq, Addr.mk.injEq, and_true] at hA
  obtain ⟨rfl, rfl⟩ := hA
  have hb : Blk (((w.alloc (.cells #[.int .i64 1] 3)).alloc (.cells #[] 3)).alloc (.cells #[.slice (some ⟨w.heap.size, 0, none⟩) 1 1, .slice (some ⟨w.heap.size + 1, 0, none⟩) 0 0] 40)) (w.heap.size + 2) 40 [.slice (some ⟨w.heap.size, 0, none⟩) 1 1, .slice (some ⟨w.heap.size + 1, 0, none⟩) 0 0] := by
    have := heap_alloc_new ((w.alloc (.cells #[.int .i64 1] 3)).alloc (.cells #[] 3)) (.cells #[.slice (some ⟨w.heap.size, 0, none⟩) 1 1, .slice (some ⟨w.heap.size + 1, 0, none⟩) 0 0] 40)
    simpa [Blk] using this
  rw [Nat.zero_add, hb.cell i] at hc
  match i, hi with
  | 0, _ => simp at hc; rw [← hc.1] at ha; simp at ha
  | 1, _ => simp at hc; rw [← hc.1] at ha; simp at ha
set_option maxRecDepth 100000 in
set_option maxHeartbeats 16000000 in
theorem proofD_any (c K : Nat) (w : World) (h : Hid (Cur w c K)) (hK : K ≤ 500000000) :
    Calls Try.prog 44 #[.pointer (some ⟨c, 0, none⟩)] w (GaveP c w) := by
  obtain ⟨iS, hiS, hs0, hs1, hs2⟩ := info_parts info_ints
  have hcl : Hid (c < w.heap.size) := Lib.hid h.out.lt
  go_enter Try.func44, Try.ntmps44
  go_wp2_with fail
  refine (hard_any c K _ h (by omega)).mono ?_
  rintro e w1 ⟨v, L, A, cp, vs, rfl, hv, hL, hT, ho, hc, hg⟩
  have O1 := Lib.hid ho
  have C1 := Lib.hid hc
  have G1 := Lib.hid hg
  have LI1 := Lib.hid ho.lies
  have LN1 := Lib.hid ho.lnil
  obtain ⟨R, ok, hpf⟩ := pfR_any v L
  have hR := hpf.small.1
  have hRT := hpf.small.2
  have PR := Lib.hid hpf
  clear ho hc hg hpf h
  obtain ⟨n, hn⟩ : ∃ n, L.length = n := ⟨_, rfl⟩
  rw [hn] at hL O1 ⊢
  have HX := Lib.hid hn
  clear hn
  go_wp2_with fail
  refine (specPf_any v _ _ _ L _ R ok PR LI1 LN1 HX (by omega)).mono ?_
  rintro e w2 ⟨B, c2, ws, rfl, ho2, hb2⟩
  have O2 := Lib.hid (O1.out.below hb2)
  have P2 := Lib.hid ho2
  have C2 := Lib.hid (C1.out.below hb2)
  have G2 := Lib.hid (grownC_trans G1.out (grown_of_below hb2))
  have Z2 := hb2.size
  have Z1 := G1.out.size
  clear hb2 ho2 O1 C1 G1 LI1 LN1
  cases ok
  · have GA := Lib.hid (grownC_trans G2.out (grown_of_below (below3 w2 (.cells #[.int .i64 1] 3) (.cells #[] 3) (.cells #[.slice (some ⟨w2.heap.size, 0, none⟩) 1 1, .slice (some ⟨w2.heap.size + 1, 0, none⟩) 0 0] 40))))
    have OA := Lib.hid (O2.out.below (below3 w2 (.cells #[.int .i64 1] 3) (.cells #[] 3) (.cells #[.slice (some ⟨w2.heap.size, 0, none⟩) 1 1, .slice (some ⟨w2.heap.size + 1, 0, none⟩) 0 0] 40)))
    go_wp2
    go_ret3
    exact ⟨v, L, [[1], []], A, some ⟨w2.heap.size + 2, 0, none⟩, cp, 2, vs, by rw [HX.out]; rfl, hv, by rw [HX.out]; exact hL, hT, by simp, by simp [tot], by rw [HX.out]; exact OA.out, two_nil_lies w2, two_nil_lnil w2, GA.out⟩
  obtain ⟨m, hm⟩ : ∃ m, R.length = m := ⟨_, rfl⟩
  rw [hm] at hR P2 ⊢
  have HM := Lib.hid hm
  clear hm
  by_cases hm1 : m ≤ 1
  · have hgt : decide ((m : Int) > 1) = false := by simp; omega
    go_wp2
    go_ret3
    exact ⟨v, L, R, A, B, cp, c2, vs, by rw [HX.out, HM.out]; rfl, hv, by rw [HX.out]; exact hL, hT, by rw [HM.out]; exact hR, hRT, by rw [HX.out]; exact O2.out, P2.out.lies, P2.out.lnil, G2.out⟩
  have hgt : decide ((m : Int) > 1) = true := by simp; omega
  go_wp2_with fail
  refine (one_any c _ _ _ C2 (by omega) (by omega) (by omega)).mono ?_
  rintro e w3 ⟨b, rfl, hc3, hg3⟩
  have C3 := Lib.hid hc3
  have O3 := Lib.hid (O2.out.read hg3 hcl.out)
  have P3 := Lib.hid (P2.out.read hg3 (by have := hcl.out; omega))
  have G3 := Lib.hid (grownC_trans G2.out hg3)
  clear hc3 hg3 C2 O2 P2 G2
  cases b
  · go_wp2
    go_ret3
    exact ⟨v, L, R, A, B, cp, c2, vs, by rw [HX.out, HM.out]; rfl, hv, by rw [HX.out]; exact hL, hT, by rw [HM.out]; exact hR, hRT, by rw [HX.out]; exact O3.out, P3.out.lies, P3.out.lnil, G3.out⟩
  go_wp2_with fail
  refine (pick_any c _ _ _ C3 (by omega) (by omega) (by omega)).mono ?_
  rintro e w4 ⟨n1, ⟨l1, u1⟩, rfl, hc4, hg4⟩
  have O4 := Lib.hid (O3.out.read hg4 hcl.out)
  have P4 := Lib.hid (P3.out.read hg4 (by have := hcl.out; omega))
  have G4 := Lib.hid (grownC_trans G3.out hg4)
  have Z4 := hg4.size
  clear hc4 hg4 C3 O3 P3 G3
  obtain ⟨k, rfl⟩ : ∃ k : Nat, n1 = k := ⟨n1.toNat, by omega⟩
  have hkm : k < m := by omega
  clear l1 u1
  obtain ⟨g, cpx, hv9, hbg9, hgl9⟩ := P4.out.outer.form (by have := HM.out; omega)
  have hB : B = some ⟨g, 0, none⟩ := by injection hv9
  have hcap : m ≤ c2 := by have := own_cap (n := m) (by have := P4.out.outer; rw [HM.out] at this; exact this); exact this
  clear hv9
  subst hB
  have hk1 : (k : Int) + 1 ≤ (m : Int) := by omega
  have hkc : k ≤ c2 := by omega
  have hkc1 : k + 1 ≤ c2 := by omega
  have hwr : IntKind.i64.wrap ((k : Int) + 1) = (k : Int) + 1 := IntWalk.i64_in _ (by omega)
  have hkt : ((k : Int) + 1).toNat = k + 1 := by omega
  obtain ⟨AQ, hAQ⟩ : ∃ x, (if c2 = k + 1 then some (⟨g, 0, none⟩ : Addr) else some ⟨g, k + 1, none⟩) = x := ⟨_, rfl⟩
  have hdrew : Below w4.heap.size w4 w4.drew := (Below.refl _ _).drew
  have PD := Lib.hid (P4.out.below hdrew)
  have OD := Lib.hid (O4.out.below hdrew)
  have GD := Lib.hid (grownC_trans G4.out (grown_of_below hdrew))
  have LT := Lib.hid (PD.out.lies.take k)
  have NT := Lib.hid (PD.out.lnil.take k)
  have HK : Hid ((R.take k).length = k) := Lib.hid (by rw [List.length_take, HM.out]; omega)
  have HT : Hid (tot (R.take k) ≤ 1048576) := Lib.hid (by have := tot_take R k; omega)
  clear hdrew O4 P4 G4
  go_wp2_with fail
  refine wp_region_held_drew (S := fun _ => True) (by kernel_rfl) ?_ (fun hHeld => ?_)
  · exact trivial
  refine wpAnyH_take (i := 0) (v := ?_) rfl (by kernel_rfl) (by kernel_rfl) (by kernel_rfl) (fun _ _ _ h => h) (Or.inl ⟨by rfl, ?_⟩) (by assumption) ?_
  rotate_left
  · intro W hSw
    try dsimp only at hSw
    go_simp
    try with_reducible rfl
  simp only [Act.put, List.setIfInBounds_toArray]
  refine wpAnyH_take (i := 1) (v := ?_) rfl (by kernel_rfl) (by kernel_rfl) (by kernel_rfl) (fun _ _ _ h => h) (Or.inl ⟨by rfl, ?_⟩) (by assumption) ?_
  rotate_left
  · intro W hSw
    try dsimp only at hSw
    go_simp
    try with_reducible rfl
  simp only [Act.put]
  refine wpAnyH_take (i := 2) (v := ?_) rfl (by kernel_rfl) (by kernel_rfl) (by kernel_rfl) (fun _ _ _ h => h) (Or.inl ⟨by rfl, ?_⟩) (by assumption) ?_
  rotate_left
  · intro W hSw
    try dsimp only at hSw
    go_simp
    try with_reducible rfl
  simp only [Act.put]
  refine wpAnyH_take (i := 4) (v := ?_) rfl (by kernel_rfl) (by kernel_rfl) (by kernel_rfl) (fun _ _ _ h => h) (Or.inl ⟨by rfl, ?_⟩) (by assumption) ?_
  rotate_left
  · intro W hSw
    try dsimp only at hSw
    go_simp
    try with_reducible rfl
  simp only [Act.put]
  refine wpAnyH_take (i := 5) (v := ?_) rfl (by kernel_rfl) (by kernel_rfl) (by kernel_rfl) (fun _ _ _ h => h) (Or.inl ⟨by rfl, ?_⟩) (by assumption) ?_
  rotate_left
  · intro W hSw
    try dsimp only at hSw
    go_simp
    try with_reducible rfl
  simp only [Act.put]
  refine wpAnyH_take (i := 6) (v := ?_) rfl (by kernel_rfl) (by kernel_rfl) (by kernel_rfl) (fun _ _ _ h => h) (Or.inl ⟨by rfl, ?_⟩) (by assumption) ?_
  rotate_left
  · intro W hSw
    try dsimp only at hSw
    go_simp
    try with_reducible rfl
  simp only [Act.put]
  refine wpAnyH_take (i := 7) (v := .slice AQ (m - (k + 1)) (c2 - (k + 1))) rfl (by kernel_rfl) (by kernel_rfl) (by kernel_rfl) (fun _ _ _ h => h) (Or.inl ⟨by rfl, ?_⟩) (by assumption) ?_
  · intro W hSw
    try dsimp only at hSw
    go_simp
    intro hbad
    exfalso
    omega
  simp only [Act.put]
  refine wpAnyH_ready (rs := [3]) (by kernel_rfl) (by simp) ?_
  refine AllReadyH.cons rfl (fun K hK => ?_) AllReadyH.nil
  go_simp
  refine (l5Copy_any _ _ _ (R.take k) _ LT NT HK (by omega) HT).mono ?_
  rintro e w5 ⟨A5, c5, vs5, rfl, ho5, hb5⟩
  rw [HK.out] at ho5 ⊢
  have CR5 := Lib.hid ho5.cr
  have VN5 := Lib.hid ho5.vnil
  have OU5 : Hid (w5.ownsRow w4.heap.size 40 1 (.slice A5 k c5) k vs5) := Lib.hid (by have := ho5.outer; rw [HK.out] at this; exact this)
  have P5 := Lib.hid (PD.out.below hb5)
  have RW5 : Hid (Rows0 w5 (fun g => g < w4.heap.size) (ws.drop (k + 1)) (R.drop (k + 1))) := Lib.hid (((PD.out.cr.rows.mono (fun g h => h.1)).kept (.of_below (S := fun _ => False) hb5) (fun _ _ q => q)).drop (k + 1))
  have O5 := Lib.hid (OD.out.below hb5)
  have G5 := Lib.hid (grownC_trans GD.out (grown_of_below hb5))
  have Z5 : w4.heap.size ≤ w5.heap.size := hb5.size
  have WL : Hid (ws.length = m) := Lib.hid (by rw [PD.out.inner.len, HM.out])
  have CE : Hid (∀ ad, AQ = some ad → ∀ j u, (ws.drop (k + 1))[j]? = some u → w5.cell? (ad.add j) = some u) := Lib.hid (by
    intro ad e j u hu
    rw [List.getElem?_drop] at hu
    have hlt := (List.getElem?_eq_some_iff.1 hu).1
    rw [WL.out] at hlt
    rw [if_neg (by omega)] at hAQ
    rw [← hAQ] at e
    obtain rfl := Option.some.inj e
    have := P5.out.outer.cells (g := g) rfl _ _ hu
    rw [add_plain] at this ⊢
    simpa using this)
  have ONE : Hid (∀ u ∈ ws.drop (k + 1), u.oneCell' = true) := Lib.hid (by
    intro u hu
    obtain ⟨i, hi, rfl⟩ := List.mem_iff_getElem.1 hu
    have hi2 : i < (R.drop (k + 1)).length := by rw [← RW5.out.1]; exact hi
    obtain ⟨a, cc, h1, _⟩ := RW5.out.2 i _ (List.getElem?_eq_getElem hi2)
    rw [List.getElem?_eq_getElem hi] at h1
    rw [Option.some.inj h1]
    rfl)
  have VL : Hid ((ws.drop (k + 1)).length = m - (k + 1)) := Lib.hid (by rw [List.length_drop, WL.out])
  have NQ : Hid (AQ = none → m - (k + 1) = 0 ∧ c2 - (k + 1) = 0) := Lib.hid (by
    intro e
    rw [e] at hAQ
    split at hAQ <;> simp at hAQ)
  refine hK.out _ _ trivial (fun hHeld2 => ?_)
  clear hK K ho5 hb5
  try simp only [Act.put, List.setIfInBounds_toArray, List.set_cons_zero, List.set_cons_succ]
  refine wpAnyH_ready (rs := [8]) (by kernel_rfl) (by simp) ?_
  refine AllReadyH.cons rfl (fun K hK => ?_) AllReadyH.nil
  refine step_rowsN (w1 := w5) (base := w4.heap.size) (A := A5) (B := AQ) (n := k) (m := m - (k + 1)) (c := c5) (c2 := c2 - (k + 1)) (xs := vs5) (vs := ws.drop (k + 1)) _ _ rfl rfl rfl rfl OU5.out CE.out ONE.out VL.out NQ.out Z5 (by omega) (by omega) ?_
  intro A6 c6 w6 ho6 hk6 hat6
  have CR6 := Lib.hid (CR5.out.append HK.out (L2 := R.drop (k + 1)) (by rw [List.length_drop, HM.out]) RW5.out (Nat.le_refl _) Z5 ho6 hk6 hat6)
  have O6 := Lib.hid (O5.out.kept hk6 (fun g h e => by have := (OU5.out.lt g e).1; have := (OD.out.outer.lt g h).2; simp at this; omega) (fun g h e => by have := (OU5.out.lt g e).1; have := (OD.out.inner.lt g h).2; simp at this; omega))
  have G6 : Hid (w.grownBy w6 (some c)) := Lib.hid ⟨hk6.os.trans G5.out.os, hk6.tape.trans G5.out.tape, hk6.output.trans G5.out.output, Nat.le_trans G5.out.size hk6.size, fun i hi hne => (hk6.block i (Nat.lt_of_lt_of_le hi G5.out.size) (fun e => by have := (OU5.out.lt i e).1; omega)).trans (G5.out.block i hi hne)⟩
  have VN6 := Lib.hid (VN5.out.app (PD.out.vnil.drop (k + 1)))
  have HL6 : Hid ((R.take k ++ R.drop (k + 1)).length = k + (m - (k + 1))) := Lib.hid (by rw [List.length_append, HK.out, List.length_drop, HM.out])
  refine hK.out _ _ trivial (fun hHeld3 => ?_)
  clear hK K ho6 hk6 hat6
  try simp only [Act.put, List.setIfInBounds_toArray]
  refine wpAnyH_take (i := 9) (v := ?_) rfl (by kernel_rfl) (by kernel_rfl) (by kernel_rfl) (fun _ _ _ h => h) (Or.inl ⟨by rfl, ?_⟩) (by assumption) ?_
  rotate_left
  · intro W hSw
    try dsimp only at hSw
    go_simp
    try with_reducible rfl
  simp only [Act.put]
  refine wpAnyH_done (by kernel_rfl) ?_ _
  go_wp2
  go_ret3
  exact ⟨v, L, R.take k ++ R.drop (k + 1), A, A6, cp, c6, vs, by rw [HX.out, HL6.out]; rfl, hv, by rw [HX.out]; exact hL, hT, by rw [HL6.out]; omega, by have := tot_drop1 R k; omega, by rw [HX.out]; exact O6.out, CR6.out.lies, CR6.out.lnil VN6.out, G6.out⟩
/-- drawn clauses, of one's own -/
def DrewHd (w : World) (e : Ending) (w' : World) : Prop :=
  ∃ (v : Int) (L : List (List Int)) (A : Option Addr) (c1 : Nat) (vs : List Value), e = .returned (.tuple #[.int .i64 v, .slice A L.length c1]) ∧ (0 ≤ v ∧ v ≤ 13) ∧ L.length ≤ 60 ∧ tot L ≤ 200 ∧ OwnSS w' w.heap.size (.slice A L.length c1) vs L ∧ Below w.heap.size w w'
set_option maxRecDepth 100000 in
set_option maxHeartbeats 1000000 in
theorem drawProofOf_any (a0 : Option Addr) (len cap : Nat) (w : World) (h : Hid (Bytes w a0 len)) :
    Calls Try.prog 55 #[.slice a0 len cap] w (DrewHd w) := by
  go_enter Try.func55, Try.ntmps55
  go_wp2_with fail
  refine (hard_any w.heap.size 0 _ (Cur.new h.out) (by omega)).mono ?_
  rintro e w1 ⟨v, L, A, cp, vs, rfl, hv, hL, hT, ho, hc, hg⟩
  have O1 := Lib.hid ho
  have B1 := Lib.hid (below_new hg)
  clear ho hc hg
  go_wp2
  go_ret2
  exact ⟨v, L, A, cp, vs, rfl, hv, hL, hT, ⟨own_base O1.out.outer (by simp), O1.out.inner.base (by simp), O1.out.off⟩, B1.out⟩
set_option maxRecDepth 100000 in
set_option maxHeartbeats 1000000 in
theorem drawRefuteBy_any (a0 : Option Addr) (len cap : Nat) (w : World) (h : Hid (Bytes w a0 len)) :
    Calls Try.prog 16 #[.slice a0 len cap] w (DrewHd w) := by
  go_enter Try.func16, Try.ntmps16
  go_wp2_with fail
  refine (drawProofOf_any a0 len cap w h).mono ?_
  rintro e w1 ⟨v, L, A, c1, vs, rfl, hz⟩
  have Z := Lib.hid hz
  clear hz
  go_wp2
  go_ret2
  exact ⟨v, L, A, c1, vs, rfl, Z.out⟩
/-- drawn clauses and a drawn proof -/
def DrewPf (w : World) (e : Ending) (w' : World) : Prop :=
  ∃ (v : Int) (L p : List (List Int)) (A B : Option Addr) (c1 c2 : Nat) (vs : List Value), e = .returned (.tuple #[.int .i64 v, .slice A L.length c1, .slice B p.length c2]) ∧ (0 ≤ v ∧ v ≤ 13) ∧ L.length ≤ 60 ∧ tot L ≤ 200 ∧ p.length ≤ 300 ∧ tot p ≤ 3600 ∧
    OwnSS w' w.heap.size (.slice A L.length c1) vs L ∧ LLies w' B p ∧ LNil w' B p ∧ Below w.heap.size w w'
set_option maxRecDepth 100000 in
set_option maxHeartbeats 1000000 in
theorem drawCheck_any (a0 : Option Addr) (len cap : Nat) (w : World) (h : Hid (Bytes w a0 len)) :
    Calls Try.prog 12 #[.slice a0 len cap] w (DrewPf w) := by
  go_enter Try.func12, Try.ntmps12
  go_wp2_with fail
  refine (proofD_any w.heap.size 0 _ (Cur.new h.out) (by omega)).mono ?_
  rintro e w1 ⟨v, L, p, A, B, c1, c2, vs, rfl, hv, hL, hT, hp, hpt, ho, hl, hn, hg⟩
  have O1 := Lib.hid ho
  have P1 := Lib.hid hl
  have N1 := Lib.hid hn
  have B1 := Lib.hid (below_new hg)
  clear ho hl hn hg
  go_wp2
  go_ret3
  exact ⟨v, L, p, A, B, c1, c2, vs, rfl, hv, hL, hT, hp, hpt, ⟨own_base O1.out.outer (by simp), O1.out.inner.base (by simp), O1.out.off⟩, P1.out, N1.out, B1.out⟩
set_option maxRecDepth 100000 in
set_option maxHeartbeats 1000000 in
theorem drawTrim_any (a0 : Option Addr) (len cap : Nat) (w : World) (h : Hid (Bytes w a0 len)) :
    Calls Try.prog 24 #[.slice a0 len cap] w (DrewPf w) := by
  go_enter Try.func24, Try.ntmps24
  go_wp2_with fail
  refine (drawCheck_any a0 len cap w h).mono ?_
  rintro e w1 ⟨v, L, p, A, B, c1, c2, vs, rfl, hz⟩
  have Z := Lib.hid hz
  clear hz
  go_wp2
  go_ret3
  exact ⟨v, L, p, A, B, c1, c2, vs, rfl, Z.out⟩
set_option maxRecDepth 100000 in
set_option maxHeartbeats 1000000 in
theorem drawIsAt_any (a0 : Option Addr) (len cap : Nat) (w : World) (h : Hid (Bytes w a0 len)) :
    Calls Try.prog 31 #[.slice a0 len cap] w (DrewF w) := by
  go_enter Try.func31, Try.ntmps31
  go_wp2_with fail
  refine (drawFol_any a0 len cap w h).mono ?_
  rintro e w1 ⟨v, L, c, A, B, c1, c2, m, vs, rfl, hz⟩
  have Z := Lib.hid hz
  clear hz
  go_wp2
  go_ret3
  exact ⟨v, L, c, A, B, c1, c2, m, vs, rfl, Z.out⟩
end Go.Proofs.Ytkkoeeoalkjhoaa
