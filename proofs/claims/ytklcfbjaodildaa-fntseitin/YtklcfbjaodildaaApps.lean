/-
  Appends of slices onto rows of one's own; copies of lists of lists: slices.Clone, the model's l5Copy.
-/
import Derived.Test.YtklcfbjaodildaaRoles
import Derived.Test.YtklcfbjaodildaaReduce2
import Derived.Lib.SliceRun
namespace Go.Proofs.Ytklcfbjaodildaa
open Go.ChangeShapes Go.WideShapes Go.ChangeAt Go.RowKit

/-- an append of a slice of ints, nil and empty let in, onto a row of one's own -/
theorem append_ints {w1 : World} {base g k cap m c2 : Nat} {B : Option Addr} {xs l : List Int} {ops : Array Oper} {rest : List Oper} {o : Oper} {a : Act} {Q : Exit → Act → World → Prop} (s x : Operand)
    (hg : o.guard = none) (hop : o.op = Op.call { callee := Callee.builtin Builtin.append, args := #[s, x], argTypes := #[55, 55] })
    (hs : a.eval s = .slice (some ⟨g, 0, none⟩) k cap) (hx : a.eval x = .slice B m c2) (ho : w1.ownsRow base 3 1 (.slice (some ⟨g, 0, none⟩) k cap) k (xs.map (Value.int .i64)))
    (hl : ILies w1 B l) (hm : l.length = m) (HN : B = none → m = 0 ∧ c2 = 0) (hb : base ≤ w1.heap.size) (hk : k ≤ 10000000) (hmm : m ≤ 10000000)
    (hK : ∀ g' cc w2, w2.ownsRow base 3 1 (.slice (some ⟨g', 0, none⟩) (k + m) cc) (k + m) ((xs ++ l).map (Value.int .i64)) → w1.grownBy w2 (some g) → (g' = g ∨ g' = w1.heap.size) → wpList Try.prog ops Q rest (a.put o.dst (.slice (some ⟨g', 0, none⟩) (k + m) cc)) w2) : wpList Try.prog ops Q (o :: rest) a w1 := by
  obtain ⟨i0, hi0, hz0, hz1, hz2⟩ := info_parts info_int
  by_cases hz : m = 0
  · subst hz
    have hg0 : l = [] := List.eq_nil_of_length_eq_zero hm
    refine wpList_append_fits_any _ hg _ _ 55 hop base 3 i0 1 Try.underlying55 hi0 hz1 g k cap _ hs ho B 0 c2 [] hx rfl (fun e => HN e) (fun ad _ j u hu => by simp at hu) (fun u hu => by simp at hu) (by have := own_cap ho; omega) ?_
    intro w2 h2 hg2
    exact hK _ _ w2 (by rw [hg0]; simpa using h2) hg2 (.inl rfl)
  · obtain ⟨y, hy⟩ : ∃ y, l[0]? = some y := ⟨_, List.getElem?_eq_getElem (by omega)⟩
    obtain ⟨b1, off1, hB, _, _⟩ := hl 0 y hy
    refine wpList_append_lies _ hg _ _ 55 hop base 3 i0 (.int .i64 0) 1 8 Try.underlying55 hi0 hz0 hz1 hz2 rfl (by omega) _ k _ hs ho ⟨b1, off1, none⟩ m c2 (l.map (Value.int .i64)) (by rw [hx, hB]) (by simp [hm]) (ilies_cells hl _ hB) (ints_oneCell _ _) (by omega) (by unfold maxLen; omega) (by omega) hb _ rfl ?_
    intro g' cap' w2 h2 hg2 hat _
    exact hK g' cap' w2 (by rw [List.map_append]; exact h2) hg2 (hat.elim (fun e => .inl (by simp [Value.ownBlock] at e; exact e.symm)) .inr)
/-- an append of a slice of slices, nil and empty let in, onto a row of one's own -/
theorem append_rows {w1 : World} {base g k cap m c2 : Nat} {B : Option Addr} {xs vs : List Value} {ops : Array Oper} {rest : List Oper} {o : Oper} {a : Act} {Q : Exit → Act → World → Prop} (s x : Operand)
    (hg : o.guard = none) (hop : o.op = Op.call { callee := Callee.builtin Builtin.append, args := #[s, x], argTypes := #[23, 23] })
    (hs : a.eval s = .slice (some ⟨g, 0, none⟩) k cap) (hx : a.eval x = .slice B m c2) (ho : w1.ownsRow base 55 1 (.slice (some ⟨g, 0, none⟩) k cap) k xs)
    (hc : ∀ ad, B = some ad → ∀ j u, vs[j]? = some u → w1.cell? (ad.add j) = some u) (h1 : ∀ u ∈ vs, u.oneCell' = true) (hm : vs.length = m) (HN : B = none → m = 0 ∧ c2 = 0) (hb : base ≤ w1.heap.size) (hk : k ≤ 10000000) (hmm : m ≤ 10000000)
    (hK : ∀ g' cc w2, w2.ownsRow base 55 1 (.slice (some ⟨g', 0, none⟩) (k + m) cc) (k + m) (xs ++ vs) → w1.grownBy w2 (some g) → (g' = g ∨ g' = w1.heap.size) → wpList Try.prog ops Q rest (a.put o.dst (.slice (some ⟨g', 0, none⟩) (k + m) cc)) w2) : wpList Try.prog ops Q (o :: rest) a w1 := by
  obtain ⟨iS, hiS, hs0, hs1, hs2⟩ := info_parts info_ints
  by_cases hz : m = 0
  · subst hz
    have hg0 : vs = [] := List.eq_nil_of_length_eq_zero hm
    refine wpList_append_fits_any _ hg _ _ 23 hop base 55 iS 1 Try.underlying23 hiS hs1 g k cap _ hs ho B 0 c2 [] hx rfl (fun e => HN e) (fun ad _ j u hu => by simp at hu) (fun u hu => by simp at hu) (by have := own_cap ho; omega) ?_
    intro w2 h2 hg2
    exact hK _ _ w2 (by rw [hg0]; simpa using h2) hg2 (.inl rfl)
  · cases hB : B with
    | none => have := HN hB; omega
    | some ad =>
      refine wpList_append_lies _ hg _ _ 23 hop base 55 iS (.slice none 0 0) 1 24 Try.underlying23 hiS hs0 hs1 hs2 rfl (by omega) _ k _ hs ho ad m c2 vs (by rw [hx, hB]) (by omega) (hc ad hB) h1 (by omega) (by unfold maxLen; omega) (by omega) hb _ rfl ?_
      intro g' cap' w2 h2 hg2 hat _
      exact hK g' cap' w2 h2 hg2 (hat.elim (fun e => .inl (by simp [Value.ownBlock] at e; exact e.symm)) .inr)
/-- the cells of a slice of slices -/
theorem LLies.vals {w : World} {A : Option Addr} {L : List (List Int)} (h : LLies w A L) : ∃ vs, Rows0 w (fun g => g < w.heap.size) vs L ∧ (∀ ad, A = some ad → ∀ j u, vs[j]? = some u → w.cell? (ad.add j) = some u) ∧ ∀ u ∈ vs, u.oneCell' = true := by
  have hy : ∀ i, ∃ y : Option Addr × Nat, ∀ l, L[i]? = some l → (∀ ad, A = some ad → w.cell? (ad.add i) = some (.slice y.1 l.length y.2)) ∧ l.length ≤ y.2 ∧ l.length ≤ 9223372036854775807 ∧ ILies w y.1 l := by
    intro i
    cases hl : L[i]? with
    | none => exact ⟨(none, 0), fun l q => by simp at q⟩
    | some l =>
      obtain ⟨b, off, a, c, hA, hb, hc, h1, h2, h3⟩ := h i l hl
      refine ⟨(a, c), fun l' q => ?_⟩
      simp at q
      subst q
      refine ⟨fun ad e => ?_, h1, h2, h3⟩
      rw [hA] at e
      obtain rfl := Option.some.inj e
      rw [add_plain]
      exact hc
  obtain ⟨Y, hY⟩ := Classical.axiomOfChoice hy
  have at_ : ∀ i l, L[i]? = some l → ((List.range L.length).map fun i => Value.slice (Y i).1 (L[i]?.getD []).length (Y i).2)[i]? = some (Value.slice (Y i).1 l.length (Y i).2) := by
    intro i l hl
    have hlt : i < L.length := (List.getElem?_eq_some_iff.1 hl).1
    rw [List.getElem?_map, List.getElem?_range hlt]
    simp [hl]
  refine ⟨(List.range L.length).map fun i => Value.slice (Y i).1 (L[i]?.getD []).length (Y i).2, ⟨by simp, fun i l hl => ?_⟩, fun ad e j u hu => ?_, fun u hu => ?_⟩
  · obtain ⟨q1, q2, q3, q4⟩ := hY i l hl
    refine ⟨(Y i).1, (Y i).2, at_ i l hl, q2, q3, q4, fun ad e hp => ?_⟩
    obtain ⟨b, off, hA, hb, _⟩ := q4 0 _ (List.getElem?_eq_getElem hp)
    rw [hA] at e
    obtain rfl := Option.some.inj e
    exact hb
  · have hlt : j < L.length := by have := (List.getElem?_eq_some_iff.1 hu).1; simpa using this
    have hl := List.getElem?_eq_getElem hlt
    rw [at_ j _ hl] at hu
    obtain rfl := Option.some.inj hu
    exact (hY j _ hl).1 ad e
  · obtain ⟨i, _, rfl⟩ := List.mem_map.1 hu
    rfl
set_option maxRecDepth 100000 in
set_option maxHeartbeats 2000000 in
theorem clone_any (A : Option Addr) (n cap : Nat) (L : List (List Int)) (w : World) (hl : Hid (LLies w A L)) (HX : Hid (L.length = n)) (HN : Hid (A = none → n = 0 ∧ cap = 0)) (hn : n ≤ 1048576) :
    Calls Try.prog 112 #[.slice A n cap] w fun e w' => ∃ A2 c2 vs, e = .returned (.slice A2 n c2) ∧ w'.ownsRow w.heap.size 55 1 (.slice A2 n c2) n vs ∧ Rows0 w' (fun g => g < w.heap.size) vs L ∧ Below w.heap.size w w' := by
  cases hA : A with
  | none =>
    obtain ⟨h0, h1⟩ := HN.out hA
    subst h0 h1 hA
    have HL : Hid (L = []) := Lib.hid (List.eq_nil_of_length_eq_zero HX.out)
    have hq : ∀ W : World, (binOp .eql 23 (.slice none 0 0) (.slice none 0 0)).run Try.prog W = .ok (.bool true) W := fun W => Lib.run_eql_slice_nil W 23 55 none 0 0 0 0 Try.underlying23
    go_enter Try.func112, Try.ntmps112
    go_wp2
    go_ret
    exact ⟨none, 0, rfl, [], World.ownsRow_nil _ _ _ _, by rw [HL.out]; exact ⟨rfl, fun i l hl => by simp at hl⟩, Below.refl _ _⟩
  | some ad =>
    subst hA
    obtain ⟨vs, hv1, hv2, hv3⟩ := hl.out.vals
    have V1 := Lib.hid hv1
    have V2 := Lib.hid (hv2 ad rfl)
    have V3 := Lib.hid hv3
    have VL : Hid (vs.length = n) := Lib.hid (by rw [hv1.1]; exact HX.out)
    clear hv1 hv2 hv3
    have hq : ∀ W : World, (binOp .eql 23 (.slice (some ad) n cap) (.slice none 0 0)).run Try.prog W = .ok (.bool false) W := fun W => Lib.run_eql_slice_nil W 23 55 (some ad) n cap 0 0 Try.underlying23
    go_enter Try.func112, Try.ntmps112
    go_wp2_with (at_builtin; (refine append_rows (w1 := w.alloc (.cells #[] 55)) (base := w.heap.size) (xs := []) (vs := vs) _ _ rfl rfl rfl rfl (World.ownsRow_lit w #[] 0 (Nat.le_refl _) (by unfold maxLen; omega) rfl) (fun ad' e j u hu => by cases e; exact ((below1 w _).cell (World.block_lt_of_cell? w _ (V2.out j u hu))).trans (V2.out j u hu)) V3.out VL.out (fun e => by cases e) (by simp) (by omega) (by omega) ?_; intro g2 c2 w2 ho2 hg2 hat2; have OW := Lib.hid ho2; have BW := Lib.hid ((below1 w _).grown hg2 (by simp) (fun g e => by cases e; exact Nat.le_refl _)); clear ho2 hg2 hat2))
    go_ret
    have OW2 : w2.ownsRow w.heap.size 55 1 (.slice (some ⟨g2, 0, none⟩) n c2) n vs := by simpa using OW.out
    refine ⟨some ⟨g2, 0, none⟩, c2, vs, rfl, OW2, ?_, BW.out⟩
    exact V1.out.kept (.of_below (S := fun _ => False) BW.out) (fun _ _ q => q)

theorem own_nilA' {w : World} {base n c : Nat} {t : TypeId} {A : Option Addr} {xs : List Value} (h : w.ownsRow base t 1 (.slice A n c) n xs) (hA : A = none) : n = 0 ∧ c = 0 := by
  rcases h.2 with ⟨h', h0⟩ | ⟨g, cap, cur, h', _⟩
  · simp only [Value.slice.injEq] at h'; omega
  · simp only [Value.slice.injEq] at h'; rw [hA] at h'; simp at h'
/-- where an inner slice is nil its capacity is 0 -/
def LNil (w : World) (A : Option Addr) (L : List (List Int)) : Prop :=
  ∀ i l, L[i]? = some l → ∀ b off a m c, A = some ⟨b, off, none⟩ → w.cell? ⟨b, off + i, none⟩ = some (.slice a m c) → a = none → m = 0 ∧ c = 0
theorem LNil.below {w w' : World} {A : Option Addr} {L : List (List Int)} (h : LNil w A L) (hl : LLies w A L) (hb : Below w.heap.size w w') : LNil w' A L := by
  intro i l hi b off a m c hA hc ha
  obtain ⟨b', off', a', c', hA', hlt, hc', _⟩ := hl i l hi
  rw [hA] at hA'
  simp only [Option.some.injEq, Addr.mk.injEq, and_true] at hA'
  obtain ⟨rfl, rfl⟩ := hA'
  exact h i l hi b off a m c hA (by rw [← (bcell hb).1 b _ hlt]; exact hc) ha
theorem OwnSS.lnil {w : World} {base n c : Nat} {A : Option Addr} {vs : List Value} {L : List (List Int)} (h : OwnSS w base (.slice A n c) vs L) : LNil w A L := by
  intro i l hl b off a m cc hA hc ha
  have hlt : i < L.length := (List.getElem?_eq_some_iff.1 hl).1
  obtain ⟨a', c', h1, h2⟩ := h.inner.row i l hl
  obtain ⟨g, cap, hv, _, hg⟩ := h.outer.form (by omega)
  have hA' : A = some ⟨g, 0, none⟩ := by injection hv
  rw [hA] at hA'
  simp only [Option.some.injEq, Addr.mk.injEq, and_true] at hA'
  obtain ⟨rfl, rfl⟩ := hA'
  subst hA
  have := h.outer.cells (g := b) rfl i _ h1
  rw [add_plain] at this
  rw [this] at hc
  simp only [Option.some.injEq, Value.slice.injEq] at hc
  obtain ⟨rfl, rfl, rfl⟩ := hc
  exact own_nilA' h2 ha
end Go.Proofs.Ytklcfbjaodildaa
