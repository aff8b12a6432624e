/-
  Slices of slices of ints: reading, owning; the laws' own copies, sizes, comparisons, marks; arguments.
-/
import Derived.Test.YtilnegmjnbffhaaKept
namespace Go.Proofs.Ytilnegmjnbffhaa
open Go.ChangeShapes Go.WideShapes Go.ChangeAt Go.RowKit

/-- how many numbers there are -/
def tot (L : List (List Int)) : Nat := (L.map List.length).sum
theorem tot_at {L : List (List Int)} {k : Nat} {l : List Int} (h : L[k]? = some l) : tot (L.take (k + 1)) = tot (L.take k) + l.length := by
  have h1 := (List.getElem?_eq_some_iff.1 h).1
  have h2 := (List.getElem?_eq_some_iff.1 h).2
  unfold tot
  rw [List.take_succ_eq_append_getElem h1, h2]
  simp
theorem tot_take (L : List (List Int)) (k : Nat) : tot (L.take k) ≤ tot L := by
  have : tot L = tot (L.take k) + tot (L.drop k) := by unfold tot; rw [← List.sum_append_nat, ← List.map_append, List.take_append_drop]
  omega
theorem tot_mem {L : List (List Int)} {k : Nat} {l : List Int} (h : L[k]? = some l) : l.length ≤ tot L := by
  have h1 := tot_at h
  have h2 := tot_take L (k + 1)
  omega
theorem tot_nil (L : List (List Int)) : tot (L.take 0) = 0 := by simp [tot]

/-- a slice of slices of ints that reads as the list L -/
def LLies (w : World) (A : Option Addr) (L : List (List Int)) : Prop :=
  ∀ i l, L[i]? = some l → ∃ b off a c, A = some ⟨b, off, none⟩ ∧ b < w.heap.size ∧ w.cell? ⟨b, off + i, none⟩ = some (.slice a l.length c) ∧ l.length ≤ c ∧ l.length ≤ 9223372036854775807 ∧ ILies w a l
theorem LLies.below {w w' : World} {A : Option Addr} {L : List (List Int)} (h : LLies w A L) (hb : Below w.heap.size w w') : LLies w' A L := by
  intro i x hx
  obtain ⟨b, off, a, c, hA, hlt, ha, hc, hm, hi⟩ := h i x hx
  exact ⟨b, off, a, c, hA, Nat.lt_of_lt_of_le hlt hb.size, ((bcell hb).1 b _ hlt).trans ha, hc, hm, hi.below hb⟩
theorem LLies.take {w : World} {A : Option Addr} {L : List (List Int)} (h : LLies w A L) (k : Nat) : LLies w A (L.take k) := by
  intro i y hy
  rw [List.getElem?_take] at hy
  split at hy
  · exact h i y hy
  · simp at hy
/-- inner slices of one's own -/
structure Inner (w : World) (lo : Nat) (vs : List Value) (L : List (List Int)) : Prop where
  len : vs.length = L.length
  row : ∀ (i : Nat) (l : List Int), L[i]? = some l → ∃ (a : Option Addr) (c : Nat), vs[i]? = some (.slice a l.length c) ∧ w.ownsRow lo 3 1 (.slice a l.length c) l.length (l.map (Value.int .i64))
  apart : ∀ (i j : Nat) (x y : Value) (g : Nat), vs[i]? = some x → vs[j]? = some y → x.ownBlock = some g → y.ownBlock = some g → i = j
/-- the blocks of some slices -/
def blks (vs : List Value) (g : Nat) : Prop := ∃ (i : Nat) (x : Value), vs[i]? = some x ∧ x.ownBlock = some g
theorem Inner.lt {w : World} {lo : Nat} {vs : List Value} {L : List (List Int)} (h : Inner w lo vs L) (g : Nat) (hg : blks vs g) : lo ≤ g ∧ g < w.heap.size := by
  obtain ⟨i, x, hx, hb⟩ := hg
  have hi : i < L.length := by have := (List.getElem?_eq_some_iff.1 hx).1; have := h.len; omega
  obtain ⟨a, c, h1, h2⟩ := h.row i _ (List.getElem?_eq_getElem hi)
  rw [h1] at hx
  obtain rfl := Option.some.inj hx
  exact h2.lt g hb
theorem Inner.kept {w w' : World} {lo : Nat} {vs : List Value} {L : List (List Int)} {S : Nat → Prop} (h : Inner w lo vs L) (hk : Kept w w' S) (hn : ∀ g, blks vs g → ¬ S g) : Inner w' lo vs L := by
  refine ⟨h.len, fun i l hl => ?_, h.apart⟩
  obtain ⟨a, c, h1, h2⟩ := h.row i l hl
  exact ⟨a, c, h1, hk.own h2 (fun g hg => hn g ⟨i, _, h1, hg⟩)⟩
theorem Inner.below {w w' : World} {lo : Nat} {vs : List Value} {L : List (List Int)} (h : Inner w lo vs L) (hb : Below w.heap.size w w') : Inner w' lo vs L :=
  h.kept (S := fun _ => False) (.of_below hb) (fun _ _ q => q)
theorem Inner.nil (w : World) (lo : Nat) : Inner w lo [] [] := ⟨rfl, fun i l h => by simp at h, fun i j x y g h => by simp at h⟩
theorem Inner.snoc {w : World} {lo b : Nat} {vs : List Value} {L : List (List Int)} {l : List Int} {a : Option Addr} {c : Nat} (h : Inner w lo vs L)
    (ho : w.ownsRow lo 3 1 (.slice a l.length c) l.length (l.map (Value.int .i64))) (hb : ∀ g, blks vs g → g < b) (hn : ∀ g, (Value.slice a l.length c).ownBlock = some g → b ≤ g) : Inner w lo (vs ++ [.slice a l.length c]) (L ++ [l]) := by
  have hlen := h.len
  have key : ∀ i x, (vs ++ [Value.slice a l.length c])[i]? = some x → (i < vs.length ∧ vs[i]? = some x) ∨ (i = vs.length ∧ x = .slice a l.length c) := by
    intro i x hx
    by_cases hi : i < vs.length
    · rw [List.getElem?_append_left hi] at hx
      exact .inl ⟨hi, hx⟩
    · rw [List.getElem?_append_right (by omega)] at hx
      have : i - vs.length < 1 := by have := (List.getElem?_eq_some_iff.1 hx).1; simpa using this
      obtain rfl : i = vs.length := by omega
      simp at hx
      exact .inr ⟨rfl, hx.symm⟩
  refine ⟨by simp [hlen], fun i m hm => ?_, fun i j x y g hx hy hgx hgy => ?_⟩
  · by_cases hi : i < L.length
    · rw [List.getElem?_append_left hi] at hm
      obtain ⟨a', c', h1, h2⟩ := h.row i m hm
      exact ⟨a', c', by rw [List.getElem?_append_left (by omega)]; exact h1, h2⟩
    · rw [List.getElem?_append_right (by omega)] at hm
      have : i - L.length < 1 := by have := (List.getElem?_eq_some_iff.1 hm).1; simpa using this
      obtain rfl : i = L.length := by omega
      simp at hm
      subst hm
      exact ⟨a, c, by rw [← hlen]; simp, ho⟩
  · rcases key i x hx with ⟨hi, hx'⟩ | ⟨rfl, rfl⟩ <;> rcases key j y hy with ⟨hj, hy'⟩ | ⟨rfl, rfl⟩
    · exact h.apart i j x y g hx' hy' hgx hgy
    · have := hb g ⟨i, x, hx', hgx⟩; have := hn g hgy; omega
    · have := hb g ⟨j, y, hy', hgy⟩; have := hn g hgx; omega
    · rfl
theorem Inner.base {w : World} {lo lo' : Nat} {vs : List Value} {L : List (List Int)} (h : Inner w lo vs L) (hb : lo' ≤ lo) : Inner w lo' vs L := by
  refine ⟨h.len, fun i l hl => ?_, h.apart⟩
  obtain ⟨a, c, h1, h2⟩ := h.row i l hl
  exact ⟨a, c, h1, own_base h2 hb⟩

/-- a slice of slices of one's own -/
structure OwnSS (w : World) (base : Nat) (v : Value) (vs : List Value) (L : List (List Int)) : Prop where
  outer : w.ownsRow base 28 1 v L.length vs
  inner : Inner w base vs L
  off : ∀ g, blks vs g → v.ownBlock ≠ some g
theorem OwnSS.kept {w w' : World} {base : Nat} {v : Value} {vs : List Value} {L : List (List Int)} {S : Nat → Prop} (h : OwnSS w base v vs L) (hk : Kept w w' S) (h1 : ∀ g, v.ownBlock = some g → ¬ S g) (h2 : ∀ g, blks vs g → ¬ S g) : OwnSS w' base v vs L :=
  ⟨hk.own h.outer h1, h.inner.kept hk h2, h.off⟩
theorem OwnSS.below {w w' : World} {base : Nat} {v : Value} {vs : List Value} {L : List (List Int)} (h : OwnSS w base v vs L) (hb : Below w.heap.size w w') : OwnSS w' base v vs L :=
  h.kept (S := fun _ => False) (.of_below hb) (fun _ _ q => q) (fun _ _ q => q)
theorem own_maxlen {w : World} {base n c : Nat} {t : TypeId} {A : Option Addr} {xs : List Value} (h : w.ownsRow base t 1 (.slice A n c) n xs) : n ≤ 9223372036854775807 := by
  rcases h.2 with ⟨h', _⟩ | ⟨g', cap', cur, h', hb, hg, hnc, hcm, hcs, htake⟩
  · simp only [Value.slice.injEq] at h'; omega
  · unfold maxLen at hcm; omega
theorem OwnSS.lies {w : World} {base n c : Nat} {A : Option Addr} {vs : List Value} {L : List (List Int)} (h : OwnSS w base (.slice A n c) vs L) : LLies w A L := by
  intro i l hl
  have hlt : i < L.length := (List.getElem?_eq_some_iff.1 hl).1
  obtain ⟨a, cc, h1, h2⟩ := h.inner.row i l hl
  obtain ⟨g, cap, hv, _, hg⟩ := h.outer.form (by omega)
  have hA : A = some ⟨g, 0, none⟩ := by injection hv
  subst hA
  refine ⟨g, 0, a, cc, rfl, hg, ?_, own_cap h2, own_maxlen h2, own_ilies h2⟩
  have := h.outer.cells (g := g) rfl i _ h1
  rw [add_plain] at this
  exact this
/-- an inner slice turns -/
theorem OwnSS.set {w w' : World} {base : Nat} {v x : Value} {vs : List Value} {L : List (List Int)} {j : Nat} {l l' : List Int} (h : OwnSS w base v vs L) (hj : L[j]? = some l) (hx : vs[j]? = some x) (hl : l'.length = l.length)
    (ho : w'.ownsRow base 3 1 x l.length (l'.map (Value.int .i64))) (hg : w.grownBy w' x.ownBlock) : OwnSS w' base v vs (L.set j l') := by
  have hjl : j < L.length := (List.getElem?_eq_some_iff.1 hj).1
  refine ⟨?_, ⟨by simp [h.inner.len], fun i m hm => ?_, h.inner.apart⟩, h.off⟩
  · rw [List.length_set]
    exact kept_of h.outer hg (fun g e q => h.off g ⟨j, x, hx, q⟩ e)
  · rw [List.getElem?_set] at hm
    by_cases e : j = i
    · subst e
      rw [if_pos rfl, if_pos hjl] at hm
      obtain rfl := Option.some.inj hm
      obtain ⟨a, c, h1, h2⟩ := h.inner.row j l hj
      rw [h1] at hx
      obtain rfl := Option.some.inj hx
      rw [hl]
      exact ⟨a, c, h1, ho⟩
    · rw [if_neg e] at hm
      obtain ⟨a, c, h1, h2⟩ := h.inner.row i m hm
      exact ⟨a, c, h1, kept_of h2 hg (fun g e1 q => e (h.inner.apart j i x _ g hx h1 q e1))⟩
theorem OwnSS.hd {w : World} {base : Nat} {v : Value} {vs : List Value} {L : List (List Int)} (h : OwnSS w base v vs L) : ∃ A c, v = .slice A L.length c := by
  rcases h.outer.2 with ⟨h', h0⟩ | ⟨g, cap, cur, h', _⟩
  · exact ⟨none, 0, by rw [h', h0]⟩
  · exact ⟨_, _, h'⟩

theorem info_ints : (Try.prog.info? 28).map (fun i => (i.zero, i.size, i.bytes)) = some (some (.slice none 0 0), 1, 24) := by kernel_rfl
/-- behind k rounds of the copy -/
def SCopied (g n k : Nat) (L : List (List Int)) (w : World) : Prop :=
  ∃ vs rest, Blk w g 28 (vs ++ rest) ∧ rest.length = n - k ∧ Inner w (g + 1) vs (L.take k)
theorem SCopied.start {w : World} {base n : Nat} {l : List Value} {L : List (List Int)} {g : Nat} (h : w.ownsRow base 28 1 (.slice (some ⟨g, 0, none⟩) n n) n l) : SCopied g n 0 L w := by
  have hb := vblk_of_own h
  exact ⟨[], l, by simpa using hb, by have := h.1; simpa using this, Inner.nil _ _⟩
/-- the first j lists marked -/
def mkL (m : Int) (L : List (List Int)) (j : Nat) : List (List Int) :=
  (List.range L.length).map fun i => if i < j then iota (m + tot (L.take i)) (L[i]?.getD []).length else L[i]?.getD []
theorem mkL_len (m : Int) (L : List (List Int)) (j : Nat) : (mkL m L j).length = L.length := by simp [mkL]
theorem mkL_at (m : Int) (L : List (List Int)) (j i : Nat) (l : List Int) (h : L[i]? = some l) : (mkL m L j)[i]? = some (if i < j then iota (m + tot (L.take i)) l.length else l) := by
  have hlt : i < L.length := (List.getElem?_eq_some_iff.1 h).1
  unfold mkL
  rw [List.getElem?_map, List.getElem?_range hlt]
  simp only [Option.map_some, h, Option.getD_some]
theorem mkL_zero (m : Int) (L : List (List Int)) : mkL m L 0 = L := by
  apply List.ext_getElem?
  intro i
  by_cases h : i < L.length
  · rw [mkL_at m L 0 i _ (List.getElem?_eq_getElem h), if_neg (by omega), List.getElem?_eq_getElem h]
  · rw [List.getElem?_eq_none (by rw [mkL_len]; omega), List.getElem?_eq_none (by omega)]
theorem mkL_set (m : Int) (L : List (List Int)) (j : Nat) (l : List Int) (h : L[j]? = some l) : (mkL m L j).set j (iota (m + tot (L.take j)) l.length) = mkL m L (j + 1) := by
  apply List.ext_getElem?
  intro i
  by_cases hi : i < L.length
  · rw [mkL_at m L (j + 1) i _ (List.getElem?_eq_getElem hi), List.getElem?_set]
    by_cases e : j = i
    · subst e
      have : L[j] = l := (List.getElem?_eq_some_iff.1 h).2
      rw [if_pos rfl, if_pos (by rw [mkL_len]; omega), if_pos (by omega), this]
    · rw [if_neg e, mkL_at m L j i _ (List.getElem?_eq_getElem hi)]
      by_cases q : i < j
      · rw [if_pos q, if_pos (by omega)]
      · rw [if_neg q, if_neg (by omega)]
  · rw [List.getElem?_eq_none (by rw [List.length_set, mkL_len]; omega), List.getElem?_eq_none (by rw [mkL_len]; omega)]

section
variable {H : Type} {enc : TypeId × Value → H} {W : World} {base : Nat}
theorem cells_s1 : Try.prog.cellsOf 28 = 1 := by kernel_rfl
theorem ints_cap {fuel : Nat} {cs : List Value} {x : DataW H × List MemPlace} (hf : DataW.trod enc Try.prog W 0 (fun _ => true) true fuel 28 cs = some x) :
    ∃ a0 cap, ∃ l : List Int, cs = [.slice a0 l.length cap] ∧ l.length ≤ cap ∧ l.length ≤ 9223372036854775807 ∧ ILies W a0 l := by
  obtain ⟨a0, cap, l, h1, h2, h3⟩ := ints_cells hf
  refine ⟨a0, cap, l, h1, ?_, h2, h3⟩
  rcases Go.Deep.open_slice Try.underlying28 hf with ⟨hcs, _⟩ | ⟨a, len', cap', m, n, D, Pl, hcs, _, hl, hm, hmm, _, hi⟩
  · rw [hcs] at h1
    simp only [List.cons.injEq, Value.slice.injEq, and_true] at h1
    omega
  · rw [hcs] at h1
    simp only [List.cons.injEq, Value.slice.injEq, and_true] at h1
    omega
set_option maxRecDepth 100000 in
/-- a slice of slices of ints within what is read -/
theorem intss_cells {fuel : Nat} {cs : List Value} {x : DataW H × List MemPlace} (hf : DataW.trod enc Try.prog W 0 (fun _ => true) true fuel 44 cs = some x) :
    ∃ a0 cap, ∃ L : List (List Int), cs = [.slice a0 L.length cap] ∧ L.length ≤ 9223372036854775807 ∧ LLies W a0 L := by
  rcases Go.Deep.open_slice Try.underlying44 hf with ⟨hcs, _⟩ | ⟨a, len', cap', m, n, D, Pl, hcs, _, hl, hm, hmm, _, hi⟩
  · exact ⟨none, 0, [], hcs, by simp, fun i x hx => by simp at hx⟩
  · simp only [if_true] at hmm
    subst hmm
    rw [cells_s1] at hi
    have hy : ∀ i, ∃ y : Option Addr × Nat × List Int, i < len' → W.cell? (a.add i) = some (.slice y.1 y.2.2.length y.2.1) ∧ y.2.2.length ≤ y.2.1 ∧ y.2.2.length ≤ 9223372036854775807 ∧ ILies W y.1 y.2.2 := by
      intro i
      by_cases hlt : i < len'
      · obtain ⟨cs', hc, ht⟩ := hi i (by omega)
        obtain ⟨a0, c0, l0, rfl, h1, h2, h3⟩ := ints_cap ht
        obtain ⟨_, _, hat⟩ := World.cells?_some hc
        have := hat 0 (by omega)
        rw [Go.Deep.add_add] at this
        exact ⟨(a0, c0, l0), fun _ => ⟨by simpa using this, h1, h2, h3⟩⟩
      · exact ⟨(none, 0, []), fun h => absurd h hlt⟩
    obtain ⟨Y, hY⟩ := Classical.axiomOfChoice hy
    refine ⟨some a, m, (List.range len').map (fun i => (Y i).2.2), by simpa using hcs, by simp; unfold maxLen at hm; omega, fun i x hx => ?_⟩
    have hlt : i < len' := by
      have := (List.getElem?_eq_some_iff.1 hx).1
      simpa using this
    have hxy : x = (Y i).2.2 := by
      simp [List.getElem?_map, List.getElem?_range hlt] at hx
      exact hx.symm
    subst hxy
    obtain ⟨h0, h1, h2, h3⟩ := hY i hlt
    obtain ⟨b, off, spot⟩ := a
    have hspot : spot = none := by
      have e := (hY 0 (by omega)).1
      have e' : W.cell? ⟨b, off, spot⟩ = some (.slice (Y 0).1 (Y 0).2.2.length (Y 0).2.1) := by simpa [Addr.add] using e
      exact World.cell?_spot e'
    subst hspot
    rw [add_plain] at h0
    exact ⟨b, off, _, _, rfl, World.block_lt_of_cell? W _ h0, h0, h1, h2, h3⟩
set_option maxRecDepth 100000 in
/-- an argument that is a slice of slices of ints -/
theorem intss_of {base' : Nat} {v : Value} {dd : DataW H} {p : List MemPlace} (hv : Value.okWide Try.prog W .any base' 44 v) (h : DataW.Trod enc Try.prog W 0 (fun _ => true) true 44 v dd p) :
    ∃ a0 cap, ∃ L : List (List Int), v = .slice a0 L.length cap ∧ L.length ≤ 9223372036854775807 ∧ LLies W a0 L := by
  obtain ⟨a0, len, cap, rfl⟩ := okWide_slice Try.underlying44 hv
  obtain ⟨fuel, hf⟩ := h
  obtain ⟨a1, cap1, l, hcs, h1, h2⟩ := intss_cells hf
  simp [Value.cells] at hcs
  obtain ⟨rfl, rfl, rfl⟩ := hcs
  exact ⟨_, _, l, rfl, h1, h2⟩
end
end Go.Proofs.Ytilnegmjnbffhaa
