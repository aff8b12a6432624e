/-
  Slices of ints and of bools: the laws' own copies, sizes, comparisons, marks; arguments that are such slices, opened.
-/
import Derived.Test.YtbmmajdacebncaaMem
namespace Go.Proofs.Ytbmmajdacebncaa
open Go.ChangeShapes Go.WideShapes Go.ChangeAt Go.RowKit

/-- behind k rounds of a copy of values -/
def VCopied (t : TypeId) (g : Nat) (vs : List Value) (k : Nat) (w : World) : Prop :=
  ∃ cur : List Value, Blk w g t cur ∧ cur.length = vs.length ∧ cur.take k = vs.take k
theorem VCopied.start {w : World} {base n : Nat} {l : List Value} {t : TypeId} {vs : List Value} {g : Nat} (hn : vs.length = n) (h : w.ownsRow base t 1 (.slice (some ⟨g, 0, none⟩) n n) n l) : VCopied t g vs 0 w := by
  rcases h.2 with ⟨h', _⟩ | ⟨g', cap', cur, h', hb, hg, hnc, hcm, hcs, htake⟩
  · simp at h'
  · simp only [Value.slice.injEq, Option.some.injEq, Addr.mk.injEq, and_true, true_and] at h'
    obtain ⟨rfl, rfl⟩ := h'
    exact ⟨cur.toList, by simpa [Blk] using hg, by simp [hcs, hn], by simp⟩
theorem VCopied.end_ {w : World} {t : TypeId} {g : Nat} {vs : List Value} (h : VCopied t g vs vs.length w) : Blk w g t vs := by
  obtain ⟨cur, h1, h2, h3⟩ := h
  rw [List.take_of_length_le (by omega), List.take_of_length_le (Nat.le_refl _)] at h3
  rw [← h3]
  exact h1
theorem VCopied.step {w : World} {t : TypeId} {g k : Nat} {vs : List Value} {v : Value} (h : VCopied t g vs k w) (hx : vs[k]? = some v) : VCopied t g vs (k + 1) (w.setCell ⟨g, k, none⟩ v) := by
  obtain ⟨cur, h1, h2, h3⟩ := h
  have hlt : k < vs.length := (List.getElem?_eq_some_iff.1 hx).1
  have e : vs[k] = v := (List.getElem?_eq_some_iff.1 hx).2
  refine ⟨_, h1.set _ _, by simp [h2], ?_⟩
  rw [List.take_succ_eq_append_getElem (by simp; omega), List.take_succ_eq_append_getElem hlt, List.take_set_of_le (Nat.le_refl _), h3, e]
  simp
theorem VCopied.there {w : World} {t : TypeId} {g k : Nat} {vs : List Value} (h : VCopied t g vs k w) (j : Nat) (hj : j < vs.length) : ∃ v, w.cell? ⟨g, j, none⟩ = some v := by
  obtain ⟨cur, h1, h2, h3⟩ := h
  exact ⟨_, (h1.cell j).trans (List.getElem?_eq_getElem (by omega))⟩
theorem VCopied.free {w : World} {t : TypeId} {g k : Nat} {vs : List Value} (h : VCopied t g vs k w) (j : Nat) : w.frozen? ⟨g, j, none⟩ = false := by
  obtain ⟨cur, h1, h2, h3⟩ := h
  exact h1.frozen j

/-- a slice of bools that reads as the list l -/
def BLies (w : World) (A : Option Addr) (l : List Bool) : Prop :=
  ∀ i y, l[i]? = some y → ∃ b off, A = some ⟨b, off, none⟩ ∧ b < w.heap.size ∧ w.cell? ⟨b, off + i, none⟩ = some (.bool y)
theorem BLies.below {w w' : World} {A : Option Addr} {l : List Bool} (h : BLies w A l) (hb : Below w.heap.size w w') : BLies w' A l := by
  intro i x hx
  obtain ⟨b, off, hA, hlt, ha⟩ := h i x hx
  exact ⟨b, off, hA, Nat.lt_of_lt_of_le hlt hb.size, ((bcell hb).1 b _ hlt).trans ha⟩
theorem own_blies {w : World} {base n c : Nat} {A : Option Addr} {l : List Bool} (h : w.ownsRow base 4 1 (.slice A n c) n (l.map Value.bool)) : BLies w A l := by
  intro i y hy
  have hlt : i < l.length := (List.getElem?_eq_some_iff.1 hy).1
  have hl := h.1
  obtain ⟨g, cap, hv, _, hg⟩ := h.form (by simp at hl; omega)
  have hA : A = some ⟨g, 0, none⟩ := by injection hv
  subst hA
  refine ⟨g, 0, rfl, hg, ?_⟩
  have := h.cells (g := g) rfl i (.bool y) (by simp [hy])
  rw [add_plain] at this
  exact this
theorem own_of_vblk {w : World} {g n : Nat} {t : TypeId} {vs : List Value} (h : Blk w g t vs) (hx : vs.length = n) (hn : n ≤ 1048576) : w.ownsRow g t 1 (.slice (some ⟨g, 0, none⟩) n n) n vs := by
  refine ⟨by omega, .inr ⟨g, n, vs.toArray, rfl, Nat.le_refl _, h, Nat.le_refl _, by unfold maxLen; omega, by simp [hx], ?_⟩⟩
  exact List.take_of_length_le (by simp [hx])
theorem Blk.ilies {w : World} {g : Nat} {t : TypeId} {l : List Int} (h : Blk w g t (l.map (Value.int .i64))) : ILies w (some ⟨g, 0, none⟩) l := by
  intro i y hy
  refine ⟨g, 0, rfl, h.lt, ?_⟩
  rw [h.cell, Nat.zero_add]
  simp [hy]
theorem Blk.blies {w : World} {g : Nat} {t : TypeId} {l : List Bool} (h : Blk w g t (l.map Value.bool)) : BLies w (some ⟨g, 0, none⟩) l := by
  intro i y hy
  refine ⟨g, 0, rfl, h.lt, ?_⟩
  rw [h.cell, Nat.zero_add]
  simp [hy]
theorem info_int : (Try.prog.info? 3).map (fun i => (i.zero, i.size, i.bytes)) = some (some (.int .i64 0), 1, 8) := by kernel_rfl
theorem info_bool : (Try.prog.info? 4).map (fun i => (i.zero, i.size, i.bytes)) = some (some (.bool false), 1, 1) := by kernel_rfl

set_option maxRecDepth 100000 in
set_option maxHeartbeats 2000000 in
theorem toIntS_any (A : Option Addr) (n cap : Nat) (l : List Int) (w : World) (hl : Hid (ILies w A l)) (HX : Hid (l.length = n)) (hn : n ≤ 1048576) :
    Calls Try.prog 42 #[.slice A n cap] w fun e w' => e = .returned (.slice (some ⟨w.heap.size, 0, none⟩) n n) ∧ Blk w' w.heap.size 3 (l.map (Value.int .i64)) ∧ Below w.heap.size w w' := by
  obtain ⟨i0, hi0, hz0, hz1, hz2⟩ := info_parts info_int
  go_enter Try.func42, Try.ntmps42
  go_wp2_with (at_make; (refine wpList_make_full _ rfl _ _ 24 rfl w.heap.size 3 i0 _ 1 Try.underlying24 hi0 hz0 hz1 _ _ _ _ n rfl rfl (by omega) (by omega) (by rw [hz2]; omega) (by unfold maxLen; omega) (Nat.le_refl _) ?_; intro w1 hown1 hg1; have HC := Lib.hid (VCopied.start (vs := l.map (Value.int .i64)) (by simpa using HX.out) hown1); have HB := Lib.hid ((Below.refl w.heap.size w).grown hg1 (Nat.le_refl _) (by simp)); clear hown1 hg1))
  go_loopw [4] (fun i wr => ∃ k : Nat, k ≤ n ∧ i = .int .i64 k ∧ VCopied 3 w.heap.size (l.map (Value.int .i64)) k wr ∧ Below w.heap.size w wr) (fun i _ => n - (intOf i).toNat)
  case atStart => exact ⟨0, Nat.zero_le _, rfl, HC.out, HB.out⟩
  case round =>
    obtain ⟨k, hk, rfl, hc, hb⟩ := hrel
    have C1 := Lib.hid hc
    have B1 := Lib.hid hb
    clear hc hb HC HB
    by_cases hlt : k < n
    · obtain ⟨x, hx⟩ : ∃ x, l[k]? = some x := ⟨_, List.getElem?_eq_getElem (by have := HX.out; omega)⟩
      obtain ⟨b, off, rfl, hbl, ha⟩ := (hl.out.below B1.out) k x hx
      have HXK : Hid ((l.map (Value.int .i64))[k]? = some (.int .i64 x)) := Lib.hid (by simp [hx])
      clear hx
      obtain ⟨v0, t0⟩ := C1.out.there k (by have := HX.out; simp; omega)
      have f0 := C1.out.free k
      go_wp2
      go_roundw
      case rel => exact ⟨k + 1, by omega, by go_num, C1.out.step HXK.out, B1.out.setCell (Nat.le_refl _) _⟩
      case measure => simp [intOf]; omega
    · obtain rfl : k = n := by omega
      go_wp2
      go_ret
      exact ⟨rfl, (by have := HX.out; have h := C1.out; rw [show k = (l.map (Value.int .i64)).length by simp [this]] at h; exact h.end_), B1.out⟩

/-- the flags that the marking lays -/
def biota (m : Int) (n : Nat) : List Bool := (List.range n).map fun (j : Nat) => (Int.tmod (m + (j : Int)) 3 == 0)
theorem biota_len (m : Int) (n : Nat) : (biota m n).length = n := by simp [biota]
theorem biota_succ (m : Int) (n : Nat) : biota m (n + 1) = biota m n ++ [(Int.tmod (m + n) 3 == 0)] := by simp [biota, List.range_succ]
theorem biota_at (m : Int) (n j : Nat) (h : j < n) : (biota m n)[j]? = some (Int.tmod (m + j) 3 == 0) := by simp [biota, h]
theorem set_biota (l : List Bool) (m : Int) (j : Nat) (h : j < l.length) :
    (((biota m j ++ l.drop j).map Value.bool).set j (.bool (Int.tmod (m + j) 3 == 0))) = (biota m (j + 1) ++ l.drop (j + 1)).map Value.bool := by
  rw [biota_succ, List.drop_eq_getElem_cons h, List.map_append, List.map_cons]
  have : ((biota m j).map Value.bool).length = j := by simp [biota_len]
  rw [List.set_append_right _ _ (by omega), this]
  simp

section
variable {H : Type} {enc : TypeId × Value → H} {W : World} {base : Nat}
theorem cells_i1 : Try.prog.cellsOf 3 = 1 := by kernel_rfl
theorem cells_b1 : Try.prog.cellsOf 4 = 1 := by kernel_rfl
set_option maxRecDepth 100000 in
/-- a slice of ints within what is read -/
theorem ints_cells {fuel : Nat} {cs : List Value} {x : DataW H × List MemPlace} (hf : DataW.trod enc Try.prog W 0 (fun _ => true) true fuel 24 cs = some x) :
    ∃ a0 cap, ∃ l : List Int, cs = [.slice a0 l.length cap] ∧ l.length ≤ 9223372036854775807 ∧ ILies W a0 l := by
  rcases Go.Deep.open_slice Try.underlying24 hf with ⟨hcs, _⟩ | ⟨a, len', cap', m, n, D, Pl, hcs, _, hl, hm, hmm, _, hi⟩
  · exact ⟨none, 0, [], hcs, by simp, fun i x hx => by simp at hx⟩
  · simp only [if_true] at hmm
    subst hmm
    rw [cells_i1] at hi
    have hy : ∀ i, ∃ y : Int, i < len' → W.cell? (a.add i) = some (.int .i64 y) := by
      intro i
      by_cases hlt : i < len'
      · obtain ⟨cs', hc, ht⟩ := hi i (by omega)
        obtain ⟨y, rfl, _⟩ := DataW.trod_int Try.underlying3 ht
        obtain ⟨_, _, hat⟩ := World.cells?_some hc
        have := hat 0 (by omega)
        rw [Go.Deep.add_add] at this
        exact ⟨y, fun _ => by simpa using this⟩
      · exact ⟨0, fun h => absurd h hlt⟩
    obtain ⟨Y, hY⟩ := Classical.axiomOfChoice hy
    refine ⟨some a, m, (List.range len').map Y, by simpa using hcs, by simp; unfold maxLen at hm; omega, fun i x hx => ?_⟩
    have hlt : i < len' := by
      have := (List.getElem?_eq_some_iff.1 hx).1
      simpa using this
    have hxy : x = Y i := by
      simp [List.getElem?_map, List.getElem?_range hlt] at hx
      exact hx.symm
    subst hxy
    have h0 := hY i hlt
    obtain ⟨b, off, spot⟩ := a
    have hspot : spot = none := by
      have e := hY 0 (by omega)
      have e' : W.cell? ⟨b, off, spot⟩ = some (.int .i64 (Y 0)) := by simpa [Addr.add] using e
      exact World.cell?_spot e'
    subst hspot
    rw [add_plain] at h0
    exact ⟨b, off, rfl, World.block_lt_of_cell? W _ h0, h0⟩
set_option maxRecDepth 100000 in
/-- an argument that is a slice of ints -/
theorem ints_of {base' : Nat} {v : Value} {dd : DataW H} {p : List MemPlace} (hv : Value.okWide Try.prog W .any base' 24 v) (h : DataW.Trod enc Try.prog W 0 (fun _ => true) true 24 v dd p) :
    ∃ a0 cap, ∃ l : List Int, v = .slice a0 l.length cap ∧ l.length ≤ 9223372036854775807 ∧ ILies W a0 l := by
  obtain ⟨a0, len, cap, rfl⟩ := okWide_slice Try.underlying24 hv
  obtain ⟨fuel, hf⟩ := h
  obtain ⟨a1, cap1, l, hcs, h1, h2⟩ := ints_cells hf
  simp [Value.cells] at hcs
  obtain ⟨rfl, rfl, rfl⟩ := hcs
  exact ⟨_, _, l, rfl, h1, h2⟩
end
end Go.Proofs.Ytbmmajdacebncaa
