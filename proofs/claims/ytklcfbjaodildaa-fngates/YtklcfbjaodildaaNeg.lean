/-
  Contracts of the negations, the first free variable, the model of literals; LearnFrom, DecideFrom.
-/
import Derived.Test.YtklcfbjaodildaaSvMath
import Derived.Test.YtklcfbjaodildaaProp3
namespace Go.Proofs.Ytklcfbjaodildaa
open Go.ChangeShapes Go.WideShapes Go.ChangeAt Go.RowKit

set_option maxRecDepth 100000 in
set_option maxHeartbeats 2000000 in
theorem negated_any (A : Option Addr) (n cap : Nat) (l : List Int) (w : World) (hl : Hid (ILies w A l)) (HX : Hid (l.length = n)) (HI : Hid (In12 l)) (hn : n ≤ 1000) :
    Calls Try.prog 169 #[.slice A n cap] w (GaveInts w (negL l)) := by
  obtain ⟨i0, hi0, hz0, hz1, hz2⟩ := info_parts info_int
  go_enter Try.func169, Try.ntmps169
  go_wp2_with (at_make; (refine wpList_make_full _ rfl _ _ 55 rfl w.heap.size 3 i0 _ 1 Try.underlying55 hi0 hz0 hz1 _ _ _ _ n rfl rfl (by omega) (by omega) (by rw [hz2]; omega) (by unfold maxLen; omega) (Nat.le_refl _) ?_; intro w1 hown1 hg1; have HC := Lib.hid (VCopied.start (vs := (negL l).map (Value.int .i64)) (by simpa [negL_len] using HX.out) hown1); have HB := Lib.hid ((Below.refl w.heap.size w).grown hg1 (Nat.le_refl _) (by simp)); clear hown1 hg1))
  go_loopw [11] (fun i wr => ∃ k : Nat, k ≤ n ∧ i = .int .i64 k ∧ VCopied 3 w.heap.size ((negL l).map (Value.int .i64)) k wr ∧ Below w.heap.size w wr) (fun i _ => n - (intOf i).toNat)
  case atStart => exact ⟨0, Nat.zero_le _, rfl, HC.out, HB.out⟩
  case round =>
    obtain ⟨k, hk, rfl, hc, hb⟩ := hrel
    have C1 := Lib.hid hc
    have B1 := Lib.hid hb
    clear hc hb HC HB
    by_cases hlt : k < n
    · obtain ⟨x, hx⟩ : ∃ x, l[k]? = some x := ⟨_, List.getElem?_eq_getElem (by have := HX.out; omega)⟩
      obtain ⟨b, off, rfl, hbl, ha⟩ := (hl.out.below B1.out) k x hx
      have hxr := HI.out x (List.mem_of_getElem? hx)
      have hx1 : -12 ≤ x := hxr.1
      have hx2 : x ≤ 12 := hxr.2
      have HXK : Hid (((negL l).map (Value.int .i64))[k]? = some (.int .i64 (-x))) := Lib.hid (by simp [negL, hx])
      clear hx hxr
      obtain ⟨v0, t0⟩ := C1.out.there k (by have := HX.out; simp [negL_len]; omega)
      have f0 := C1.out.free k
      go_wp2
      go_roundw
      case rel => exact ⟨k + 1, by omega, by go_num, C1.out.step HXK.out, B1.out.setCell (Nat.le_refl _) _⟩
      case measure => simp [intOf]; omega
    · obtain rfl : k = n := by omega
      go_wp2
      go_ret
      have e : ((negL l).map (Value.int .i64)).length = k := by simp [negL_len, HX.out]
      have e2 : (negL l).length = k := by rw [negL_len]; exact HX.out
      have h : Blk _ w.heap.size 3 ((negL l).map (Value.int .i64)) := VCopied.end_ (by rw [e]; exact C1.out)
      refine ⟨some ⟨w.heap.size, 0, none⟩, k, by rw [e2]; rfl, ?_, B1.out⟩
      rw [e2]
      exact own_of_vblk h e (by omega)
theorem firstFrom_step {o : List Int} {k : Nat} {x : Int} (h : (decide (x ∈ o) || decide (-x ∈ o)) = true) : firstFrom o (k + 1) x = firstFrom o k (x + 1) := by
  rw [firstFrom, if_pos (by simpa using h)]
theorem firstFrom_stop {o : List Int} {k : Nat} {x : Int} (h1 : decide (x ∈ o) = false) (h2 : decide (-x ∈ o) = false) : firstFrom o (k + 1) x = x := by
  rw [firstFrom, if_neg (by rw [decide_eq_false_iff_not] at h1 h2; simp [h1, h2])]
set_option maxRecDepth 100000 in
set_option maxHeartbeats 2000000 in
theorem firstFree_any (v : Nat) (A : Option Addr) (n cap : Nat) (l : List Int) (w : World) (hl : Hid (ILies w A l)) (HX : Hid (l.length = n)) (HI : Hid (In12 l)) (hn : n ≤ 1000) (hv : v ≤ 12) :
    Calls Try.prog 146 #[.int .i64 v, .slice A n cap] w fun e w' => e = .returned (.int .i64 (firstV v l)) ∧ w = w' := by
  go_enter Try.func146, Try.ntmps146
  go_wp2_with (go_at_call 145; refine (setOf_any _ _ _ l _ hl HX HI (by omega)).mono ?_; rintro e w' ⟨rfl, rfl⟩)
  go_loop [6] (fun i => ∃ k : Nat, k ≤ v ∧ i = .int .i64 ((k : Int) + 1) ∧ firstV v l = firstFrom l (v - k) ((k : Int) + 1)) (fun i => v + 1 - (intOf i).toNat)
  case atStart => exact ⟨0, Nat.zero_le _, rfl, rfl⟩
  case round =>
    obtain ⟨k, hk, rfl, hf⟩ := hrel
    have HF := Lib.hid hf
    clear hf
    by_cases hlt : k < v
    · have HS : Hid (v - k = (v - (k + 1)) + 1) := Lib.hid (by omega)
      cases q1 : decide ((k : Int) + 1 ∈ l)
      · cases q2 : decide (-((k : Int) + 1) ∈ l)
        · have E : Hid (firstV v l = (k : Int) + 1) := Lib.hid (by rw [HF.out, HS.out, firstFrom_stop q1 q2])
          go_wp2_with (go_at_call 123; refine (has_any _ _ _ HI (by omega) (by omega)).mono ?_; rintro e w' ⟨rfl, rfl⟩; first | rw [q1] | rw [q2])
          go_ret
          exact ⟨ret_int E.out.symm, rfl⟩
        · have E : Hid (firstV v l = firstFrom l (v - (k + 1)) ((k : Int) + 1 + 1)) := Lib.hid (by rw [HF.out, HS.out, firstFrom_step (by rw [q1, q2]; rfl)])
          go_wp2_with (go_at_call 123; refine (has_any _ _ _ HI (by omega) (by omega)).mono ?_; rintro e w' ⟨rfl, rfl⟩; first | rw [q1] | rw [q2])
          go_round
          case rel => exact ⟨k + 1, by omega, by go_num, by push_cast; exact E.out⟩
          case measure => simp [intOf]; omega
      · have E : Hid (firstV v l = firstFrom l (v - (k + 1)) ((k : Int) + 1 + 1)) := Lib.hid (by rw [HF.out, HS.out, firstFrom_step (by rw [q1]; rfl)])
        go_wp2_with (go_at_call 123; refine (has_any _ _ _ HI (by omega) (by omega)).mono ?_; rintro e w' ⟨rfl, rfl⟩; rw [q1])
        go_round
        case rel => exact ⟨k + 1, by omega, by go_num, by push_cast; exact E.out⟩
        case measure => simp [intOf]; omega
    · obtain rfl : k = v := by omega
      have E : Hid (firstV k l = 0) := Lib.hid (by rw [HF.out, Nat.sub_self]; rfl)
      go_wp2
      go_ret
      exact ⟨ret_int E.out.symm, rfl⟩
theorem made_false (v : Nat) : (madeCells (Value.bool false).cells (v * 1)).toList = List.replicate v (.bool false) := by
  rw [Nat.mul_one]
  unfold madeCells
  apply List.ext_getElem
  · simp
  · intro i h1 h2
    simp [Value.cells, Nat.mod_one]
/-- behind j literals of a model that is laid -/
theorem model_start {w : World} {base v g : Nat} (h : w.ownsRow base 4 1 (.slice (some ⟨g, 0, none⟩) v v) v (madeCells (Value.bool false).cells (v * 1)).toList) : Blk w g 4 ((modelW v []).map Value.bool) := by
  have := vblk_of_own h
  rw [made_false] at this
  rw [modelW_nil, List.map_replicate]
  exact this
theorem model_step {w : World} {g v j : Nat} {o : List Int} {x : Int} (h : Blk w g 4 ((modelW v (o.take j)).map Value.bool)) (hx : o[j]? = some x) (h1 : 1 ≤ x) : Blk (w.setCell ⟨g, (x - 1).toNat, none⟩ (.bool true)) g 4 ((modelW v (o.take (j + 1))).map Value.bool) := by
  rw [modelW_pos v hx h1, List.map_set]
  exact h.set _ _
theorem model_cell {w : World} {g v : Nat} {o : List Int} (h : Blk w g 4 ((modelW v o).map Value.bool)) {i : Nat} (hi : i < v) : ∃ b, w.cell? ⟨g, i, none⟩ = some (.bool b) := by
  refine ⟨(modelW v o)[i]'(by rw [modelW_len]; exact hi), ?_⟩
  rw [h.cell]
  simp [modelW_len, hi]
set_option maxRecDepth 100000 in
set_option maxHeartbeats 2000000 in
theorem modelWith_any (v : Nat) (A : Option Addr) (n cap : Nat) (l : List Int) (w : World) (hl : Hid (ILies w A l)) (HX : Hid (l.length = n)) (HI : Hid (∀ x ∈ l, litB v x = true)) (hn : n ≤ 1000) (hv : v ≤ 12) :
    Calls Try.prog 149 #[.int .i64 v, .slice A n cap] w fun e w' => e = .returned (.slice (some ⟨w.heap.size, 0, none⟩) v v) ∧ Blk w' w.heap.size 4 ((modelW v l).map Value.bool) ∧ Below w.heap.size w w' := by
  obtain ⟨i0, hi0, hz0, hz1, hz2⟩ := info_parts info_bool
  go_enter Try.func149, Try.ntmps149
  go_wp2_with (at_make; (refine wpList_make_full _ rfl _ _ 49 rfl w.heap.size 4 i0 _ 1 Try.underlying49 hi0 hz0 hz1 _ _ _ _ v rfl rfl (by omega) (by omega) (by rw [hz2]; omega) (by unfold maxLen; omega) (Nat.le_refl _) ?_; intro w1 hown1 hg1; have HC := Lib.hid (model_start hown1); have HB := Lib.hid ((Below.refl w.heap.size w).grown hg1 (Nat.le_refl _) (by simp)); clear hown1 hg1))
  go_loopw [12] (fun i wr => ∃ k : Nat, k ≤ n ∧ i = .int .i64 k ∧ Blk wr w.heap.size 4 ((modelW v (l.take k)).map Value.bool) ∧ Below w.heap.size w wr) (fun i _ => n - (intOf i).toNat)
  case atStart => exact ⟨0, Nat.zero_le _, rfl, HC.out, HB.out⟩
  case round =>
    obtain ⟨k, hk, rfl, hc, hb⟩ := hrel
    have C1 := Lib.hid hc
    have B1 := Lib.hid hb
    clear hc hb HC HB
    by_cases hlt : k < n
    · obtain ⟨x, hx⟩ : ∃ x, l[k]? = some x := ⟨_, List.getElem?_eq_getElem (by have := HX.out; omega)⟩
      obtain ⟨b, off, rfl, hbl, ha⟩ := (hl.out.below B1.out) k x hx
      have hxr := litB_iff.1 (HI.out x (List.mem_of_getElem? hx))
      have hx1 : -12 ≤ x := by omega
      have hx2 : x ≤ v := hxr.2.2
      have HXK := Lib.hid hx
      clear hx hxr
      by_cases hp : 0 < x
      · obtain ⟨j, hj⟩ : ∃ j : Nat, x = (j : Int) + 1 := ⟨(x - 1).toNat, by omega⟩
        obtain ⟨b0, t0⟩ := model_cell C1.out (i := j) (by omega)
        have f0 := C1.out.frozen j
        have ST := Lib.hid (model_step C1.out HXK.out (by omega))
        rw [show (x - 1).toNat = j by omega] at ST
        subst hj
        have hjv : j < v := by omega
        have hpd : decide ((0 : Int) < (j : Int) + 1) = true := by simp
        clear C1 hp
        go_wp2
        go_roundw
        case rel => exact ⟨k + 1, by omega, by go_num, ST.out, B1.out.setCell (Nat.le_refl _) _⟩
        case measure => simp [intOf]; omega
      · have SM := Lib.hid (modelW_neg v HXK.out (by omega))
        go_wp2
        go_roundw
        case rel => exact ⟨k + 1, by omega, by go_num, by rw [SM.out]; exact C1.out, B1.out⟩
        case measure => simp [intOf]; omega
    · obtain rfl : k = n := by omega
      go_wp2
      go_ret
      exact ⟨rfl, (by have h := C1.out; rw [List.take_of_length_le (by have := HX.out; omega)] at h; exact h), B1.out⟩

/-- what LearnFrom answers -/
def LearnR (c r : List Int) (ok : Bool) : Prop := ok = clauseB 12 c ∧ r = (if ok then negL c else [])
theorem LearnR.len {c r : List Int} {ok : Bool} (h : LearnR c r ok) : r.length ≤ 1000 := by
  obtain ⟨h1, h2⟩ := h
  cases ok
  · subst h2; simp
  · subst h2
    have := clauseB_len h1.symm
    simp [negL_len]; omega
theorem in12_of {c : List Int} (h : clauseB 12 c = true) : In12 c := lits_in12 (Int.le_refl _) (clauseB_lits h)
/-- what DecideFrom answers -/
def DecR (v : Int) (L : List (List Int)) (given : List Int) (x : Int) (ok : Bool) : Prop :=
  ∃ r b ok1, PropR v L given r b ok1 ∧ x = (if ok1 && !b then firstV v.toNat r else 0) ∧ ok = decide (x ≠ 0)
theorem decR_any (v : Int) (L : List (List Int)) (given : List Int) : ∃ x ok, DecR v L given x ok := by
  obtain ⟨r, b, ok1, h⟩ := propR_any v L given
  exact ⟨_, _, r, b, ok1, h, rfl, rfl⟩
theorem PropR.lits {v : Int} {L : List (List Int)} {given r : List Int} {b ok : Bool} (h : PropR v L given r b ok) : ∀ x ∈ r, litB v x = true := by
  obtain ⟨h1, h2, h3⟩ := h
  cases ok
  · rw [(h3 rfl).1]; simp
  · have hh : goodB v L = true ∧ clauseB v given = true := by
      have := h1.symm
      rwa [Bool.and_eq_true] at this
    exact propN_lits (fun c hc x hx => clauseB_lits (goodB_cl hh.1 c hc) x hx) (clauseB_lits hh.2) (h2 rfl)
theorem PropR.v {v : Int} {L : List (List Int)} {given r : List Int} {b : Bool} (h : PropR v L given r b true) : 0 ≤ v ∧ v ≤ 12 := by
  have h1 := h.1.symm
  rw [Bool.and_eq_true] at h1
  exact goodB_v h1.1
end Go.Proofs.Ytklcfbjaodildaa
