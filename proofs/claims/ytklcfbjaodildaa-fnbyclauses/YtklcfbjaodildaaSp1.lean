/-
  The model's building of a diagram.
-/
import Derived.Test.YtklcfbjaodildaaDg3
namespace Go.Proofs.Ytklcfbjaodildaa
open Go.ChangeShapes Go.WideShapes Go.ChangeAt Go.RowKit Go.Maps

/-- every other value of a table -/
def hfL (T : List Bool) (n so : Nat) : List Bool := (List.range n).map (fun j => T.getD (2 * j + so) false)
theorem hfL_len (T : List Bool) (n so : Nat) : (hfL T n so).length = n := by simp [hfL]
theorem hfL_succ (T : List Bool) (n so : Nat) : hfL T (n + 1) so = hfL T n so ++ [T.getD (2 * n + so) false] := by simp [hfL, List.range_succ]
theorem hfL_ev {T : List Bool} {n : Nat} (h : T.length = 2 * n) : evT (tabF T) = tabF (hfL T n 0) := by
  funext j
  unfold evT tabF hfL
  by_cases hj : j < n
  · simp [hj]
  · rw [List.getD_eq_getElem?_getD, List.getD_eq_getElem?_getD, List.getElem?_eq_none (by omega), List.getElem?_eq_none (by simp; omega)]
theorem hfL_od {T : List Bool} {n : Nat} (h : T.length = 2 * n) : odT (tabF T) = tabF (hfL T n 1) := by
  funext j
  unfold odT tabF hfL
  by_cases hj : j < n
  · simp [hj]
  · rw [List.getD_eq_getElem?_getD, List.getD_eq_getElem?_getD, List.getElem?_eq_none (by omega), List.getElem?_eq_none (by simp; omega)]
theorem eqT_lists {d : Nat} {U V : List Bool} (h1 : U.length = 2 ^ d) (h2 : V.length = 2 ^ d) : EqT d (tabF U) (tabF V) ↔ U = V := by
  constructor
  · intro h
    apply List.ext_getElem?
    intro i
    by_cases hi : i < 2 ^ d
    · have := h i hi
      unfold tabF at this
      rw [List.getElem?_eq_getElem (by omega), List.getElem?_eq_getElem (by omega)]
      simpa [h1, h2, hi] using this
    · rw [List.getElem?_eq_none (by omega), List.getElem?_eq_none (by omega)]
  · rintro rfl j _
    rfl
theorem appB {w wr w3 : World} {bs : Nat} {l : List Bool} {k c2 g3 cap3 : Nat} {A2 : Option Addr} {x : Bool}
    (O2 : wr.ownsRow bs 4 1 (.slice A2 k c2) k (l.map Value.bool))
    (hown3 : w3.ownsRow bs 4 1 (.slice (some ⟨g3, 0, none⟩) (k + 1) cap3) (k + 1) (l.map Value.bool ++ [.bool x]))
    (hg3 : (wr.alloc (.cells #[.bool x] 4)).grownBy w3 (Value.slice A2 k c2).ownBlock)
    (B2 : Below w.heap.size w wr) (hbs : w.heap.size ≤ bs) :
    w3.ownsRow bs 4 1 (.slice (some ⟨g3, 0, none⟩) (k + 1) cap3) (k + 1) ((l ++ [x]).map Value.bool) ∧ Below w.heap.size w w3 := by
  have hlt := O2.lt
  refine ⟨by rw [List.map_append]; exact hown3, ?_⟩
  exact ((Below.tr B2 (below1 wr _)).grown hg3 (by have := B2.size; simp; omega) (fun g hg => Nat.le_trans hbs (hlt g hg).1))
set_option maxRecDepth 100000 in
set_option maxHeartbeats 4000000 in
theorem l7Half_any (A : Option Addr) (m cap : Nat) (T : List Bool) (n so : Nat) (w : World) (hl : Hid (BLies w A T)) (HX : Hid (T.length = m)) (HM : Hid (m = 2 * n)) (hn : n ≤ 1000) (hso : so ≤ 1) :
    Calls Try.prog 158 #[.slice A m cap, .int .i64 so] w fun e w' => ∃ A2 c2, e = .returned (.slice A2 n c2) ∧ w'.ownsRow w.heap.size 4 1 (.slice A2 n c2) n ((hfL T n so).map Value.bool) ∧ Below w.heap.size w w' := by
  obtain ⟨i0, hi0, hz0, hz1, hz2⟩ := info_parts info_bool
  go_enter Try.func158, Try.ntmps158
  go_wp2_with fail
  go_loopw [5, 6] (fun u i wr => ∃ (k : Nat) (x : Int), k ≤ n ∧ i = .int .i64 x ∧ x = 2 * k + so ∧ (∃ A3 c3, u = .slice A3 k c3 ∧ wr.ownsRow w.heap.size 4 1 (.slice A3 k c3) k ((hfL T k so).map Value.bool)) ∧ Below w.heap.size w wr) (fun _ i _ => m + 1 - (intOf i).toNat)
  case atStart => exact ⟨0, so, Nat.zero_le _, rfl, by simp, ⟨none, 0, rfl, World.ownsRow_nil _ _ _ _⟩, Below.refl _ _⟩
  case round =>
    obtain ⟨k, x, hk, rfl, hx, ⟨A3, c3, rfl, hown⟩, hb⟩ := hrel
    have O3 := Lib.hid hown
    have B1 := Lib.hid hb
    have HXX := Lib.hid hx
    clear hown hb
    by_cases hlt : k < n
    · have hxm : x < (m : Int) := by have := HM.out; omega
      have hx0 : 0 ≤ x := by omega
      have hx1 : x ≤ 5000 := by omega
      obtain ⟨y, hy⟩ : ∃ y : Nat, x = y := ⟨x.toNat, by omega⟩
      subst hy
      have hym : y < m := by omega
      have hyy : y = 2 * k + so := by omega
      obtain ⟨v, hv⟩ : ∃ v, T[y]? = some v := ⟨_, List.getElem?_eq_getElem (by have := HX.out; omega)⟩
      obtain ⟨b, off, rfl, hbl, ha⟩ := (hl.out.below B1.out) y v hv
      have HS : Hid (hfL T (k + 1) so = hfL T k so ++ [v]) := Lib.hid (by rw [hfL_succ, ← hyy]; simp [hv])
      have HYY := Lib.hid hyy
      clear hv hx hyy
      go_wp2_with (at_builtin; (refine wpList_append_lies _ rfl _ _ 49 rfl w.heap.size 4 i0 (.bool false) 1 1 Try.underlying49 hi0 hz0 hz1 hz2 rfl (by omega) _ k _ rfl (O3.out.alloc _) ⟨wr.heap.size, 0, none⟩ 1 1 [.bool v] rfl rfl (one_new1 wr _ _) (by intro u hu; rw [List.mem_singleton.1 hu]; rfl) (by omega) (by unfold maxLen; omega) (by omega) (by have := B1.out.size; first | omega | (simp; omega)) (wr.heap.size + 1) (by first | rfl | simp) ?_; intro g4 cap4 w4 hown4 hg4 hat4 hlt4; have H4 := Lib.hid (appB O3.out hown4 hg4 B1.out (Nat.le_refl _)); clear hown4 hg4 hat4 hlt4))
      go_roundw
      case rel => exact ⟨k + 1, _, by omega, rfl, by have := HYY.out; push_cast; omega, ⟨_, _, rfl, by rw [HS.out]; exact H4.out.1⟩, H4.out.2⟩
      case measure => simp [intOf]; omega
    · obtain rfl : k = n := by omega
      have hxm : (m : Int) ≤ x := by have := HM.out; omega
      have hxm2 : x ≤ 5000 := by omega
      have hx0 : 0 ≤ x := by omega
      clear hx
      go_wp2
      go_ret
      exact ⟨A3, c3, rfl, O3.out, B1.out⟩
set_option maxRecDepth 100000 in
set_option maxHeartbeats 4000000 in
theorem l7Same_any (A B : Option Addr) (n c1 c2 : Nat) (U V : List Bool) (w : World) (hl : Hid (BLies w A U)) (hl2 : Hid (BLies w B V)) (hx : Hid (U.length = n)) (hy : Hid (V.length = n)) (hn : n ≤ 1048576) :
    Calls Try.prog 159 #[.slice A n c1, .slice B n c2] w fun e w' => e = .returned (.bool (decide (U = V))) ∧ Below w.heap.size w w' := by
  go_enter Try.func159, Try.ntmps159
  go_wp2_with fail
  go_loopw [8] (fun i wr => ∃ k : Nat, k ≤ n ∧ i = .int .i64 k ∧ U.take k = V.take k ∧ Below w.heap.size w wr) (fun i _ => n - (intOf i).toNat)
  case atStart => exact ⟨0, Nat.zero_le _, rfl, by simp, Below.refl _ _⟩
  case round =>
    obtain ⟨k, hk, rfl, ht, hb⟩ := hrel
    have B1 := Lib.hid hb
    have T1 := Lib.hid ht
    clear hb ht
    by_cases hlt : k < n
    · obtain ⟨x, hxk⟩ : ∃ x, U[k]? = some x := ⟨_, List.getElem?_eq_getElem (by have := hx.out; omega)⟩
      obtain ⟨y, hyk⟩ : ∃ y, V[k]? = some y := ⟨_, List.getElem?_eq_getElem (by have := hy.out; omega)⟩
      obtain ⟨b, off, rfl, hbl, hc⟩ := (hl.out.below B1.out) k x hxk
      obtain ⟨b2, off2, rfl, hbl2, hc2⟩ := (hl2.out.below B1.out) k y hyk
      have HXK := Lib.hid hxk
      have HYK := Lib.hid hyk
      clear hxk hyk
      by_cases e : x = y
      · subst e
        have hq : (x != x) = false := by simp
        have T2 : Hid (U.take (k + 1) = V.take (k + 1)) := Lib.hid (by rw [List.take_add_one, List.take_add_one, T1.out, HXK.out, HYK.out])
        go_wp2_with fail
        go_quiet (fail)
        go_wp2
        go_roundw
        case rel => exact ⟨k + 1, by omega, by go_num, T2.out, bdrewN B1.out _⟩
        case measure => simp [intOf]; omega
      · have hE : Hid (decide (U = V) = false) := Lib.hid (by
          rw [decide_eq_false_iff_not]
          rintro rfl
          have := HXK.out.symm.trans HYK.out
          injection this with this
          exact e this)
        cases x
        · obtain rfl : y = true := by simpa using e
          clear e
          go_wp2_with fail
          go_quiet (fail)
          go_wp2
          go_ret
          exact ⟨ret_bool hE.out.symm, bdrewN B1.out _⟩
        · obtain rfl : y = false := by simpa using e
          clear e
          go_wp2_with fail
          go_quiet (fail)
          go_wp2
          go_ret
          exact ⟨ret_bool hE.out.symm, bdrewN B1.out _⟩
    · obtain rfl : k = n := by omega
      have hE : Hid (decide (U = V) = true) := Lib.hid (by
        have h := T1.out
        rw [List.take_of_length_le (by rw [hx.out]; exact Nat.le_refl _), List.take_of_length_le (by rw [hy.out]; exact Nat.le_refl _)] at h
        simp [h])
      go_wp2
      go_ret
      exact ⟨ret_bool hE.out.symm, B1.out⟩
end Go.Proofs.Ytklcfbjaodildaa
