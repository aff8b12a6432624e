/-
  Contracts of GoodProgram: the model's and the program's.
-/
import Derived.Test.YtilnegmjnbffhaaDoorFollow
namespace Go.Proofs.YtilnegmjnbffhaaDoor
open Go.ChangeShapes Go.WideShapes Go.ChangeAt Go.RowKit

def Stp.ok (x : Stp) : Bool := okB x.k x.o x.d x.s x.i x.t
/-- a step at an index of a program of n steps: valid, and all that may follow lies in the program -/
def fitAt (n i : Nat) (x : Stp) : Prop := okB x.k x.o x.d x.s x.i x.t = true ∧ ∀ y ∈ nextsI x.k x.t i, y < n
def Good (xs : List Stp) : Prop := (1 ≤ xs.length ∧ xs.length ≤ 20) ∧ ∀ i x, xs[i]? = some x → fitAt xs.length i x
/-- the model's own way to say it -/
def sfit (n i : Nat) (x : Stp) : Prop := okB x.k x.o x.d x.s x.i x.t = true ∧ ¬ (0 < x.t ∧ (n : Int) ≤ i + x.t + 1)
theorem good_of_s {xs : List Stp} {m : Nat} {y : Stp} (hm : xs.length = m + 1) (h1 : xs.length ≤ 20) (h2 : ∀ i x, xs[i]? = some x → sfit xs.length i x) (hy : xs[m]? = some y) (h3 : y.k = 11) : Good xs := by
  refine ⟨⟨by omega, h1⟩, fun i x hx => ?_⟩
  obtain ⟨ho, hj⟩ := h2 i x hx
  refine ⟨ho, fun z hz => ?_⟩
  have hlt : i < xs.length := (List.getElem?_eq_some_iff.1 hx).1
  have hok := okB_yes ho
  unfold okP at hok
  have hlast : i = m → x.k = 11 := by
    rintro rfl
    rw [hy] at hx
    cases hx
    exact h3
  unfold nextsI at hz
  split at hz
  · simp at hz
  · split at hz
    · simp at hz; omega
    · split at hz
      · simp at hz; omega
      · simp at hz; omega
theorem s_of_good {xs : List Stp} (h : Good xs) : ∀ i x, xs[i]? = some x → sfit xs.length i x := by
  intro i x hx
  obtain ⟨ho, hj⟩ := h.2 i x hx
  refine ⟨ho, fun hc => ?_⟩
  have hok := okB_yes ho
  unfold okP at hok
  have hk : x.k = 8 ∨ x.k = 9 ∨ x.k = 10 := by omega
  have := hj (i + x.t + 1) (by unfold nextsI; rcases hk with e | e | e <;> simp [e])
  omega
theorem last_of_good {xs : List Stp} {m : Nat} {y : Stp} (h : Good xs) (hm : xs.length = m + 1) (hy : xs[m]? = some y) : y.k = 11 := by
  obtain ⟨ho, hj⟩ := h.2 m y hy
  have hok := okB_yes ho
  unfold okP at hok
  rcases Classical.em (y.k = 11) with e | e
  · exact e
  · by_cases h8 : y.k = 8
    · have := hj (m + y.t + 1) (by unfold nextsI; simp [h8]); omega
    · have := hj (m + 1) (by unfold nextsI; rw [if_neg e, if_neg h8]; split <;> simp); omega

theorem not_good {b : Bool} {xs : List Stp} (h : b = true ↔ Good xs) (hn : ¬ Good xs) : false = b := by
  cases b
  · rfl
  · exact absurd (h.1 rfl) hn
theorem yes_good {b : Bool} {xs : List Stp} (h : b = true ↔ Good xs) (hn : Good xs) : true = b := (h.2 hn).symm

set_option maxRecDepth 100000 in
set_option maxHeartbeats 2000000 in
theorem specGood_any (A : Option Addr) (n cap : Nat) (xs : List Stp) (w : World) (b : Bool) (hb : Hid (b = true ↔ Good xs)) (hl : Hid (Lies w A xs)) (hx : Hid (xs.length = n)) (hn : n ≤ 1048576) :
    Calls Tryd.prog 21 #[.slice A n cap] w fun e w' => e = .returned (.bool b) ∧ Below w.heap.size w w' := by
  have hin : inB 1 20 n = decide (1 ≤ (n : Int) ∧ (n : Int) ≤ 20) := rfl
  have HI := Lib.hid hin
  clear hin
  go_enter Tryd.func21, Tryd.ntmps21
  go_wp2_with fail
  go_loopw [7] (fun i wr => ∃ k : Nat, k ≤ n ∧ i = .int .i64 k ∧ (∀ j x, j < k → xs[j]? = some x → sfit n j x) ∧ Below w.heap.size w wr) (fun i _ => n - (intOf i).toNat)
  case atStart => exact ⟨0, Nat.zero_le _, rfl, fun j x h => absurd h (by omega), Below.refl _ _⟩
  case round =>
    obtain ⟨k, hk, rfl, hall, hbw⟩ := hrel
    have B1 := Lib.hid hbw
    have HA := Lib.hid hall
    clear hbw hall
    by_cases hlt : k < n
    · obtain ⟨x, hxk⟩ : ∃ x, xs[k]? = some x := ⟨_, List.getElem?_eq_getElem (by have := hx.out; omega)⟩
      obtain ⟨b1, off, rfl, hbl, ha⟩ := (hl.out.below B1.out) k x hxk
      have HXK := Lib.hid hxk
      clear hxk
      obtain ⟨e0, e1, e2, e3, e4, e5⟩ := ha
      go_wp2_with fail
      refine (l2Step_any _ _ _ _ _ _ _).mono ?_
      rintro e w2 ⟨rfl, hb2⟩
      have H2 := Lib.hid (box_keep (box_new wr 67 x.k x.o x.d x.s x.i x.t) hb2)
      clear hb2 e0 e1 e2 e3 e4 e5
      obtain ⟨-, z1, c0, c1, c2, c3, c4, c5⟩ := H2.out
      have B2 := Lib.hid (Below.tr B1.out H2.out.1)
      cases hok : okB x.k x.o x.d x.s x.i x.t
      · have HN : Hid (¬ Good xs) := fun hg => by
          have := (s_of_good hg k x HXK.out).1
          rw [hok] at this
          cases this
        go_wp2
        go_ret
        exact ⟨ret_b (not_good hb.out HN.out), B2.out⟩
      · obtain ⟨_, _, _, _, _, ht⟩ := okP_bounds (okB_yes hok)
        by_cases h0 : 0 < x.t
        · by_cases hge : (n : Int) ≤ k + x.t + 1
          · have HN : Hid (¬ Good xs) := fun hg => by
              have := (s_of_good hg k x HXK.out).2
              rw [hx.out] at this
              exact this ⟨h0, hge⟩
            go_wp2
            go_ret
            exact ⟨ret_b (not_good hb.out HN.out), B2.out⟩
          · have HS : Hid (∀ j x, j < k + 1 → xs[j]? = some x → sfit n j x) := fun j y hj hy => by
              rcases Nat.lt_or_ge j k with h | h
              · exact HA.out j y h hy
              · obtain rfl : j = k := by omega
                rw [HXK.out] at hy
                cases hy
                exact ⟨hok, fun h => hge h.2⟩
            go_wp2
            go_roundw
            case rel => exact ⟨k + 1, by omega, by go_num, HS.out, B2.out⟩
            case measure => simp [intOf]; omega
        · have HS : Hid (∀ j x, j < k + 1 → xs[j]? = some x → sfit n j x) := fun j y hj hy => by
            rcases Nat.lt_or_ge j k with h | h
            · exact HA.out j y h hy
            · obtain rfl : j = k := by omega
              rw [HXK.out] at hy
              cases hy
              exact ⟨hok, fun h => h0 h.1⟩
          go_wp2
          go_roundw
          case rel => exact ⟨k + 1, by omega, by go_num, HS.out, B2.out⟩
          case measure => simp [intOf]; omega
    · obtain rfl : k = n := by omega
      by_cases hr : 1 ≤ (k : Int) ∧ (k : Int) ≤ 20
      · have hi : inB 1 20 k = true := by rw [HI.out]; exact decide_eq_true hr
        obtain ⟨m, rfl⟩ : ∃ m, k = m + 1 := ⟨k - 1, by omega⟩
        obtain ⟨x, hxk⟩ : ∃ x, xs[m]? = some x := ⟨_, List.getElem?_eq_getElem (by have := hx.out; omega)⟩
        obtain ⟨b1, off, rfl, hbl, ha⟩ := (hl.out.below B1.out) m x hxk
        have HXK := Lib.hid hxk
        clear hxk
        obtain ⟨e0, e1, e2, e3, e4, e5⟩ := ha
        have HR := Lib.hid hr
        go_wp2_with (first | (go_at_call 44; refine (l1In_any _ _ _ _).mono ?_; rintro e w' ⟨rfl, rfl⟩))
        go_ret
        refine ⟨ret_b ?_, B1.out⟩
        rw [Bool.eq_iff_iff, hb.out]
        constructor
        · intro h
          exact good_of_s hx.out (by have := hx.out; have := HR.out; omega) (fun i y hy => by
            have hlt : i < xs.length := (List.getElem?_eq_some_iff.1 hy).1
            rw [hx.out] at hlt ⊢
            exact HA.out i y hlt hy) HXK.out (by simpa using h)
        · intro h
          simpa using last_of_good h hx.out HXK.out
      · have hi : inB 1 20 k = false := by rw [HI.out]; exact decide_eq_false hr
        have HN : Hid (¬ Good xs) := fun hg => hr (by have := hg.1; rw [hx.out] at this; omega)
        go_wp2_with (first | (go_at_call 44; refine (l1In_any _ _ _ _).mono ?_; rintro e w' ⟨rfl, rfl⟩))
        go_ret
        exact ⟨ret_b (not_good hb.out HN.out), B1.out⟩

set_option maxRecDepth 100000 in
set_option maxHeartbeats 2000000 in
theorem implGood_any (A : Option Addr) (n cap : Nat) (xs : List Stp) (w : World) (b : Bool) (hb : Hid (b = true ↔ Good xs)) (hl : Hid (Lies w A xs)) (hx : Hid (xs.length = n)) (hn : n ≤ 1048576) :
    Calls Tryd.prog 36 #[.slice A n cap] w fun e w' => e = .returned (.bool b) ∧ Below w.heap.size w w' := by
  by_cases h1 : n < 1
  · have HN : Hid (¬ Good xs) := fun hg => by have := hg.1; rw [hx.out] at this; omega
    obtain rfl : n = 0 := by omega
    go_enter Tryd.func36, Tryd.ntmps36
    go_wp2
    go_ret
    exact ⟨ret_b (not_good hb.out HN.out), Below.refl _ _⟩
  by_cases h20 : 20 < n
  · have HN : Hid (¬ Good xs) := fun hg => by have := hg.1; rw [hx.out] at this; omega
    have h20' : (20 : Int) < (n : Int) := by omega
    go_enter Tryd.func36, Tryd.ntmps36
    go_wp2
    go_ret
    exact ⟨ret_b (not_good hb.out HN.out), Below.refl _ _⟩
  have d1 : decide ((n : Int) < 1) = false := by simp; omega
  have d20 : decide ((20 : Int) < (n : Int)) = false := by simp; omega
  go_enter Tryd.func36, Tryd.ntmps36
  go_wp2_with fail
  go_loopw [19] (fun i wr => ∃ k : Nat, k ≤ n ∧ i = .int .i64 k ∧ (∀ j x, j < k → xs[j]? = some x → fitAt n j x) ∧ Below w.heap.size w wr) (fun i _ => n - (intOf i).toNat)
  case atStart => exact ⟨0, Nat.zero_le _, rfl, fun j x h => absurd h (by omega), Below.refl _ _⟩
  case round =>
    obtain ⟨k, hk, rfl, hall, hbw⟩ := hrel
    have B1 := Lib.hid hbw
    have HA := Lib.hid hall
    clear hbw hall
    by_cases hlt : k < n
    · obtain ⟨x, hxk⟩ : ∃ x, xs[k]? = some x := ⟨_, List.getElem?_eq_getElem (by have := hx.out; omega)⟩
      obtain ⟨b1, off, rfl, hbl, ha⟩ := (hl.out.below B1.out) k x hxk
      have HXK := Lib.hid hxk
      clear hxk
      obtain ⟨e0, e1, e2, e3, e4, e5⟩ := ha
      go_wp2_with fail
      refine (formOf_any _ _ _ _ _ _ _).mono ?_
      rintro e w2 ⟨rfl, hb2⟩
      have H2 := Lib.hid (box_keep (box_new wr 67 x.k x.o x.d x.s x.i x.t) hb2)
      clear hb2 e0 e1 e2 e3 e4 e5
      have B2 := Lib.hid (Below.tr B1.out H2.out.1)
      cases hok : okB x.k x.o x.d x.s x.i x.t
      · have HN : Hid (¬ Good xs) := fun hg => by
          have := (hg.2 k x HXK.out).1
          rw [hok] at this
          cases this
        simp only [Bool.false_eq_true, if_false]
        go_wp2
        go_ret
        exact ⟨ret_b (not_good hb.out HN.out), B2.out⟩
      · simp only [if_true]
        have HF : Hid (okP x.k x.o x.d x.s x.i x.t) := okB_yes hok
        generalize hfv : frmV x.k x.o x.d x.s x.i x.t = fv
        have HFV := Lib.hid hfv
        clear hfv
        go_wp2_with fail
        rw [← HFV.out]
        refine (followers_any x.k x.o x.d x.s x.i x.t k _ HF.out (by omega)).mono ?_
        rintro e w3 ⟨A3, c3, rfl, hown, hb3⟩
        rw [HFV.out]
        have B3 := Lib.hid (Below.tr B2.out hb3)
        have IL := Lib.hid (own_ilies hown)
        clear hb3 hown
        obtain ⟨l, hle⟩ : ∃ l, nextsI x.k x.t k = l := ⟨_, rfl⟩
        rw [hle] at IL ⊢
        have HLE := Lib.hid hle
        have hl2 : l.length ≤ 2 := by rw [← hle]; unfold nextsI; split <;> (try split) <;> (try split) <;> simp
        clear hle
        go_wp2_with fail
        have HB3 := B3
        generalize wr = wo at B1 H2 B2
        go_loopw [35] (fun j wr => ∃ q : Nat, q ≤ l.length ∧ j = .int .i64 q ∧ (∀ i y, i < q → l[i]? = some y → y < n) ∧ ILies wr A3 l ∧ Below w.heap.size w wr) (fun j _ => l.length - (intOf j).toNat)
        case atStart => exact ⟨0, Nat.zero_le _, rfl, fun j x h => absurd h (by omega), IL.out, B3.out⟩
        case round =>
          obtain ⟨q, hq, rfl, hqa, hil, hqb⟩ := hrel
          have Q1 := Lib.hid hqa
          have IL2 := Lib.hid hil
          have B4 := Lib.hid hqb
          clear hqa hil hqb
          by_cases hql : q < l.length
          · obtain ⟨y, hy⟩ : ∃ y, l[q]? = some y := ⟨_, List.getElem?_eq_getElem hql⟩
            obtain ⟨b5, off5, rfl, hb5, hc5⟩ := IL2.out q y hy
            have HY := Lib.hid hy
            clear hy
            by_cases hyn : (n : Int) ≤ y
            · have HN : Hid (¬ Good xs) := fun hg => by
                have := (hg.2 k x HXK.out).2 y (by rw [HLE.out]; exact List.mem_of_getElem? HY.out)
                rw [hx.out] at this
                omega
              go_wp2
              go_ret
              exact ⟨ret_b (not_good hb.out HN.out), B4.out⟩
            · have HQ : Hid (∀ i z, i < q + 1 → l[i]? = some z → z < n) := fun i z hi hz => by
                rcases Nat.lt_or_ge i q with h | h
                · exact Q1.out i z h hz
                · obtain rfl : i = q := by omega
                  rw [HY.out] at hz
                  cases hz
                  omega
              go_wp2
              go_roundw
              case rel => exact ⟨q + 1, by omega, by go_num, HQ.out, IL2.out, B4.out⟩
              case measure => simp [intOf]; omega
          · have HS : Hid (∀ j x, j < k + 1 → xs[j]? = some x → fitAt n j x) := fun j z hj hz => by
              rcases Nat.lt_or_ge j k with h | h
              · exact HA.out j z h hz
              · obtain rfl : j = k := by omega
                rw [HXK.out] at hz
                cases hz
                refine ⟨hok, fun y hy => ?_⟩
                rw [HLE.out] at hy
                obtain ⟨i, hi, rfl⟩ := List.getElem_of_mem hy
                exact Q1.out i _ (by omega) (List.getElem?_eq_getElem hi)
            go_wp2
            go_roundw
            case rel => exact ⟨k + 1, by omega, by go_num, HS.out, B4.out⟩
            case measure => simp [intOf]; omega
    · obtain rfl : k = n := by omega
      have HG : Hid (Good xs) := ⟨by rw [hx.out]; omega, fun i y hy => by
        have hlt : i < xs.length := (List.getElem?_eq_some_iff.1 hy).1
        rw [hx.out] at hlt ⊢
        exact HA.out i y hlt hy⟩
      go_wp2
      go_ret
      exact ⟨ret_b (yes_good hb.out HG.out), B1.out⟩
end Go.Proofs.YtilnegmjnbffhaaDoor
