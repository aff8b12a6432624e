/-
  Contracts of NextsOf: the model's and the program's; the walk of its law.
-/
import Derived.Test.YtilnegmjnbffhaaDoorMarks2
import Derived.Test.YtilnegmjnbffhaaDoorTwo
namespace Go.Proofs.YtilnegmjnbffhaaDoor
open Go.ChangeShapes Go.WideShapes Go.ChangeAt Go.RowKit

set_option maxRecDepth 100000 in
set_option maxHeartbeats 2000000 in
theorem l2Nexts_any (A : Option Addr) (n cap k : Nat) (x : Stp) (w : World) (xs : List Stp) (hl : Hid (Lies w A xs)) (hx : Hid (xs[k]? = some x)) (hok : okP x.k x.o x.d x.s x.i x.t) (hk : k < n) (hn : n ≤ 1048576) :
    Calls Tryd.prog 48 #[.slice A n cap, .int .i64 k] w (GaveInts w (nextsI x.k x.t k)) := by
  obtain ⟨b1, off, rfl, hbl, ha⟩ := hl.out k x hx.out
  obtain ⟨e0, e1, e2, e3, e4, e5⟩ := ha
  obtain ⟨-, -, -, -, -, ht⟩ := okP_bounds hok
  clear hok
  by_cases h11 : x.k = 11
  · have he : nextsI x.k x.t k = [] := by unfold nextsI; rw [if_pos h11]
    have q1 : (x.k == 11) = true := by simp [h11]
    rw [he]
    clear he h11
    go_enter Tryd.func48, Tryd.ntmps48
    go_wp2
    go_ret
    exact gave_nil w _ (below1 _ _)
  · have q1 : (x.k == 11) = false := by simp [h11]
    by_cases h8 : x.k = 8
    · have he : nextsI x.k x.t k = [(k : Int) + x.t + 1] := by unfold nextsI; rw [if_neg h11, if_pos h8]
      have q2 : (x.k == 8) = true := by simp [h8]
      rw [he]
      clear he h11 h8
      go_enter Tryd.func48, Tryd.ntmps48
      go_wp2
      go_ret
      exact gave_of (w1 := w.alloc _) [(k : Int) + x.t + 1] (below1 _ _) (by simp) (by simp) (by simp)
    · have q2 : (x.k == 8) = false := by simp [h8]
      by_cases h9 : x.k = 9 ∨ x.k = 10
      · have he : nextsI x.k x.t k = [(k : Int) + 1, (k : Int) + x.t + 1] := by unfold nextsI; rw [if_neg h11, if_neg h8, if_pos h9]
        rw [he]
        clear he h11 h8
        cases q3 : (x.k == 9)
        · have q4 : (x.k == 10) = true := by simp at q3 ⊢; omega
          clear h9
          go_enter Tryd.func48, Tryd.ntmps48
          go_wp2
          go_ret
          exact gave_of (w1 := w.alloc _) [(k : Int) + 1, (k : Int) + x.t + 1] (below1 _ _) (by simp) (by simp) (by simp)
        · clear h9
          go_enter Tryd.func48, Tryd.ntmps48
          go_wp2
          go_ret
          exact gave_of (w1 := w.alloc _) [(k : Int) + 1, (k : Int) + x.t + 1] (below1 _ _) (by simp) (by simp) (by simp)
      · have he : nextsI x.k x.t k = [(k : Int) + 1] := by unfold nextsI; rw [if_neg h11, if_neg h8, if_neg h9]
        have q3 : (x.k == 9) = false := by simp; omega
        have q4 : (x.k == 10) = false := by simp; omega
        rw [he]
        clear he h11 h8 h9
        go_enter Tryd.func48, Tryd.ntmps48
        go_wp2
        go_ret
        exact gave_of (w1 := w.alloc _) [(k : Int) + 1] (below1 _ _) (by simp) (by simp) (by simp)

/-- what NextsOf answers -/
def NextsRes (xs : List Stp) (n : Nat) (at_ : Int) (b : Bool) (l : List Int) : Prop :=
  (b = true ↔ Good xs ∧ 0 ≤ at_ ∧ at_ < n) ∧ (b = false → l = []) ∧ (b = true → ∀ x, xs[at_.toNat]? = some x → l = nextsI x.k x.t at_)
theorem nexts_res (xs : List Stp) (n : Nat) (hx : xs.length = n) (at_ : Int) : ∃ b l, NextsRes xs n at_ b l := by
  rcases Classical.em (Good xs ∧ 0 ≤ at_ ∧ at_ < n) with h | h
  · have hlt : at_.toNat < xs.length := by omega
    refine ⟨true, nextsI (xs[at_.toNat]).k (xs[at_.toNat]).t at_, ⟨fun _ => h, fun _ => rfl⟩, (fun e => by cases e), fun _ x hx' => ?_⟩
    rw [List.getElem?_eq_getElem hlt] at hx'
    cases hx'
    rfl
  · exact ⟨false, [], ⟨(fun e => by cases e), fun e => absurd e h⟩, fun _ => rfl, (fun e => by cases e)⟩
theorem NextsRes.no {xs : List Stp} {n : Nat} {at_ : Int} {b : Bool} {l : List Int} (h : NextsRes xs n at_ b l) (hn : ¬ (Good xs ∧ 0 ≤ at_ ∧ at_ < n)) : b = false ∧ l = [] := by
  cases b
  · exact ⟨rfl, h.2.1 rfl⟩
  · exact absurd (h.1.1 rfl) hn
theorem nexts_len (k t a : Int) : (nextsI k t a).length ≤ 2 := by unfold nextsI; split <;> (try split) <;> (try split) <;> simp
theorem NextsRes.len {xs : List Stp} {n : Nat} {at_ : Int} {b : Bool} {l : List Int} (h : NextsRes xs n at_ b l) (hx : xs.length = n) : l.length ≤ 2 := by
  cases b
  · rw [h.2.1 rfl]; simp
  · obtain ⟨_, h0, h1⟩ := h.1.1 rfl
    have hlt : at_.toNat < xs.length := by omega
    rw [h.2.2 rfl _ (List.getElem?_eq_getElem hlt)]
    exact nexts_len _ _ _

set_option maxRecDepth 100000 in
set_option maxHeartbeats 2000000 in
theorem implNexts_any (A : Option Addr) (n cap : Nat) (xs : List Stp) (at_ : Int) (w : World) (b : Bool) (l : List Int) (hr : Hid (NextsRes xs n at_ b l)) (hl : Hid (Lies w A xs)) (hx : Hid (xs.length = n)) (hn : n ≤ 1048576) :
    Calls Tryd.prog 40 #[.slice A n cap, .int .i64 at_] w (GaveTwo w l b) := by
  obtain ⟨g, hg⟩ := good_bool xs
  have HG := Lib.hid hg
  clear hg
  go_enter Tryd.func40, Tryd.ntmps40
  go_wp2_with fail
  refine (implGood_any _ _ _ xs _ g HG hl hx hn).mono ?_
  rintro e w1 ⟨rfl, hb1⟩
  have B1 := Lib.hid hb1
  clear hb1
  cases g
  · obtain ⟨rfl, rfl⟩ := hr.out.no (fun h => absurd (HG.out.2 h.1) (by simp))
    go_wp2
    go_ret2
    exact two_nil w _ B1.out
  · by_cases h0 : at_ < 0
    · obtain ⟨rfl, rfl⟩ := hr.out.no (fun h => by omega)
      go_wp2
      go_ret2
      exact two_nil w _ B1.out
    · by_cases h1 : at_ < n
      · obtain ⟨k, rfl⟩ := Int.eq_ofNat_of_zero_le (show 0 ≤ at_ by omega)
        have hkn : k < n := by omega
        have hbt : b = true := hr.out.1.2 ⟨HG.out.1 rfl, by omega, h1⟩
        subst hbt
        obtain ⟨x, hxk⟩ : ∃ x, xs[k]? = some x := ⟨_, List.getElem?_eq_getElem (by have := hx.out; omega)⟩
        have hle : l = nextsI x.k x.t k := hr.out.2.2 rfl x (by simpa using hxk)
        subst hle
        have HXK := Lib.hid hxk
        clear hxk
        have HOK := Lib.hid ((HG.out.1 rfl).2 k x HXK.out).1
        have hlt' : ((k : Int) < (n : Int)) := by omega
        obtain ⟨b1, off, rfl, hbl, ha⟩ := (hl.out.below B1.out) k x HXK.out
        obtain ⟨e0, e1, e2, e3, e4, e5⟩ := ha
        go_wp2_with fail
        refine (formOf_any _ _ _ _ _ _ _).mono ?_
        rintro e w2 ⟨rfl, hb2⟩
        have B2 := Lib.hid (Below.tr B1.out hb2)
        clear hb2 e0 e1 e2 e3 e4 e5
        rw [HOK.out]
        simp only [if_true]
        generalize hfv : frmV x.k x.o x.d x.s x.i x.t = fv
        have HFV := Lib.hid hfv
        clear hfv
        go_wp2_with fail
        rw [← HFV.out]
        refine (followers_any x.k x.o x.d x.s x.i x.t k _ (okB_yes HOK.out) (by omega)).mono ?_
        rintro e w3 ⟨A3, c3, rfl, hown, hb3⟩
        rw [HFV.out]
        have O3 := Lib.hid hown
        have B3 := Lib.hid (Below.tr B2.out hb3)
        clear hown hb3
        go_wp2
        go_ret2
        exact ⟨A3, c3, rfl, own_base O3.out B2.out.size, B3.out⟩
      · obtain ⟨rfl, rfl⟩ := hr.out.no (fun h => by omega)
        have h1' : (n : Int) ≤ at_ := by omega
        go_wp2
        go_ret2
        exact two_nil w _ B1.out

theorem own_of_blk {w : World} {g n : Nat} {xs : List Stp} (h : Blk w g 67 (cellsOf xs)) (hx : xs.length = n) (hn : n ≤ 1048576) : w.ownsRow g 67 6 (.slice (some ⟨g, 0, none⟩) n n) n (cellsOf xs) := by
  have hl := cellsOf_len xs
  refine ⟨by rw [hl, hx], .inr ⟨g, n, (cellsOf xs).toArray, rfl, Nat.le_refl _, h, Nat.le_refl _, by unfold maxLen; omega, by simp [hl, hx], ?_⟩⟩
  exact List.take_of_length_le (by simp [hl, hx])
end Go.Proofs.YtilnegmjnbffhaaDoor
