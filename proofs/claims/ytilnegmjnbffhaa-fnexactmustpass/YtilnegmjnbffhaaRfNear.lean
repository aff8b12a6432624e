/-
  lastCommon and slices.Reverse.
-/
import Derived.Test.YtilnegmjnbffhaaRfRep
namespace Go.Proofs.Ytilnegmjnbffhaa
open Go.ChangeShapes Go.WideShapes Go.ChangeAt Go.RowKit

set_option maxRecDepth 100000 in
set_option maxHeartbeats 4000000 in
theorem lastCommon_any (E : Nat → Nat → Bool) (n M gb a b r : Nat) (f : Nat → Int) (w : World) (hr : Hid (Blk w gb 3 (numsV n f))) (hf : Hid (∀ j, j ≤ M → f j = nearN E j)) (hM : M < n) (ha : a ≤ M) (hb : b ≤ M)
    (ra : Hid (rb E 0 a = true)) (rb' : Hid (rb E 0 b = true)) (hc : Hid (LastC E a b r)) :
    Calls Try.prog 68 #[.slice (some ⟨gb, 0, none⟩) n n, .int .i64 a, .int .i64 b] w fun e w' => e = .returned (.int .i64 r) ∧ w = w' := by
  go_enter Try.func68, Try.ntmps68
  go_wp2
  go_loop [1, 2] (fun u v => ∃ x y : Nat, u = .int .i64 x ∧ v = .int .i64 y ∧ x ≤ M ∧ y ≤ M ∧ rb E 0 x = true ∧ rb E 0 y = true ∧ LastC E x y r) (fun u v => (intOf u).toNat + (intOf v).toNat)
  case atStart => exact ⟨a, b, rfl, rfl, ha, hb, ra.out, rb'.out, hc.out⟩
  case round =>
    obtain ⟨x, y, rfl, rfl, hx, hy, rx, ry, hl⟩ := hrel
    have RX := Lib.hid rx
    have RY := Lib.hid ry
    have HL := Lib.hid hl
    clear rx ry hl
    rcases Nat.lt_trichotomy x y with q | q | q
    · obtain ⟨d, hd, hdy, rd, hdc⟩ := near_char RY.out (by omega)
      have hcell := (hr.out.cell y).trans (numsV_at f (by omega))
      rw [hf.out y hy, hd] at hcell
      have HC := Lib.hid (last_ex E (x + d) x d (Nat.le_refl _) RX.out rd)
      have RD := Lib.hid rd
      have HDC := Lib.hid hdc
      have hyn : (y : Int) < (n : Int) := by omega
      have hne : ((x : Int) != (y : Int)) = true := by simp; omega
      have hxy : (x : Int) ≤ (y : Int) := by omega
      clear hd rd hdc
      go_wp2
      go_round
      case rel =>
        obtain ⟨s, hs⟩ := HC.out
        have h2 := (last_step RX.out q HDC.out hs.comm).comm
        have e := LastC.unique h2 HL.out
        subst e
        exact ⟨x, d, rfl, rfl, hx, by omega, RX.out, RD.out, hs⟩
      case measure => simp [intOf]; omega
    · subst q
      have hne : ((x : Int) != (x : Int)) = false := by simp
      go_wp2
      go_ret
      have e : r = x := same_dom HL.out.1 RX.out (fun k => by rw [HL.out.2 k]; simp)
      subst e
      exact ⟨rfl, rfl⟩
    · obtain ⟨d, hd, hdy, rd, hdc⟩ := near_char RX.out (by omega)
      have hcell := (hr.out.cell x).trans (numsV_at f (by omega))
      rw [hf.out x hx, hd] at hcell
      have HC := Lib.hid (last_ex E (d + y) d y (Nat.le_refl _) rd RY.out)
      have RD := Lib.hid rd
      have HDC := Lib.hid hdc
      have hxn : (x : Int) < (n : Int) := by omega
      have hne : ((x : Int) != (y : Int)) = true := by simp; omega
      have hxy : (y : Int) < (x : Int) := by omega
      clear hd rd hdc
      go_wp2
      go_round
      case rel =>
        obtain ⟨s, hs⟩ := HC.out
        have h2 := last_step RY.out q HDC.out hs
        have e := LastC.unique h2 HL.out
        subst e
        exact ⟨d, y, rfl, rfl, by omega, hy, RD.out, RY.out, hs⟩
      case measure => simp [intOf]; omega
/-- a list of numbers as a row -/
theorem nums_list (l : List Int) : l.map (Value.int .i64) = numsV l.length (fun q => l.getD q 0) := by
  apply List.ext_getElem?
  intro j
  by_cases hj : j < l.length
  · rw [numsV_at _ hj, List.getElem?_map, List.getElem?_eq_getElem hj]
    simp [hj]
  · rw [List.getElem?_eq_none (by simp; omega), List.getElem?_eq_none (by rw [numsV_len]; omega)]
/-- p of a row's ends have been exchanged -/
def revF (n p : Nat) (f : Nat → Int) (q : Nat) : Int := if q < p ∨ n ≤ q + p then f (n - 1 - q) else f q
theorem rev_zero (n : Nat) (f : Nat → Int) : numsV n (revF n 0 f) = numsV n f := numsV_ext (fun j hj => by unfold revF; rw [if_neg (by omega)])
theorem rev_step (n p : Nat) (f : Nat → Int) (h : 2 * p + 1 < n) : ((numsV n (revF n p f)).set p (.int .i64 (f (n - 1 - p)))).set (n - 1 - p) (.int .i64 (f p)) = numsV n (revF n (p + 1) f) := by
  rw [numsV_set, numsV_set]
  refine numsV_ext (fun j hj => ?_)
  unfold revF
  by_cases e1 : j = n - 1 - p
  · rw [if_pos e1, if_pos (by omega)]
    congr 1; omega
  · rw [if_neg e1]
    by_cases e2 : j = p
    · subst e2
      rw [if_pos rfl, if_pos (by omega)]
    · rw [if_neg e2]
      by_cases e3 : j < p ∨ n ≤ j + p
      · rw [if_pos e3, if_pos (by omega)]
      · rw [if_neg e3, if_neg (by omega)]
theorem rev_end (l : List Int) (p : Nat) (h : ¬ 2 * p + 1 < l.length) : numsV l.length (revF l.length p (fun q => l.getD q 0)) = l.reverse.map (Value.int .i64) := by
  rw [nums_list l.reverse, List.length_reverse]
  refine numsV_ext (fun j hj => ?_)
  have e : l.reverse.getD j 0 = l.getD (l.length - 1 - j) 0 := by
    rw [List.getD_eq_getElem?_getD, List.getD_eq_getElem?_getD, List.getElem?_reverse hj]
  unfold revF
  rw [e]
  by_cases q : j < p ∨ l.length ≤ j + p
  · rw [if_pos q]
  · rw [if_neg q]; congr 1; omega
theorem rev_at {n p : Nat} (f : Nat → Int) (h : 2 * p + 1 < n) : (numsV n (revF n p f))[p]? = some (.int .i64 (f p)) ∧ (numsV n (revF n p f))[n - 1 - p]? = some (.int .i64 (f (n - 1 - p))) := by
  rw [numsV_at _ (by omega), numsV_at _ (by omega)]
  unfold revF
  exact ⟨by rw [if_neg (by omega)], by rw [if_neg (by omega)]⟩
set_option maxRecDepth 100000 in
set_option maxHeartbeats 4000000 in
theorem reverse_any (base n c : Nat) (A : Option Addr) (l : List Int) (w : World) (ho : Hid (w.ownsRow base 3 1 (.slice A n c) n (l.map (Value.int .i64)))) (hl : Hid (l.length = n)) (hn : n ≤ 1000000) :
    Calls Try.prog 56 #[.slice A n c] w fun e w' => (∃ v, e = .returned v) ∧ w'.ownsRow base 3 1 (.slice A n c) n (l.reverse.map (Value.int .i64)) ∧ w.grownBy w' (Value.slice A n c).ownBlock := by
  obtain ⟨f, hf⟩ : ∃ f : Nat → Int, (fun q => l.getD q 0) = f := ⟨_, rfl⟩
  have HF := Lib.hid hf
  have E0 : Hid (l.map (Value.int .i64) = numsV n f) := Lib.hid (by rw [nums_list, hl.out, hf])
  clear hf
  go_enter Try.func56, Try.ntmps56
  go_wp2
  go_loopw [2, 3] (fun i j wr => ∃ p : Nat, 2 * p ≤ n ∧ i = .int .i64 p ∧ j = .int .i64 ((n : Int) - 1 - p) ∧ wr.ownsRow base 3 1 (.slice A n c) n (numsV n (revF n p f)) ∧ w.grownBy wr (Value.slice A n c).ownBlock) (fun i _ _ => n - (intOf i).toNat)
  case atStart => exact ⟨0, by omega, rfl, by simp, by rw [rev_zero, ← E0.out]; exact ho.out, World.grownBy.refl _ _⟩
  case round =>
    obtain ⟨p, hp, rfl, rfl, hown, hgr⟩ := hrel
    have O1 := Lib.hid hown
    have G1 := Lib.hid hgr
    clear hown hgr
    by_cases hlt : 2 * p + 1 < n
    · obtain ⟨g, cap, hv, hbg, hgl⟩ := O1.out.form (by omega)
      have hA : A = some ⟨g, 0, none⟩ := by injection hv
      clear hv
      subst hA
      obtain ⟨m, hm⟩ : ∃ m, n - 1 - p = m := ⟨_, rfl⟩
      obtain ⟨r1, r2⟩ := rev_at f hlt
      rw [hm] at r2
      have hmi : (n : Int) - 1 - (p : Int) = (m : Int) := by omega
      rw [hmi]
      have c1 := O1.out.cells (g := g) rfl p _ r1
      have c2 := O1.out.cells (g := g) rfl m _ r2
      rw [add_plain, Nat.zero_add] at c1 c2
      have O2 := O1.out.stored p (.int .i64 (f m))
      have O3 := O2.1.stored m (.int .i64 (f p))
      have hfz : ∀ j, wr.frozen? ⟨g, j, none⟩ = false := by
        rcases O1.out.2 with ⟨h', _⟩ | ⟨g', cap', cur, h', hb, hg, hnc, hcm, hcs, htake⟩
        · simp at h'
        · simp only [Value.slice.injEq, Option.some.injEq, Addr.mk.injEq, and_true, true_and] at h'
          obtain ⟨rfl, rfl⟩ := h'
          intro j; simp [World.frozen?, hg]
      have f1 := hfz p
      have f2 := hfz m
      have hpm : p ≠ m := by omega
      have hpi : (p : Int) < (m : Int) := by omega
      have hmn : (m : Int) < (n : Int) := by omega
      have HO3 := Lib.hid O3
      have HO2 := Lib.hid O2
      have ES := Lib.hid (rev_step n p f hlt)
      rw [hm] at ES
      have HMI := Lib.hid hmi
      clear O2 O3 hfz hm hmi r1 r2
      go_wp2
      go_region
      go_wp2
      have gz := grown_trans (grown_trans G1.out HO2.out.2) HO3.out.2
      go_roundw
      case rel => exact ⟨p + 1, by omega, by go_num, by congr 1; have := HMI.out; omega, by rw [← ES.out]; exact HO3.out.1, ⟨gz.os, gz.tape, gz.output, gz.size, gz.block⟩⟩
      case measure => simp [intOf]; omega
    · have hle : (n : Int) - 1 - (p : Int) ≤ (p : Int) := by omega
      go_wp2
      go_end0
      refine ⟨⟨_, rfl⟩, ?_, G1.out⟩
      have e := O1.out
      rw [← HF.out, ← hl.out, rev_end l p (by rw [hl.out]; exact hlt)] at e
      rw [← hl.out]
      exact e
end Go.Proofs.Ytilnegmjnbffhaa
