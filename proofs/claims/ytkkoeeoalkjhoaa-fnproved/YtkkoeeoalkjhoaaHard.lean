/-
  The drawing of clauses that mostly have no model.
-/
import Derived.Test.YtkkoeeoalkjhoaaDrawFol
import Derived.Test.YtkkoeeoalkjhoaaPf
namespace Go.Proofs.Ytkkoeeoalkjhoaa
open Go.ChangeShapes Go.WideShapes Go.ChangeAt Go.RowKit

/-- it answers clauses of its own, drawn, and how many variables there are -/
def GaveH (c K : Nat) (w : World) (e : Ending) (w' : World) : Prop :=
  ∃ (v : Int) (L : List (List Int)) (A : Option Addr) (cap : Nat) (vs : List Value), e = .returned (.tuple #[.int .i64 v, .slice A L.length cap]) ∧ (0 ≤ v ∧ v ≤ 13) ∧ L.length ≤ 60 ∧ tot L ≤ 200 ∧
    OwnSS w' w.heap.size (.slice A L.length cap) vs L ∧ Cur w' c K ∧ w.grownBy w' (some c)
set_option maxRecDepth 100000 in
set_option maxHeartbeats 16000000 in
theorem hard_any (c K : Nat) (w : World) (h : Hid (Cur w c K)) (hK : K ≤ 600000000) :
    Calls Try.prog 69 #[.pointer (some ⟨c, 0, none⟩)] w (GaveH c (K + 1300) w) := by
  obtain ⟨iS, hiS, hs0, hs1, hs2⟩ := info_parts info_ints
  have hcl : Hid (c < w.heap.size) := Lib.hid h.out.lt
  go_enter Try.func69, Try.ntmps69
  go_wp2_with fail
  refine (clauses_any c K _ h (by omega)).mono ?_
  rintro e w1 ⟨v, L, A, cp, vs, rfl, hv, hL, hT, ho, hc, hg⟩
  have O1 := Lib.hid ho
  have C1 := Lib.hid hc
  have G1 := Lib.hid hg
  have hv1 := hv.1
  have hv2 := hv.2
  clear ho hc hg h hv
  obtain ⟨n, hn⟩ : ∃ n, L.length = n := ⟨_, rfl⟩
  rw [hn] at hL O1 ⊢
  have HX := Lib.hid hn
  clear hn
  by_cases h2 : v < 2
  · have hd : decide (v < 2) = true := by simpa using h2
    go_wp2
    go_ret2
    exact ⟨v, L, A, cp, vs, by rw [HX.out]; rfl, ⟨hv1, hv2⟩, by rw [HX.out]; omega, by omega, by rw [HX.out]; exact O1.out, C1.out.mono (by omega), G1.out⟩
  have hd : decide (v < 2) = false := by simpa using h2
  by_cases h6 : 6 < v
  · have hd6 : decide (v > 6) = true := by simpa using h6
    go_wp2
    go_ret2
    exact ⟨v, L, A, cp, vs, by rw [HX.out]; rfl, ⟨hv1, hv2⟩, by rw [HX.out]; omega, by omega, by rw [HX.out]; exact O1.out, C1.out.mono (by omega), G1.out⟩
  have hd6 : decide (v > 6) = false := by simpa using h6
  go_wp2_with fail
  refine (one_any c _ _ _ C1 (by omega) (by omega) (by omega)).mono ?_
  rintro e w2 ⟨b, rfl, hc2, hg2⟩
  have C2 := Lib.hid hc2
  have O2 := Lib.hid (O1.out.read hg2 hcl.out)
  have G2 := Lib.hid (grownC_trans G1.out hg2)
  clear hc2 hg2 C1 O1 G1
  cases b
  rotate_left
  · go_wp2
    go_ret2
    exact ⟨v, L, A, cp, vs, by rw [HX.out]; rfl, ⟨hv1, hv2⟩, by rw [HX.out]; omega, by omega, by rw [HX.out]; exact O2.out, C2.out.mono (by omega), G2.out⟩
  go_wp2_with fail
  refine (pick_any c _ _ _ C2 (by omega) (by omega) (by omega)).mono ?_
  rintro e w3 ⟨n1, ⟨l1, u1⟩, rfl, hc3, hg3⟩
  have C3 := Lib.hid hc3
  have O3 := Lib.hid (O2.out.read hg3 hcl.out)
  have G3 := Lib.hid (grownC_trans G2.out hg3)
  clear hc3 hg3 C2 O2 G2
  obtain ⟨k1, rfl⟩ : ∃ k : Nat, n1 = k := ⟨n1.toNat, by omega⟩
  go_wp2_with fail
  go_loopw [5, 6] (fun u i wr => ∃ (k p : Nat) (L : List (List Int)), i = .int .i64 k ∧ k ≤ 21 ∧ L.length = p ∧ p + k ≤ 34 ∧ tot L + 2 * k ≤ 142 ∧ (∃ A cp vs, u = .slice A p cp ∧ OwnSS wr w.heap.size (.slice A p cp) vs L) ∧ Cur wr c (K + 1004 + 8 * (21 - k)) ∧ w.grownBy wr (some c)) (fun _ i _ => (intOf i).toNat)
  case atStart => exact ⟨12 + k1, n, L, by first | rfl | (congr 1; omega), by omega, HX.out, by omega, by omega, ⟨A, cp, vs, rfl, O3.out⟩, C3.out.mono (by omega), G3.out⟩
  case round =>
    clear C3 O3 G3 HX hL hT
    obtain ⟨k, p, L, rfl, hk, hp, hpk, htk, ⟨A2, d2, vs, rfl, how⟩, hcw, hgw⟩ := hrel
    have OW := Lib.hid how
    have CW := Lib.hid hcw
    have GW := Lib.hid hgw
    have HP := Lib.hid hp
    have ZW : w.heap.size ≤ wr.heap.size := hgw.size
    clear how hcw hgw hp
    by_cases hk0 : 0 < k
    · have hkd : decide ((k : Int) > 0) = true := by simp; omega
      go_wp2_with fail
      refine (lit_any c _ v _ CW (by omega) (by omega) (by omega)).mono ?_
      rintro e w4 ⟨x, _, rfl, hc4, hg4⟩
      have C4 := Lib.hid hc4
      have O4 := Lib.hid (OW.out.read hg4 hcl.out)
      have G4 := Lib.hid (grownC_trans GW.out hg4)
      have Z4 := hg4.size
      clear hc4 hg4 CW
      go_wp2_with fail
      refine (lit_any c _ v _ C4 (by omega) (by omega) (by omega)).mono ?_
      rintro e w5 ⟨y, _, rfl, hc5, hg5⟩
      have C5 := Lib.hid hc5
      have O5 := Lib.hid (O4.out.read hg5 hcl.out)
      have G5 := Lib.hid (grownC_trans G4.out hg5)
      have Z5 := hg5.size
      clear hc5 hg5 C4 O4 G4
      obtain ⟨r, br, hrb⟩ := opt_any (cleanB [x, y])
      have HR := Lib.hid hrb
      have hrl : r.length ≤ 2 := by have := clean_le hrb; simpa using this
      have HXY : Hid ([x, y].length = 2) := Lib.hid rfl
      have IXY : Hid (ILies (w5.alloc (.cells #[.int .i64 x, .int .i64 y] 3)) (some ⟨w5.heap.size, 0, none⟩) [x, y]) := Lib.hid (own_ilies (own_row w5 [x, y] w5.heap.size (Nat.le_refl _) (by unfold maxLen; simp)))
      have BA := below1 w5 (.cells #[.int .i64 x, .int .i64 y] 3)
      have CA := Lib.hid (C5.out.below BA)
      have OA := Lib.hid (O5.out.below BA)
      have GA := Lib.hid (grownC_trans G5.out (grown_of_below BA))
      clear hrb BA C5 O5 G5
      go_wp2_with fail
      refine (specClean_any _ _ _ [x, y] _ r br HR IXY HXY (by omega)).mono ?_
      rintro e w6 ⟨A6, c6, rfl, ho6, hb6⟩
      have O6 := Lib.hid (own_base (base' := wr.heap.size) ho6 (by simp; omega))
      have C6 := Lib.hid (CA.out.below hb6)
      have OJ6 := Lib.hid (OA.out.below hb6)
      have G6 := Lib.hid (grownC_trans GA.out (grown_of_below hb6))
      have Z6 := hb6.size
      clear ho6 hb6 CA OA GA IXY
      cases br
      · go_wp2
        go_roundw
        case rel => exact ⟨k - 1, p, L, int_cast_sub hk0, by omega, HP.out, by omega, by omega, ⟨A2, d2, vs, rfl, OJ6.out⟩, C6.out.mono (by omega), G6.out⟩
        case measure => simp [intOf]; omega
      · have OU : Hid (w6.ownsRow w.heap.size 40 1 (.slice A2 p d2) p vs) := Lib.hid (by have h := OJ6.out.outer; rw [HP.out] at h; exact h)
        obtain ⟨z, hz⟩ : ∃ z, r.length = z := ⟨_, rfl⟩
        have HZ := Lib.hid hz
        rw [hz] at hrl ⊢
        clear hz
        have h60 : decide ((p : Int) < 60) = true := by simp; omega
        go_wp2_with (at_builtin; (refine wpList_append_lies _ rfl _ _ 23 rfl w.heap.size 40 iS (.slice none 0 0) 1 24 Try.underlying23 hiS hs0 hs1 hs2 rfl (by omega) _ p _ rfl (OU.out.alloc _) ⟨w6.heap.size, 0, none⟩ 1 1 [.slice A6 z c6] rfl rfl (one_new1 w6 _ _) (by intro u hu; rw [List.mem_singleton.1 hu]; rfl) (by omega) (by unfold maxLen; omega) (by omega) (by have := G6.out.size; first | omega | (simp; omega)) (w6.heap.size + 1) (by first | rfl | simp) ?_; intro g7 cap7 w7 hown7 hg7 hat7 hlt7; have H7 := Lib.hid (OwnSS.grow2 (o := r) (c3 := c6) (A3 := A6) (lo := wr.heap.size) HP.out OJ6.out ZW (fun g h => (OW.out.outer.lt g h).2) (fun g h => (OW.out.inner.lt g h).2) O6.out (by rw [HZ.out]; exact hown7) (by rw [HZ.out]; exact hg7) hat7); have C7 := Lib.hid ((C6.out.alloc _).grown hg7 (fun g e => by have := (OU.out.lt g e).1; have := hcl.out; omega)); have G7 := Lib.hid (grown_app G6.out hg7 (fun g e => (OU.out.lt g e).1)); clear hown7 hg7 hat7 hlt7))
        go_roundw
        case rel => exact ⟨k - 1, p + 1, L ++ [r], int_cast_sub hk0, by omega, by rw [List.length_append, HP.out]; rfl, by omega, by have := HZ.out; rw [tot_snoc]; omega, ⟨some ⟨g7, 0, none⟩, cap7, _, rfl, H7.out⟩, C7.out.mono (by omega), G7.out⟩
        case measure => simp [intOf]; omega
    · obtain rfl : k = 0 := by omega
      go_wp2
      go_ret2
      exact ⟨v, L, A2, d2, vs, by rw [HP.out]; rfl, ⟨hv1, hv2⟩, by rw [HP.out]; omega, by omega, by rw [HP.out]; exact OW.out, CW.out.mono (by omega), GW.out⟩
end Go.Proofs.Ytkkoeeoalkjhoaa
