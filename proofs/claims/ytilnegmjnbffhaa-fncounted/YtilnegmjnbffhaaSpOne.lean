/-
  The model's ReachedIn, AheadOf, EndsFrom.
-/
import Derived.Test.YtilnegmjnbffhaaSpReach
import Derived.Test.YtilnegmjnbffhaaRfAhead
namespace Go.Proofs.Ytilnegmjnbffhaa
open Go.ChangeShapes Go.WideShapes Go.ChangeAt Go.RowKit

/-- an append of one number to a row of one's own -/
theorem row_two {w w2 : World} {r : List Int} {l : List Int} {A : Option Addr} {c : Nat} (e : r = l) (ho : w2.ownsRow w.heap.size 3 1 (.slice A r.length c) r.length (r.map (Value.int .i64))) (hb : Below w.heap.size w w2) : GaveTwo w l true (.returned (.tuple #[.slice A r.length c, .bool true])) w2 := by
  subst e; exact ⟨A, c, rfl, ho, hb⟩
set_option maxRecDepth 100000 in
set_option maxHeartbeats 2000000 in
theorem specReached_any (A : Option Addr) (n cap : Nat) (xs : List Stp) (w : World) (b : Bool) (l : List Int) (hr : Hid (TwoRes (Good xs) (reachR xs) b l)) (hl : Hid (Lies w A xs)) (hx : Hid (xs.length = n)) (hn : n ≤ 1048576) :
    Calls Try.prog 26 #[.slice A n cap] w (GaveTwo w l b) := by
  go_enter Try.func26, Try.ntmps26
  go_wp2_with fail
  refine (specGood_any _ _ _ xs _ b (Lib.hid hr.out.1) hl hx hn).mono ?_
  rintro e w1 ⟨rfl, hb1⟩
  have B1 := Lib.hid hb1
  clear hb1
  cases b
  · obtain rfl := hr.out.2.1 rfl
    go_wp2
    go_ret2
    exact two_nil w _ B1.out
  · have GX := Lib.hid (hr.out.1.1 rfl)
    have hle := hr.out.2.2 rfl
    subst hle
    obtain ⟨hn0, hn20⟩ := good_20 GX.out hx.out
    go_wp2_with fail
    refine (l11Reached_any _ _ _ 0 xs _ GX (Lib.hid (hl.out.below B1.out)) hx hn0).mono ?_
    rintro e w2 ⟨A2, c2, rfl, hown, hb2⟩
    have er : castL (reachL (edg (ktOf xs)) n 0) = reachR xs := by unfold reachR; rw [hx.out]
    rw [er] at hown ⊢
    have O2 := Lib.hid (own_base hown B1.out.size)
    have B2 := Lib.hid (Below.tr B1.out hb2)
    clear hown hb2 er
    go_wp2
    go_ret2
    exact ⟨A2, c2, rfl, O2.out, B2.out⟩
theorem there_b (xs : List Stp) (n : Nat) (at_ : Int) : ∃ b : Bool, b = true ↔ There xs n at_ := by
  rcases Classical.em (There xs n at_) with h | h
  · exact ⟨true, fun _ => h, fun _ => rfl⟩
  · exact ⟨false, (fun e => by cases e), fun e => absurd e h⟩
set_option maxRecDepth 100000 in
set_option maxHeartbeats 2000000 in
theorem l11There_any (A : Option Addr) (n cap : Nat) (at_ : Int) (xs : List Stp) (w : World) (b : Bool) (hb : Hid (b = true ↔ There xs n at_)) (hl : Hid (Lies w A xs)) (hx : Hid (xs.length = n)) (hn : n ≤ 1048576) :
    Calls Try.prog 40 #[.slice A n cap, .int .i64 at_] w fun e w' => e = .returned (.bool b) ∧ Below w.heap.size w w' := by
  obtain ⟨g, hg⟩ := good_bool xs
  have HG := Lib.hid hg
  clear hg
  go_enter Try.func40, Try.ntmps40
  go_wp2_with fail
  refine (specGood_any _ _ _ xs _ g HG hl hx hn).mono ?_
  rintro e w1 ⟨rfl, hb1⟩
  have B1 := Lib.hid hb1
  clear hb1
  cases g
  · have hbf : b = false := by
      cases b
      · rfl
      · exact absurd (HG.out.2 (hb.out.1 rfl).1) (by simp)
    subst hbf
    go_wp2
    go_ret
    exact ⟨rfl, B1.out⟩
  · have GX := Lib.hid (HG.out.1 rfl)
    by_cases h0 : 0 ≤ at_
    · by_cases h1 : at_ < n
      · have hbt : b = true := hb.out.2 ⟨GX.out, h0, h1⟩
        subst hbt
        go_wp2
        go_ret
        exact ⟨rfl, B1.out⟩
      · have hbf : b = false := by
          cases b
          · rfl
          · exact absurd (hb.out.1 rfl).2.2 h1
        subst hbf
        have h1' : (n : Int) ≤ at_ := by omega
        go_wp2
        go_ret
        exact ⟨ret_bool (decide_eq_false (by omega)), B1.out⟩
    · have hbf : b = false := by
        cases b
        · rfl
        · exact absurd (hb.out.1 rfl).2.1 h0
      subst hbf
      have h0' : at_ < 0 := by omega
      go_wp2
      go_ret
      exact ⟨rfl, B1.out⟩
theorem mem_row {xs : List Stp} {i : Nat} {u : Int} {n f : Nat} (hx : xs.length = n) (h : (castL (reachL (edg (ktOf xs)) n f))[i]? = some u) : ∃ a : Nat, u = (a : Int) ∧ a < n ∧ ∃ x, xs[a]? = some x := by
  obtain ⟨a, ha, e⟩ := castL_mem.1 (List.mem_of_getElem? h)
  have := (mem_reach.1 ha).1
  exact ⟨a, e.symm, this, _, List.getElem?_eq_getElem (by omega)⟩
set_option maxRecDepth 100000 in
set_option maxHeartbeats 4000000 in
theorem l11Ahead_any (A : Option Addr) (n cap : Nat) (f : Nat) (xs : List Stp) (w : World) (hg : Hid (Good xs)) (hl : Hid (Lies w A xs)) (hx : Hid (xs.length = n)) :
    Calls Try.prog 42 #[.slice A n cap, .int .i64 f] w (GaveRow w.heap.size w (castL (aheadL (edg (ktOf xs)) n f))) := by
  obtain ⟨hn0, hn20⟩ := good_20 hg.out hx.out
  obtain ⟨i0, hi0, hz0, hz1, hz2⟩ := info_parts info_int
  obtain ⟨R, hR⟩ : ∃ R, castL (reachL (edg (ktOf xs)) n 0) = R := ⟨_, rfl⟩
  have HR := Lib.hid hR
  have hrl := reach_len (edg (ktOf xs)) n 0
  go_enter Try.func42, Try.ntmps42
  go_wp2_with fail
  refine (l11Reached_any _ _ _ 0 xs _ hg hl hx hn0).mono ?_
  rintro e w1 ⟨A1, c1, rfl, hown1, hb1⟩
  rw [hR] at hown1 hrl ⊢
  obtain ⟨z, hz⟩ : ∃ z, R.length = z := ⟨_, rfl⟩
  have HZ := Lib.hid hz
  rw [hz] at hown1 hrl ⊢
  have B1 := Lib.hid hb1
  have I1 := Lib.hid (own_ilies hown1)
  clear hown1 hb1 hR hz
  go_wp2_with fail
  go_loopw [5, 11] (fun ov iv wr => ∃ (k : Nat) (A2 : Option Addr) (c2 v : Nat), k ≤ z ∧ iv = .int .i64 k ∧ ((R.take k).filter (fun u => edg (ktOf xs) u.toNat f)).length = v ∧ ov = .slice A2 v c2 ∧ wr.ownsRow w1.heap.size 3 1 (.slice A2 v c2) v (((R.take k).filter (fun u => edg (ktOf xs) u.toNat f)).map (Value.int .i64)) ∧ Below w1.heap.size w1 wr) (fun _ i _ => z - (intOf i).toNat)
  case atStart => exact ⟨0, none, 0, 0, Nat.zero_le _, rfl, rfl, rfl, World.ownsRow_nil _ _ _ _, Below.refl _ _⟩
  case round =>
    obtain ⟨k, A2, c2, v, hk, rfl, hv, rfl, hown, hb⟩ := hrel
    have O1 := Lib.hid hown
    have C1 := Lib.hid hb
    have HV := Lib.hid hv
    have hv20 : v ≤ 20 := by
      have h1 := List.length_filter_le (fun u : Int => edg (ktOf xs) u.toNat f) (R.take k)
      have h2 : (R.take k).length ≤ R.length := by rw [List.length_take]; exact Nat.min_le_right _ _
      have := HZ.out
      omega
    clear hown hb hv
    by_cases hlt : k < z
    · obtain ⟨u, hu⟩ : ∃ u, R[k]? = some u := ⟨_, List.getElem?_eq_getElem (by have := HZ.out; omega)⟩
      obtain ⟨a, rfl, han, x, hxa⟩ := mem_row hx.out (by rw [HR.out]; exact hu)
      obtain ⟨b5, off5, rfl, hb5, hc5⟩ := (I1.out.below C1.out) k _ hu
      have HU := Lib.hid (take_snoc hu)
      have HXA := Lib.hid hxa
      have HOK := Lib.hid (okB_yes (hg.out.2 a x hxa).1)
      have L1 := Lib.hid (hl.out.below (Below.tr B1.out C1.out))
      have HED := Lib.hid (show decide ((f : Int) ∈ nextsI x.k x.t a) = edg (ktOf xs) a f from by
        have h := edg_iff (ktOf_at hxa) (b := f)
        cases q : edg (ktOf xs) a f
        · exact decide_eq_false (fun r => by have := h.2 r; rw [q] at this; cases this)
        · exact decide_eq_true (h.1 q))
      clear hu hxa
      go_wp2_with fail
      refine (l2Nexts_any _ _ _ a x _ xs L1 HXA HOK.out han (by omega)).mono ?_
      rintro e w3 ⟨A3, c3, rfl, hown3, hb3⟩
      have I3 := Lib.hid (own_ilies hown3)
      have O3 := Lib.hid (own_below O1.out hb3)
      have C3 := Lib.hid (Below.tr C1.out hb3)
      have hl3 := nexts_len x.k x.t a
      clear hown3 hb3
      cases q : edg (ktOf xs) a f
      · have HQ := Lib.hid q
        clear q
        go_wp2_with (go_at_call 51; refine (l1Has_any _ _ _ _ _ _ I3 (Lib.hid rfl) (by omega)).mono ?_; rintro e w' ⟨rfl, rfl⟩; rw [HED.out, HQ.out])
        have e : (R.take (k + 1)).filter (fun u => edg (ktOf xs) u.toNat f) = (R.take k).filter (fun u => edg (ktOf xs) u.toNat f) := by rw [HU.out, List.filter_append]; simp [List.filter, HQ.out]
        go_roundw
        case rel => exact ⟨k + 1, A2, c2, v, by omega, by go_num, by rw [e]; exact HV.out, rfl, by rw [e]; exact O3.out, C3.out⟩
        case measure => simp [intOf]; omega
      · have HQ := Lib.hid q
        clear q
        go_wp2_with (first
          | (go_at_call 51; refine (l1Has_any _ _ _ _ _ _ I3 (Lib.hid rfl) (by omega)).mono ?_; rintro e w' ⟨rfl, rfl⟩; rw [HED.out, HQ.out])
          | (at_builtin; (refine wpList_append_lies _ rfl _ _ 28 rfl w1.heap.size 3 i0 (.int .i64 0) 1 8 Try.underlying28 hi0 hz0 hz1 hz2 rfl (by omega) _ v _ rfl (O3.out.alloc _) ⟨w3.heap.size, 0, none⟩ 1 1 [.int .i64 a] rfl rfl (one_new1 w3 _ _) (by intro u hu; rw [List.mem_singleton.1 hu]; rfl) (by omega) (by unfold maxLen; omega) (by omega) (by have := C3.out.size; first | omega | (simp; omega)) (w3.heap.size + 1) (by first | rfl | simp) ?_; intro g4 cap4 w4 hown4 hg4 hat4 hlt4; have H4 := Lib.hid (app1 O3.out hown4 hg4 C3.out (Nat.le_refl _)); clear hown4 hg4)))
        have e : (R.take (k + 1)).filter (fun u => edg (ktOf xs) u.toNat f) = (R.take k).filter (fun u => edg (ktOf xs) u.toNat f) ++ [(a : Int)] := by rw [HU.out, List.filter_append]; simp [List.filter, HQ.out]
        go_roundw
        case rel => exact ⟨k + 1, some ⟨g4, 0, none⟩, cap4, v + 1, by omega, by go_num, by rw [e, List.length_append, HV.out]; rfl, rfl, by rw [e]; exact H4.out.1, H4.out.2⟩
        case measure => simp [intOf]; omega
    · obtain rfl : k = z := by omega
      have e : (R.take k).filter (fun u => edg (ktOf xs) u.toNat f) = castL (aheadL (edg (ktOf xs)) n f) := by
        rw [List.take_of_length_le (by rw [HZ.out]; exact Nat.le_refl _), ← HR.out, castL_filter]
        unfold aheadL
        simp only [Int.toNat_natCast]
      rw [e] at HV O1
      go_wp2
      go_ret
      rw [← HV.out] at O1 ⊢
      exact ⟨A2, c2, rfl, own_base O1.out B1.out.size, Below.tr B1.out C1.out⟩
set_option maxRecDepth 100000 in
set_option maxHeartbeats 2000000 in
theorem specAhead_any (A : Option Addr) (n cap : Nat) (at_ : Int) (xs : List Stp) (w : World) (b : Bool) (l : List Int) (hr : Hid (TwoRes (There xs n at_) (aheadR xs at_) b l)) (hl : Hid (Lies w A xs)) (hx : Hid (xs.length = n)) (hn : n ≤ 1048576) :
    Calls Try.prog 15 #[.slice A n cap, .int .i64 at_] w (GaveTwo w l b) := by
  go_enter Try.func15, Try.ntmps15
  go_wp2_with fail
  refine (l11There_any _ _ _ _ xs _ b (Lib.hid hr.out.1) hl hx hn).mono ?_
  rintro e w1 ⟨rfl, hb1⟩
  have B1 := Lib.hid hb1
  clear hb1
  cases b
  · obtain rfl := hr.out.2.1 rfl
    go_wp2
    go_ret2
    exact two_nil w _ B1.out
  · obtain ⟨GX, g0, g1⟩ := hr.out.1.1 rfl
    obtain ⟨f, rfl⟩ := Int.eq_ofNat_of_zero_le g0
    have HGX := Lib.hid GX
    have hle := hr.out.2.2 rfl
    subst hle
    go_wp2_with fail
    refine (l11Ahead_any _ _ _ f xs _ HGX (Lib.hid (hl.out.below B1.out)) hx).mono ?_
    rintro e w2 ⟨A2, c2, rfl, hown, hb2⟩
    have er : castL (aheadL (edg (ktOf xs)) n f) = aheadR xs f := by unfold aheadR; rw [hx.out, Int.toNat_natCast]
    rw [er] at hown ⊢
    have O2 := Lib.hid (own_base hown B1.out.size)
    have B2 := Lib.hid (Below.tr B1.out hb2)
    clear hown hb2 er
    go_wp2
    go_ret2
    exact ⟨A2, c2, rfl, O2.out, B2.out⟩
set_option maxRecDepth 100000 in
set_option maxHeartbeats 4000000 in
theorem specEnds_any (A : Option Addr) (n cap : Nat) (at_ : Int) (xs : List Stp) (w : World) (b : Bool) (l : List Int) (hr : Hid (TwoRes (There xs n at_) (endsR xs at_) b l)) (hl : Hid (Lies w A xs)) (hx : Hid (xs.length = n)) (hn : n ≤ 1048576) :
    Calls Try.prog 24 #[.slice A n cap, .int .i64 at_] w (GaveTwo w l b) := by
  obtain ⟨i0, hi0, hz0, hz1, hz2⟩ := info_parts info_int
  go_enter Try.func24, Try.ntmps24
  go_wp2_with fail
  refine (l11There_any _ _ _ _ xs _ b (Lib.hid hr.out.1) hl hx hn).mono ?_
  rintro e w0 ⟨rfl, hb0⟩
  have B0 := Lib.hid hb0
  clear hb0
  cases b
  · obtain rfl := hr.out.2.1 rfl
    go_wp2
    go_ret2
    exact two_nil w _ B0.out
  · obtain ⟨GX, g0, g1⟩ := hr.out.1.1 rfl
    obtain ⟨f, rfl⟩ := Int.eq_ofNat_of_zero_le g0
    have HGX := Lib.hid GX
    have hle := hr.out.2.2 rfl
    subst hle
    obtain ⟨hn0, hn20⟩ := good_20 HGX.out hx.out
    obtain ⟨R, hR⟩ : ∃ R, castL (reachL (edg (ktOf xs)) n f) = R := ⟨_, rfl⟩
    have HR := Lib.hid hR
    have hrl := reach_len (edg (ktOf xs)) n f
    go_wp2_with fail
    refine (l11Reached_any _ _ _ f xs _ HGX (Lib.hid (hl.out.below B0.out)) hx (by omega)).mono ?_
    rintro e w1 ⟨A1, c1, rfl, hown1, hb1⟩
    rw [hR] at hown1 hrl ⊢
    obtain ⟨z, hz⟩ : ∃ z, R.length = z := ⟨_, rfl⟩
    have HZ := Lib.hid hz
    rw [hz] at hown1 hrl ⊢
    have B1 := Lib.hid (Below.tr B0.out hb1)
    have I1 := Lib.hid (own_ilies hown1)
    clear hown1 hb1 hR hz
    go_wp2_with fail
    go_loopw [6, 17] (fun ov iv wr => ∃ (k : Nat) (A2 : Option Addr) (c2 v : Nat), k ≤ z ∧ iv = .int .i64 k ∧ ((R.take k).filter (endP xs)).length = v ∧ ov = .slice A2 v c2 ∧ wr.ownsRow w1.heap.size 3 1 (.slice A2 v c2) v (((R.take k).filter (endP xs)).map (Value.int .i64)) ∧ Below w1.heap.size w1 wr) (fun _ i _ => z - (intOf i).toNat)
    case atStart => exact ⟨0, none, 0, 0, Nat.zero_le _, rfl, rfl, rfl, World.ownsRow_nil _ _ _ _, Below.refl _ _⟩
    case round =>
      obtain ⟨k, A2, c2, v, hk, rfl, hv, rfl, hown, hb⟩ := hrel
      have O3 := Lib.hid hown
      have C3 := Lib.hid hb
      have HV := Lib.hid hv
      have hv20 : v ≤ 20 := by
        have h1 := List.length_filter_le (endP xs) (R.take k)
        have h2 : (R.take k).length ≤ R.length := by rw [List.length_take]; exact Nat.min_le_right _ _
        have := HZ.out
        omega
      clear hown hb hv
      by_cases hlt : k < z
      · obtain ⟨u, hu⟩ : ∃ u, R[k]? = some u := ⟨_, List.getElem?_eq_getElem (by have := HZ.out; omega)⟩
        obtain ⟨a, rfl, han, x, hxa⟩ := mem_row hx.out (by rw [HR.out]; exact hu)
        obtain ⟨b5, off5, rfl, hb5, hc5⟩ := (I1.out.below C3.out) k _ hu
        have HU := Lib.hid (take_snoc hu)
        have EP := Lib.hid (endP_at hxa)
        obtain ⟨b4, off4, rfl, hb4, ha4⟩ := (hl.out.below (Below.tr B1.out C3.out)) a x hxa
        obtain ⟨e0, -, -, -, -, -⟩ := ha4
        have ha' : (a : Int) < (n : Int) := by omega
        clear hu hxa
        cases hq : (x.k == 11)
        · have e : (R.take (k + 1)).filter (endP xs) = (R.take k).filter (endP xs) := by rw [HU.out, List.filter_append]; simp [List.filter, EP.out, hq]
          have HEE := Lib.hid e
          clear e
          go_wp2
          go_roundw
          case rel => exact ⟨k + 1, A2, c2, v, by omega, by go_num, by rw [HEE.out]; exact HV.out, rfl, by rw [HEE.out]; exact O3.out, C3.out⟩
          case measure => simp [intOf]; omega
        · have e : (R.take (k + 1)).filter (endP xs) = (R.take k).filter (endP xs) ++ [(a : Int)] := by rw [HU.out, List.filter_append]; simp [List.filter, EP.out, hq]
          have HEE := Lib.hid e
          clear e
          go_wp2_with (at_builtin; (refine wpList_append_lies _ rfl _ _ 28 rfl w1.heap.size 3 i0 (.int .i64 0) 1 8 Try.underlying28 hi0 hz0 hz1 hz2 rfl (by omega) _ v _ rfl (O3.out.alloc _) ⟨wr.heap.size, 0, none⟩ 1 1 [.int .i64 a] rfl rfl (one_new1 wr _ _) (by intro u hu; rw [List.mem_singleton.1 hu]; rfl) (by omega) (by unfold maxLen; omega) (by omega) (by have := C3.out.size; first | omega | (simp; omega)) (wr.heap.size + 1) (by first | rfl | simp) ?_; intro g4 cap4 w4 hown4 hg4 hat4 hlt4; have H4 := Lib.hid (app1 O3.out hown4 hg4 C3.out (Nat.le_refl _)); clear hown4 hg4))
          go_roundw
          case rel => exact ⟨k + 1, some ⟨g4, 0, none⟩, cap4, v + 1, by omega, by go_num, by rw [HEE.out, List.length_append, HV.out]; rfl, rfl, by rw [HEE.out]; exact H4.out.1, H4.out.2⟩
          case measure => simp [intOf]; omega
      · obtain rfl : k = z := by omega
        have e : (R.take k).filter (endP xs) = endsR xs f := by
          rw [List.take_of_length_le (by rw [HZ.out]; exact Nat.le_refl _), ← HR.out, ← hx.out, ends_eq]
        rw [e] at HV O3
        go_wp2
        go_ret2
        exact two_of HV.out (own_base O3.out B1.out.size) (Below.tr B1.out C3.out)
end Go.Proofs.Ytilnegmjnbffhaa
