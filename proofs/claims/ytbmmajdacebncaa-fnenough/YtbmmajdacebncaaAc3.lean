/-
  Lists of vertices, membership of an arc: both sides.
-/
import Derived.Test.YtbmmajdacebncaaAc1
import Derived.Test.YtbmmajdacebncaaPutD
namespace Go.Proofs.Ytbmmajdacebncaa
open Go.ChangeShapes Go.WideShapes Go.ChangeAt Go.RowKit

def allIx (s : Int) (l : List Int) : Bool := decide (∀ x ∈ l, ixB x s = true)
theorem allIx_take_no {s : Int} {l : List Int} {k : Nat} {x : Int} (hx : l[k]? = some x) (h : ixB x s = false) : allIx s l = false := by
  unfold allIx
  rw [decide_eq_false_iff_not]
  intro q
  have := q x (List.mem_of_getElem? hx)
  rw [h] at this
  cases this
theorem allIx_step {s : Int} {l : List Int} {k : Nat} {x : Int} (hx : l[k]? = some x) (h : ixB x s = true) (hk : allIx s (l.take k) = true) : allIx s (l.take (k + 1)) = true := by
  unfold allIx at *
  rw [decide_eq_true_eq] at *
  rw [take_snoc hx]
  intro y hy
  rw [List.mem_append, List.mem_singleton] at hy
  rcases hy with hy | rfl
  · exact hk y hy
  · exact h
theorem spotsB_eq (s : Int) (l : List Int) : spotsB s l = (inB 1 6 s && (inB 1 8 l.length && allIx s l)) := rfl
set_option maxRecDepth 100000 in
set_option maxHeartbeats 4000000 in
theorem areSpots_any (s : Int) (A : Option Addr) (n cap : Nat) (l : List Int) (w : World) (b : Bool) (HR : Hid (spotsB s l = b)) (hl : Hid (ILies w A l)) (HX : Hid (l.length = n)) (hn : n ≤ 1048576) :
    Calls Try.prog 48 #[.int .i64 s, .slice A n cap] w fun e w' => e = .returned (.bool b) ∧ w = w' := by
  cases qs : inB 1 6 s with
  | false =>
    have E : Hid (b = false) := Lib.hid (by rw [← HR.out, spotsB_eq, qs]; rfl)
    go_enter Try.func48, Try.ntmps48
    go_wp2_with (go_at_call 58; refine (isSpot_any _ _).mono ?_; rintro e w' ⟨rfl, rfl⟩; rw [qs])
    go_ret
    exact ⟨ret_b E.out.symm, rfl⟩
  | true =>
    have QS := Lib.hid qs
    clear qs
    cases qn : inB 1 8 (n : Int) with
    | false =>
      have E : Hid (b = false) := Lib.hid (by rw [← HR.out, spotsB_eq, HX.out, qn]; simp)
      go_enter Try.func48, Try.ntmps48
      go_wp2_with (first | (go_at_call 58; refine (isSpot_any _ _).mono ?_; rintro e w' ⟨rfl, rfl⟩; rw [QS.out]) | (go_at_call 52; refine (isLayer_any _ _).mono ?_; rintro e w' ⟨rfl, rfl⟩; rw [qn]))
      go_ret
      exact ⟨ret_b E.out.symm, rfl⟩
    | true =>
      have E : Hid (allIx s l = b) := Lib.hid (by rw [← HR.out, spotsB_eq, HX.out, qn, QS.out]; rfl)
      go_enter Try.func48, Try.ntmps48
      go_wp2_with (first | (go_at_call 58; refine (isSpot_any _ _).mono ?_; rintro e w' ⟨rfl, rfl⟩; rw [QS.out]) | (go_at_call 52; refine (isLayer_any _ _).mono ?_; rintro e w' ⟨rfl, rfl⟩; rw [qn]))
      clear qn
      go_loop [18] (fun i => ∃ k : Nat, k ≤ n ∧ i = .int .i64 k ∧ allIx s (l.take k) = true) (fun i => n - (intOf i).toNat)
      case atStart => exact ⟨0, Nat.zero_le _, rfl, by simp [allIx]⟩
      case round =>
        obtain ⟨k, hk, rfl, hall⟩ := hrel
        have HA := Lib.hid hall
        clear hall
        by_cases hlt : k < n
        · obtain ⟨x, hx⟩ : ∃ x, l[k]? = some x := ⟨_, List.getElem?_eq_getElem (by have := HX.out; omega)⟩
          obtain ⟨bb, off, rfl, hbl, hc⟩ := hl.out k x hx
          have HXK := Lib.hid hx
          clear hx
          cases q : ixB x s with
          | false =>
            have E2 : Hid (b = false) := Lib.hid (by rw [← E.out]; exact allIx_take_no HXK.out q)
            go_wp2_with (go_at_call 59; refine (isIx_any _ _ _).mono ?_; rintro e w' ⟨rfl, rfl⟩; rw [q])
            go_ret
            exact ⟨ret_b E2.out.symm, rfl⟩
          | true =>
            have HN := Lib.hid (allIx_step HXK.out q HA.out)
            go_wp2_with (go_at_call 59; refine (isIx_any _ _ _).mono ?_; rintro e w' ⟨rfl, rfl⟩; rw [q])
            go_round
            case rel => exact ⟨k + 1, by omega, by go_num, HN.out⟩
            case measure => simp [intOf]; omega
        · obtain rfl : k = n := by omega
          have E2 : Hid (b = true) := Lib.hid (by rw [← E.out]; have := HA.out; rwa [List.take_of_length_le (by have := HX.out; omega)] at this)
          go_wp2
          go_ret
          exact ⟨ret_b E2.out.symm, rfl⟩
set_option maxRecDepth 100000 in
set_option maxHeartbeats 4000000 in
theorem l1AllA_any (s hi : Int) (A : Option Addr) (n cap : Nat) (l : List Int) (w : World) (b : Bool) (hs : hi = s - 1) (HR : Hid (allIx s l = b)) (hl : Hid (ILies w A l)) (HX : Hid (l.length = n)) (hn : n ≤ 1048576) :
    Calls Try.prog 67 #[.slice A n cap, .int .i64 0, .int .i64 hi] w fun e w' => e = .returned (.bool b) ∧ w = w' := by
  have hix : ∀ x, inB 0 hi x = ixB x s := fun x => by rw [hs]; exact inB_ixA x s
  clear hs
  go_enter Try.func67, Try.ntmps67
  go_wp2_with fail
  go_loop [11] (fun i => ∃ k : Nat, k ≤ n ∧ i = .int .i64 k ∧ allIx s (l.take k) = true) (fun i => n - (intOf i).toNat)
  case atStart => exact ⟨0, Nat.zero_le _, rfl, by simp [allIx]⟩
  case round =>
    obtain ⟨k, hk, rfl, hall⟩ := hrel
    have HA := Lib.hid hall
    clear hall
    by_cases hlt : k < n
    · obtain ⟨x, hx⟩ : ∃ x, l[k]? = some x := ⟨_, List.getElem?_eq_getElem (by have := HX.out; omega)⟩
      obtain ⟨bb, off, rfl, hbl, hc⟩ := hl.out k x hx
      have HXK := Lib.hid hx
      have HI := Lib.hid (hix x)
      clear hx hix
      cases q : ixB x s with
      | false =>
        have E2 : Hid (b = false) := Lib.hid (by rw [← HR.out]; exact allIx_take_no HXK.out q)
        go_wp2_with (go_at_call 54; refine (l1In_any _ _ _ _).mono ?_; rintro e w' ⟨rfl, rfl⟩; rw [HI.out, q])
        go_ret
        exact ⟨ret_b E2.out.symm, rfl⟩
      | true =>
        have HN := Lib.hid (allIx_step HXK.out q HA.out)
        go_wp2_with (go_at_call 54; refine (l1In_any _ _ _ _).mono ?_; rintro e w' ⟨rfl, rfl⟩; rw [HI.out, q])
        go_round
        case rel => exact ⟨k + 1, by omega, by go_num, HN.out⟩
        case measure => simp [intOf]; omega
    · obtain rfl : k = n := by omega
      have E2 : Hid (b = true) := Lib.hid (by rw [← HR.out]; have := HA.out; rwa [List.take_of_length_le (by have := HX.out; omega)] at this)
      go_wp2
      go_ret
      exact ⟨ret_b E2.out.symm, rfl⟩
set_option maxRecDepth 100000 in
set_option maxHeartbeats 4000000 in
theorem l12Walk_any (s : Int) (A : Option Addr) (n cap : Nat) (l : List Int) (w : World) (b : Bool) (HR : Hid (spotsB s l = b)) (hl : Hid (ILies w A l)) (HX : Hid (l.length = n)) (hn : n ≤ 1048576) :
    Calls Try.prog 50 #[.int .i64 s, .slice A n cap] w fun e w' => e = .returned (.bool b) ∧ w = w' := by
  cases qs : inB 1 6 s with
  | false =>
    have E : Hid (b = false) := Lib.hid (by rw [← HR.out, spotsB_eq, qs]; rfl)
    go_enter Try.func50, Try.ntmps50
    go_wp2_with (go_at_call 54; refine (l1In_any _ _ _ _).mono ?_; rintro e w' ⟨rfl, rfl⟩; rw [qs])
    go_ret
    exact ⟨ret_b E.out.symm, rfl⟩
  | true =>
    obtain ⟨hs1, hs2⟩ := inB_yes qs
    have QS := Lib.hid qs
    clear qs
    cases qn : inB 1 8 (n : Int) with
    | false =>
      have E : Hid (b = false) := Lib.hid (by rw [← HR.out, spotsB_eq, HX.out, qn]; simp)
      go_enter Try.func50, Try.ntmps50
      go_wp2_with (go_at_call 54; refine (l1In_any _ _ _ _).mono ?_; rintro e w' ⟨rfl, rfl⟩; first | rw [QS.out] | rw [qn])
      go_ret
      exact ⟨ret_b E.out.symm, rfl⟩
    | true =>
      have E : Hid (allIx s l = b) := Lib.hid (by rw [← HR.out, spotsB_eq, HX.out, qn, QS.out]; rfl)
      go_enter Try.func50, Try.ntmps50
      go_wp2_with (first | (go_at_call 54; refine (l1In_any _ _ _ _).mono ?_; rintro e w' ⟨rfl, rfl⟩; first | rw [QS.out] | rw [qn]) | (go_at_call 67; refine (l1AllA_any s _ _ _ _ l _ b (by first | rfl | omega) E hl HX hn).mono ?_; rintro e w' ⟨rfl, rfl⟩))
      go_ret
      exact ⟨rfl, rfl⟩
theorem take_snocA {l : AL} {k : Nat} {x : Int × Int} (hx : l[k]? = some x) : l.take (k + 1) = l.take k ++ [x] := by
  have h1 := (List.getElem?_eq_some_iff.1 hx).1
  have h2 := (List.getElem?_eq_some_iff.1 hx).2
  rw [List.take_succ_eq_append_getElem h1, h2]
theorem mem_no {l : AL} {k : Nat} {x y : Int × Int} (hx : l[k]? = some x) (h : y ∉ l.take k) (hn : x ≠ y) : y ∉ l.take (k + 1) := by
  rw [take_snocA hx, List.mem_append, List.mem_singleton]
  rintro (q | q)
  · exact h q
  · exact hn q.symm
set_option maxRecDepth 100000 in
set_option maxHeartbeats 4000000 in
theorem l12Arc_any (A : Option Addr) (n cap : Nat) (l : AL) (a c : Int) (w : World) (b : Bool) (HR : Hid (decide ((a, c) ∈ l) = b)) (hl : Hid (ALies w A l)) (HX : Hid (l.length = n)) (hn : n ≤ 1048576) :
    Calls Try.prog 51 #[.slice A n cap, .int .i64 a, .int .i64 c] w fun e w' => e = .returned (.bool b) ∧ Below w.heap.size w w' := by
  go_enter Try.func51, Try.ntmps51
  go_wp2_with fail
  go_loopw [11] (fun i wr => ∃ k : Nat, k ≤ n ∧ i = .int .i64 k ∧ (a, c) ∉ l.take k ∧ Below w.heap.size w wr) (fun i _ => n - (intOf i).toNat)
  case atStart => exact ⟨0, Nat.zero_le _, rfl, by simp, Below.refl _ _⟩
  case round =>
    obtain ⟨k, hk, rfl, hnot, hb⟩ := hrel
    have N1 := Lib.hid hnot
    have B1 := Lib.hid hb
    clear hnot hb
    by_cases hlt : k < n
    · obtain ⟨x, hx⟩ : ∃ x, l[k]? = some x := ⟨_, List.getElem?_eq_getElem (by have := HX.out; omega)⟩
      obtain ⟨bb, off, rfl, hbl, e0, e1⟩ := (hl.out.below B1.out) k x hx
      have HXK := Lib.hid hx
      clear hx
      cases q1 : (x.1 == a) with
      | false =>
        have N2 := Lib.hid (mem_no HXK.out N1.out (fun e => by subst e; simp at q1))
        go_wp2
        go_roundw
        case rel => exact ⟨k + 1, by omega, by go_num, N2.out, B1.out.alloc B1.out.size _⟩
        case measure => simp [intOf]; omega
      | true =>
        cases q2 : (x.2 == c) with
        | false =>
          have N2 := Lib.hid (mem_no HXK.out N1.out (fun e => by subst e; simp at q2))
          go_wp2
          go_roundw
          case rel => exact ⟨k + 1, by omega, by go_num, N2.out, B1.out.alloc B1.out.size _⟩
          case measure => simp [intOf]; omega
        | true =>
          have E : Hid (b = true) := Lib.hid (by rw [← HR.out, decide_eq_true_eq]; simp at q1 q2; rw [← q1, ← q2]; exact List.mem_of_getElem? HXK.out)
          go_wp2
          go_ret
          exact ⟨ret_b E.out.symm, B1.out.alloc B1.out.size _⟩
    · obtain rfl : k = n := by omega
      have E : Hid (b = false) := Lib.hid (by rw [← HR.out, decide_eq_false_iff_not]; have := N1.out; rwa [List.take_of_length_le (by have := HX.out; omega)] at this)
      go_wp2
      go_ret
      exact ⟨ret_b E.out.symm, B1.out⟩
set_option maxRecDepth 100000 in
set_option maxHeartbeats 400000 in
theorem eql_arc0 (a b c d : Int) (w : World) : (binOp .eql 36 (.agg #[.int .i64 a, .int .i64 b]) (.agg #[.int .i64 c, .int .i64 d])).run Try.prog w = .ok (.bool (a == c && b == d)) w := by
  cases h1 : (a == c)
  · go_simp
  · cases h2 : (b == d) <;> go_simp
theorem eql_arc (a b c d : Int) (w : World) : (binOp .eql 36 (.agg #[.int .i64 a, .int .i64 b]) (.agg #[.int .i64 c, .int .i64 d])).run Try.prog w = .ok (.bool (decide ((a, b) = (c, d)))) w := by
  rw [eql_arc0]
  by_cases h1 : a = c <;> by_cases h2 : b = d <;> simp [h1, h2]
set_option maxRecDepth 100000 in
set_option maxHeartbeats 4000000 in
theorem indexA_any (A : Option Addr) (n cap : Nat) (l : AL) (a c : Int) (w : World) (hl : Hid (ALies w A l)) (HX : Hid (l.length = n)) (hn : n ≤ 1048576) :
    Calls Try.prog 66 #[.slice A n cap, .agg #[.int .i64 a, .int .i64 c]] w fun e w' => (∃ q : Int, e = .returned (.int .i64 q) ∧ decide (0 ≤ q) = decide ((a, c) ∈ l)) ∧ Below w.heap.size w w' := by
  go_enter Try.func66, Try.ntmps66
  go_wp2_with fail
  go_loopw [5, 8] (fun _ i wr => ∃ k : Nat, k ≤ n ∧ i = .int .i64 k ∧ (a, c) ∉ l.take k ∧ Blk wr w.heap.size 36 [.int .i64 a, .int .i64 c] ∧ Below w.heap.size w wr) (fun _ i _ => n - (intOf i).toNat)
  case atStart => exact ⟨0, Nat.zero_le _, rfl, by simp, heap_alloc_new _ _, below1 _ _⟩
  case round =>
    obtain ⟨k, hk, rfl, hnot, hbk, hb⟩ := hrel
    have N1 := Lib.hid hnot
    have K1 := Lib.hid hbk
    have B1 := Lib.hid hb
    clear hnot hbk hb
    by_cases hlt : k < n
    · obtain ⟨x, hx⟩ : ∃ x, l[k]? = some x := ⟨_, List.getElem?_eq_getElem (by have := HX.out; omega)⟩
      obtain ⟨bb, off, rfl, hbl, e0, e1⟩ := (hl.out.below B1.out) k x hx
      have HXK := Lib.hid hx
      have f0 : wr.cell? ⟨w.heap.size, 0, none⟩ = some (.int .i64 a) := K1.out.cell 0
      have f1 : wr.cell? ⟨w.heap.size, 1, none⟩ = some (.int .i64 c) := K1.out.cell 1
      clear hx
      have heq := fun W => eql_arc a c x.1 x.2 W
      cases q : decide ((a, c) = (x.1, x.2)) with
      | false =>
        rw [q] at heq
        have N2 := Lib.hid (mem_no HXK.out N1.out (fun e => by subst e; simp at q))
        go_wp2_with fail
        go_quiet (fail)
        go_wp2
        go_roundw
        case rel => exact ⟨k + 1, by omega, by go_num, N2.out, K1.out.below (bdrewN (Below.refl _ _) _), bdrewN B1.out _⟩
        case measure => simp [intOf]; omega
      | true =>
        rw [q] at heq
        have E : Hid (decide ((a, c) ∈ l) = true) := Lib.hid (by rw [decide_eq_true_eq] at q ⊢; rw [q]; exact List.mem_of_getElem? HXK.out)
        go_wp2_with fail
        go_quiet (fail)
        go_wp2
        go_ret
        exact ⟨⟨_, rfl, by rw [E.out, decide_eq_true_eq]; omega⟩, bdrewN B1.out _⟩
    · obtain rfl : k = n := by omega
      have E : Hid (decide ((a, c) ∈ l) = false) := Lib.hid (by rw [decide_eq_false_iff_not]; have := N1.out; rwa [List.take_of_length_le (by have := HX.out; omega)] at this)
      go_wp2
      go_ret
      exact ⟨⟨_, rfl, by rw [E.out]; simp⟩, B1.out⟩
set_option maxRecDepth 100000 in
set_option maxHeartbeats 1000000 in
theorem containsA_any (A : Option Addr) (n cap : Nat) (l : AL) (a c : Int) (w : World) (b : Bool) (HR : Hid (decide ((a, c) ∈ l) = b)) (hl : Hid (ALies w A l)) (HX : Hid (l.length = n)) (hn : n ≤ 1048576) :
    Calls Try.prog 49 #[.slice A n cap, .agg #[.int .i64 a, .int .i64 c]] w fun e w' => e = .returned (.bool b) ∧ Below w.heap.size w w' := by
  go_enter Try.func49, Try.ntmps49
  go_wp2_with fail
  refine (indexA_any _ _ _ l _ _ _ (Lib.hid (hl.out.below (below1 _ _))) HX hn).mono ?_
  rintro e w2 ⟨⟨q, rfl, hq⟩, hb⟩
  have HQ := Lib.hid hq
  have B2 := Lib.hid (Below.tr (below1 _ _) hb)
  clear hq hb
  go_wp2
  go_ret
  exact ⟨ret_b (HQ.out.trans HR.out), B2.out⟩
end Go.Proofs.Ytbmmajdacebncaa
