/-
  Contracts of chapter 10: the model's KnownOf.
-/
import Derived.Test.YtmfganodnlnjcaaDoorKn5
namespace Go.Proofs.YtmfganodnlnjcaaDoor.Op
open Go.Proofs.YtmfganodnlnjcaaDoor
open Go.ChangeShapes Go.WideShapes Go.ChangeAt Go.RowKit

theorem joinL_snoc (z : Nat) (l : List Nat) (n : Nat) : joinL z (l ++ [n]) = joinK (joinL z l) ⟨n, 0⟩ := by unfold joinL; rw [List.foldl_append]; rfl
theorem joinL_lt {z : Nat} {l : List Nat} (hz : z < 65536) (hl : ∀ n ∈ l, n < 65536) : (joinL z l).v < 65536 ∧ (joinL z l).m < 65536 := by
  suffices h : ∀ (l : List Nat) (k : Kn), (∀ n ∈ l, n < 65536) → k.v < 65536 ∧ k.m < 65536 → (l.foldl (fun k n => joinK k ⟨n, 0⟩) k).v < 65536 ∧ (l.foldl (fun k n => joinK k ⟨n, 0⟩) k).m < 65536 from h l ⟨z, 0⟩ hl ⟨hz, by simp only; omega⟩
  intro l
  induction l with
  | nil => intro k _ h; exact h
  | cons n l ih =>
    intro k hl h
    exact ih _ (fun m hm => hl m (by simp [hm])) (joinK_lt h.1 h.2 (hl n (by simp)) (by omega))
theorem ofA_join {l : List Int} {z : Nat} (h : l.all isW = true) (h1 : 1 ≤ l.length) (h2 : l.length ≤ 40) (hz : l[0]? = some (z : Int)) : ofA l = (joinL z (natsOf l), true) := by
  unfold ofA
  rw [decide_eq_true (show 1 ≤ l.length ∧ l.length ≤ 40 from ⟨h1, h2⟩), h]
  cases l with
  | nil => simp at h1
  | cons x l =>
    simp only [List.getElem?_cons_zero, Option.some.injEq] at hz
    subst hz
    rfl
theorem nats_take (l : List Int) (k : Nat) (y : Nat) (h : l[k]? = some (y : Int)) : natsOf (l.take (k + 1)) = natsOf (l.take k) ++ [y] := by
  rw [take_next l k _ h]; unfold natsOf; rw [List.map_append]; rfl
theorem nats_lt {l : List Int} (h : l.all isW = true) (k : Nat) : ∀ n ∈ natsOf (l.take k), n < 65536 := by
  intro n hn
  apply (nats_cast h).2 n
  unfold natsOf at hn ⊢
  obtain ⟨x, hx, rfl⟩ := List.mem_map.1 hn
  exact List.mem_map.2 ⟨x, List.mem_of_mem_take hx, rfl⟩
theorem l10Join0_any (a b c : Nat) (w : World) (h1 : a < 65536) (h2 : b < 65536) (h3 : c < 65536) :
    Calls Tryd.prog 58 #[.agg #[.int .i64 a, .int .i64 b], .agg #[.int .i64 c, .int .i64 0]] w fun e w' => e = .returned (.agg #[.int .i64 (joinK ⟨a, b⟩ ⟨c, 0⟩).v, .int .i64 (joinK ⟨a, b⟩ ⟨c, 0⟩).m]) ∧ Below w.heap.size w w' :=
  l10Join_any a b c 0 w h1 h2 h3 (by omega)
theorem word_at {l : List Int} (h : l.all isW = true) {k : Nat} (hk : k < l.length) : ∃ y : Nat, l[k]? = some (y : Int) ∧ y < 65536 := by
  rw [List.all_eq_true] at h
  obtain ⟨y, hy⟩ : ∃ y, l[k]? = some y := ⟨_, List.getElem?_eq_getElem hk⟩
  obtain ⟨a, rfl, ha⟩ := isW_open (h y (List.mem_of_getElem? hy))
  exact ⟨a, hy, ha⟩

set_option maxRecDepth 100000 in
set_option maxHeartbeats 4000000 in
theorem ofM_any (A : Option Addr) (n cap : Nat) (l : List Int) (w : World) (hl : Hid (ILies w A l)) (HX : Hid (l.length = n)) (hn : n ≤ 9223372036854775807) :
    Calls Tryd.prog 30 #[.slice A n cap] w fun e w' => e = .returned (.tuple #[.agg #[.int .i64 (ofA l).1.v, .int .i64 (ofA l).1.m], .bool (ofA l).2]) ∧ Below w.heap.size w w' := by
  have hd : decide ((1 : Int) ≤ (n : Int) ∧ (n : Int) ≤ 40) = decide (1 ≤ n ∧ n ≤ 40) := by rw [decide_eq_decide]; omega
  have N0 := one_newk w 0 0
  have L0 : Hid (ILies (w.alloc (.cells #[.int .i64 0, .int .i64 0] 24)) A l) := Lib.hid (hl.out.below (below1 _ _))
  unfold kO at N0
  have k0 := N0.out.1.c0
  have m0 := N0.out.1.c1
  have f0 := N0.out.1.f 0
  have j0 := N0.out.1.f 1
  by_cases h0 : 1 ≤ n ∧ n ≤ 40
  · rw [decide_eq_true h0] at hd
    have HD := Lib.hid hd
    obtain ⟨h1, h2⟩ := h0
    clear hd
    cases hall : l.all isW
    · have HA := Lib.hid ((allIn_words l).trans hall)
      have E := Lib.hid (ofA_no hall)
      clear hall
      go_enter Tryd.func30, Tryd.ntmps30
      go_wp2_with fail
      generalize (w.alloc (.cells #[.int .i64 0, .int .i64 0] 24)) = v0 at N0 L0 k0 m0 f0 j0 ⊢
      refine (l1In_any _ _ _ _ true HD.out).mono ?_
      rintro e v9 ⟨rfl, rfl⟩
      go_wp2_with fail
      refine (l1AllK_any A n cap l _ _ _ L0 HX (by omega) _ HA).mono ?_
      rintro e v9 ⟨rfl, rfl⟩
      go_wp2
      refine kshut1 (ok := false) (KB.set2 N0.out.1) (belowK2 N0.out.2 (by omega)) ?_ (by rw [E.out]; rfl)
      intro c0 c1; simp [results, Tryd.results30, go_sem, c0, c1]
    · have HA := Lib.hid ((allIn_words l).trans hall)
      obtain ⟨z, hz, hzl⟩ := word_at hall (k := 0) (by rw [HX.out]; omega)
      have E := Lib.hid (ofA_join hall (by rw [HX.out]; omega) (by rw [HX.out]; omega) hz)
      have HZ := Lib.hid hz
      have HW := Lib.hid hall
      clear hall hz
      obtain ⟨b, off, rfl, hbl, hc⟩ := hl.out 0 _ HZ.out
      rw [Nat.add_zero] at hc
      have N1 := two_newk w 0 0 z 0
      unfold kO at N1
      go_enter Tryd.func30, Tryd.ntmps30
      go_wp2_with (first | (go_at_call 38; refine (l1In_any _ _ _ _ true HD.out).mono ?_; rintro e v9 ⟨rfl, rfl⟩) | (go_at_call 60; refine (l1AllK_any _ n cap l _ _ _ L0 HX (by omega) _ HA).mono ?_; rintro e v9 ⟨rfl, rfl⟩) | fail)
      have L1 : Hid (ILies ((w.alloc (.cells #[.int .i64 0, .int .i64 0] 24)).alloc (.cells #[.int .i64 z, .int .i64 0] 24)) (some ⟨b, off, none⟩) l) := Lib.hid (hl.out.below (below2 _ _ _))
      clear N0 L0 k0 m0 f0 j0
      have lr := N1.out.2.1.lt
      generalize ((w.alloc (.cells #[.int .i64 0, .int .i64 0] 24)).alloc (.cells #[.int .i64 z, .int .i64 0] 24)) = v0 at N1 L1 lr ⊢
      go_loopw [23] (fun i wr => ∃ k : Nat, k ≤ n ∧ i = .int .i64 k ∧ KB wr w.heap.size 0 0 ∧ KB wr (w.heap.size + 1) (joinL z (natsOf (l.take k))).v (joinL z (natsOf (l.take k))).m ∧ Below w.heap.size w wr) (fun i _ => n - (intOf i).toNat)
      case atStart => exact ⟨0, Nat.zero_le _, rfl, N1.out.1, N1.out.2.1, N1.out.2.2⟩
      case round =>
        obtain ⟨k, hk, rfl, hr, hkk, hbb⟩ := hrel
        have RR := Lib.hid hr
        have RK := Lib.hid hkk
        have RB := Lib.hid hbb
        clear hr hkk hbb
        have y0 := RK.out.c0
        have y1 := RK.out.c1
        have lk := RK.out.lt
        by_cases hlt : k < n
        · obtain ⟨y, hy, hyl⟩ := word_at HW.out (k := k) (by rw [HX.out]; exact hlt)
          obtain ⟨b', off', e', hbl', hc'⟩ := (hl.out.below RB.out) k _ hy
          obtain ⟨rfl, rfl⟩ : b = b' ∧ off = off' := by simp at e'; exact ⟨e'.1, e'.2⟩
          clear e'
          have HJ := Lib.hid ((congrArg (joinL z) (nats_take l k y hy)).trans (joinL_snoc z _ y))
          have bj := joinL_lt hzl (nats_lt HW.out k)
          clear hy
          obtain ⟨⟨jv, jm⟩, hj⟩ : ∃ q, joinL z (natsOf (l.take k)) = q := ⟨_, rfl⟩
          rw [hj] at HJ bj RK y0 y1
          clear hj
          obtain ⟨b1, b2⟩ := bj
          simp only at b1 b2 y0 y1
          go_wp2_with fail
          refine (l10Join0_any jv jm y _ b1 b2 hyl).mono ?_
          rintro e v2 ⟨rfl, hb⟩
          have RR2 := Lib.hid (KB.below RR.out hb)
          have RK2 := Lib.hid (KB.below RK.out hb)
          have RB2 := Lib.hid (Below.tr RB.out hb)
          clear hb
          have y2 := RK2.out.c0
          have y3 := RK2.out.c1
          have y4 := RK2.out.f 0
          have y5 := RK2.out.f 1
          go_wp2
          go_roundw
          case rel => exact ⟨k + 1, by omega, by go_num, RR2.out.far2 (by omega), by rw [HJ.out]; exact RK2.out.set2, belowK2 RB2.out (by omega)⟩
          case measure => simp [intOf]; omega
        · obtain rfl : k = n := by omega
          have HT : Hid (l.take k = l) := Lib.hid (List.take_of_length_le (by have := HX.out; omega))
          rw [HT.out] at RK y0 y1
          have y4 := RR.out.c0
          have y5 := RR.out.c1
          have y6 := RR.out.f 0
          have y7 := RR.out.f 1
          go_wp2
          refine kshut1 (ok := true) (KB.set2 RR.out) (belowK2 RB.out (by omega)) ?_ (by rw [E.out])
          intro c0 c1; simp [results, Tryd.results30, go_sem, c0, c1]
  · rw [decide_eq_false h0] at hd
    have HD := Lib.hid hd
    have E := Lib.hid (ofA_len (l := l) (by rw [HX.out]; exact h0))
    clear hd h0
    go_enter Tryd.func30, Tryd.ntmps30
    go_wp2_with (go_at_call 38; refine (l1In_any _ _ _ _ false HD.out).mono ?_; rintro e v9 ⟨rfl, rfl⟩)
    refine kshut1 (ok := false) N0.out.1 N0.out.2 ?_ (by rw [E.out]; rfl)
    intro c0 c1; simp [results, Tryd.results30, go_sem, c0, c1]

end Go.Proofs.YtmfganodnlnjcaaDoor.Op
