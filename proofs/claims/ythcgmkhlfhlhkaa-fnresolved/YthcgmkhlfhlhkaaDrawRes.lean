/-
  Drawn arguments of the law FnResolved.
-/
import Derived.Test.YthcgmkhlfhlhkaaLawH
import Derived.Test.YthcgmkhlfhlhkaaSnd2
import Derived.Test.YthcgmkhlfhlhkaaLawAtOnce
namespace Go.Proofs.Ythcgmkhlfhlhkaa
open Go.ChangeShapes Go.WideShapes Go.ChangeAt Go.RowKit

set_option maxRecDepth 100000 in
set_option maxHeartbeats 1000000 in
theorem hasL_any (A : Option Addr) (n cap : Nat) (l : List Int) (y : Int) (w : World) (hl : Hid (ILies w A l)) (HX : Hid (l.length = n)) (hn : n ≤ 9223372036854775807) :
    Calls Try.prog 29 #[.slice A n cap, .int .i64 y] w fun e w' => e = .returned (.bool (decide (y ∈ l))) ∧ w = w' := by
  go_enter Try.func29, Try.ntmps29
  go_wp2_with fail
  go_loop [9] (fun i => ∃ k : Nat, k ≤ n ∧ i = .int .i64 k ∧ y ∉ l.take k) (fun i => n - (intOf i).toNat)
  case atStart => exact ⟨0, Nat.zero_le _, rfl, by simp⟩
  case round =>
    obtain ⟨k, hk, rfl, hnot⟩ := hrel
    have HN := Lib.hid hnot
    clear hnot
    by_cases hlt : k < n
    · obtain ⟨x, hx⟩ : ∃ x, l[k]? = some x := ⟨_, List.getElem?_eq_getElem (by have := HX.out; omega)⟩
      obtain ⟨b, off, rfl, hbl, ha⟩ := hl.out k x hx
      have HT := Lib.hid (take_snoc hx)
      have HM := Lib.hid (List.mem_of_getElem? hx)
      clear hx
      cases q : (x == y)
      · go_wp2
        go_round
        case rel => exact ⟨k + 1, by omega, by go_num, by rw [HT.out]; simp at q; simp; exact ⟨HN.out, fun e => q e.symm⟩⟩
        case measure => simp [intOf]; omega
      · have E : Hid (decide (y ∈ l) = true) := Lib.hid (by simp at q; subst q; simpa using HM.out)
        go_wp2
        go_ret
        exact ⟨ret_bool E.out.symm, rfl⟩
    · obtain rfl : k = n := by omega
      have E : Hid (decide (y ∈ l) = false) := Lib.hid (by have := HN.out; rw [List.take_of_length_le (by have := HX.out; omega)] at this; simpa using this)
      go_wp2
      go_ret
      exact ⟨ret_bool E.out.symm, rfl⟩
set_option maxRecDepth 100000 in
set_option maxHeartbeats 1000000 in
theorem number_any (a0 : Option Addr) (len cap : Nat) (w : World) (h : Hid (Bytes w a0 len)) :
    Calls Try.prog 28 #[.slice a0 len cap] w fun e w' => (∃ N : Nat, e = .returned (.int .i64 N) ∧ N ≤ 1000003) ∧ w = w' := by
  have hlen : len ≤ 9223372036854775807 := h.out.1
  go_enter Try.func28, Try.ntmps28
  go_wp2_with fail
  go_loop [3, 8] (fun u i => ∃ (k N : Nat), k ≤ len ∧ i = .int .i64 k ∧ u = .int .i64 N ∧ N ≤ 1000003) (fun _ i => len - (intOf i).toNat)
  case atStart => exact ⟨0, 0, Nat.zero_le _, rfl, rfl, by omega⟩
  case round =>
    obtain ⟨k, N, hk, rfl, rfl, hN⟩ := hrel
    by_cases hlt : k < len
    · obtain ⟨b, off, x, rfl, ha, x0, x1⟩ := h.out.2 k hlt
      obtain ⟨N2, hN2⟩ : ∃ N2 : Nat, (31 * (N : Int) + x).tmod 1000003 = N2 := ⟨((31 * (N : Int) + x).tmod 1000003).toNat, by have := Int.tmod_nonneg 1000003 (show (0 : Int) ≤ 31 * (N : Int) + x by omega); omega⟩
      have hN3 : N2 ≤ 1000003 := by have := Int.tmod_lt_of_pos (31 * (N : Int) + x) (show (0 : Int) < 1000003 by omega); omega
      have hN4 : (31 * (N : Int) + x) % 1000003 = N2 := by rw [← hN2, Int.tmod_eq_emod_of_nonneg (by omega)]
      go_wp2
      go_round
      case rel => exact ⟨k + 1, N2, by omega, by go_num, rfl, hN3⟩
      case measure => simp [intOf]; omega
    · obtain rfl : k = len := by omega
      go_wp2
      go_ret
      exact ⟨⟨N, rfl, hN⟩, rfl⟩
/-- drawn clauses -/
def DrewC (w : World) (e : Ending) (w' : World) : Prop :=
  ∃ (v : Int) (L : List (List Int)) (A : Option Addr) (c1 : Nat), e = .returned (.tuple #[.int .i64 v, .slice A L.length c1]) ∧ (0 ≤ v ∧ v ≤ 13) ∧ L.length ≤ 13 ∧ LLies w' A L ∧ Below w.heap.size w w'
set_option maxRecDepth 100000 in
set_option maxHeartbeats 1000000 in
theorem drawGoodC_any (a0 : Option Addr) (len cap : Nat) (w : World) (h : Hid (Bytes w a0 len)) :
    Calls Try.prog 74 #[.slice a0 len cap] w (DrewC w) := by
  go_enter Try.func74, Try.ntmps74
  go_wp2_with fail
  refine (clauses_any w.heap.size 0 _ (Cur.new h.out) (by omega)).mono ?_
  rintro e w1 ⟨v, L, A, cp, vs, rfl, hv, hL, hT, ho, hc, hg⟩
  have O1 := Lib.hid ho
  have B1 := Lib.hid (below_new hg)
  clear ho hc hg
  go_wp2
  go_ret2
  exact ⟨v, L, A, cp, rfl, hv, hL, O1.out.lies, B1.out⟩
set_option maxRecDepth 100000 in
set_option maxHeartbeats 1000000 in
theorem drawCountC_any (a0 : Option Addr) (len cap : Nat) (w : World) (h : Hid (Bytes w a0 len)) :
    Calls Try.prog 33 #[.slice a0 len cap] w (DrewC w) := by
  go_enter Try.func33, Try.ntmps33
  go_wp2_with fail
  refine (drawGoodC_any a0 len cap w h).mono ?_
  rintro e w1 ⟨v, L, A, c1, rfl, r1, r2, hl, hb⟩
  have L1 := Lib.hid hl
  have B1 := Lib.hid hb
  clear hl hb
  go_wp2
  go_ret2
  exact ⟨v, L, A, c1, rfl, r1, r2, L1.out, B1.out⟩
/-- drawn clauses and a model -/
def DrewH (w : World) (e : Ending) (w' : World) : Prop :=
  ∃ (v : Int) (L : List (List Int)) (M : List Bool) (A B : Option Addr) (c1 m c2 : Nat), e = .returned (.tuple #[.int .i64 v, .slice A L.length c1, .slice B m c2]) ∧ L.length ≤ 13 ∧ M.length = m ∧ LLies w' A L ∧ BLies w' B M ∧ Below w.heap.size w w'
set_option maxRecDepth 100000 in
set_option maxHeartbeats 2000000 in
theorem drawHoldsC_any (a0 : Option Addr) (len cap : Nat) (w : World) (h : Hid (Bytes w a0 len)) :
    Calls Try.prog 36 #[.slice a0 len cap] w (DrewH w) := by
  go_enter Try.func36, Try.ntmps36
  go_wp2_with fail
  refine (clauses_any w.heap.size 0 _ (Cur.new h.out) (by omega)).mono ?_
  rintro e w1 ⟨v, L, A, cp, vs, rfl, hv, hL, hT, ho, hc, hg⟩
  have O1 := Lib.hid ho
  have C1 := Lib.hid hc
  have G1 := Lib.hid hg
  clear ho hc hg
  go_wp2_with fail
  refine (pick_any w.heap.size _ _ _ C1 (by omega) (by omega) (by omega)).mono ?_
  rintro e w2 ⟨n2, ⟨l2, u2⟩, rfl, hc2, hg2⟩
  have C2 := Lib.hid hc2
  have G2 := Lib.hid (grownC_trans G1.out hg2)
  have O2 := Lib.hid (O1.out.read hg2 (by simp))
  clear hc2 hg2 C1 G1 O1
  obtain ⟨d, hd⟩ : ∃ d : Nat, v + n2.tdiv 19 = d := ⟨(v + n2.tdiv 19).toNat, by have := Int.tdiv_nonneg l2 (show (0 : Int) ≤ 19 by omega); omega⟩
  have hd2 : d ≤ 60 := by
    have h1 : n2.tdiv 19 = n2 / 19 := Int.tdiv_eq_ediv_of_nonneg l2
    omega
  go_wp2_with fail
  refine (pick_any w.heap.size _ _ _ C2 (by omega) (by omega) (by omega)).mono ?_
  rintro e w3 ⟨n3, ⟨l3, u3⟩, rfl, hc3, hg3⟩
  have C3 := Lib.hid hc3
  have G3 := Lib.hid (grownC_trans G2.out hg3)
  have O3 := Lib.hid (O2.out.read hg3 (by simp))
  clear hc3 hg3 C2 G2 O2
  go_wp2_with fail
  refine (pick_any w.heap.size _ _ _ C3 (by omega) (by omega) (by omega)).mono ?_
  rintro e w4 ⟨n4, ⟨l4, u4⟩, rfl, hc4, hg4⟩
  have G4 := Lib.hid (grownC_trans G3.out hg4)
  have O4 := Lib.hid (O3.out.read hg4 (by simp))
  clear hc4 hg4 C3 G3 O3
  obtain ⟨N, hN⟩ : ∃ N : Nat, n3 * 256 + n4 = N := ⟨(n3 * 256 + n4).toNat, by omega⟩
  go_wp2_with fail
  refine (l4Model_any d N _ hd2 (by omega)).mono ?_
  rintro e w5 ⟨rfl, hk5, hb5⟩
  have M5 := Lib.hid hk5.blies
  have L5 := Lib.hid (O4.out.below hb5).lies
  have B5 := Lib.hid (Below.tr (below_new G4.out) hb5)
  clear hk5 hb5 G4 O4
  go_wp2
  go_ret3
  exact ⟨v, L, modelN d N, A, _, cp, d, d, rfl, hL, modelN_len d N, L5.out, M5.out, B5.out⟩
theorem draw_below {w wa w' : World} {c : Nat} (h : Below w.heap.size w wa) (hg : wa.grownBy w' (some c)) (hc : w.heap.size = c) : Below w.heap.size w w' :=
  h.grown hg h.size (fun k hk => by have := Option.some.inj hk; omega)
/-- drawn numbers -/
def DrewI (w : World) (e : Ending) (w' : World) : Prop :=
  ∃ (l : List Int) (A : Option Addr) (c1 : Nat), e = .returned (.slice A l.length c1) ∧ l.length ≤ 50 ∧ w'.ownsRow w.heap.size 3 1 (.slice A l.length c1) l.length (l.map (Value.int .i64)) ∧ Below w.heap.size w w'
set_option maxRecDepth 100000 in
set_option maxHeartbeats 8000000 in
theorem drawCleanC_any (a0 : Option Addr) (len cap : Nat) (w : World) (h : Hid (Bytes w a0 len)) :
    Calls Try.prog 30 #[.slice a0 len cap] w (DrewI w) := by
  obtain ⟨i0, hi0, hz0, hz1, hz2⟩ := info_parts info_int
  go_enter Try.func30, Try.ntmps30
  go_wp2_with fail
  have C0 := Lib.hid (Cur.new (cap := cap) h.out)
  have GB0 : Hid (Below w.heap.size w (w.alloc (.cells #[.slice a0 len cap, .int .i64 0, .int .u64 0] 68))) := Lib.hid (below1 w _)
  have Z0 : Hid (w.heap.size < (w.alloc (.cells #[.slice a0 len cap, .int .i64 0, .int .u64 0] 68)).heap.size) := Lib.hid (by simp)
  generalize w.alloc (.cells #[.slice a0 len cap, .int .i64 0, .int .u64 0] 68) = wa at C0 GB0 Z0 ⊢
  obtain ⟨c, hc⟩ : ∃ c, w.heap.size = c := ⟨_, rfl⟩
  rw [hc] at C0 Z0 ⊢
  have HC := Lib.hid hc
  clear hc h
  refine (pick_any c 0 _ _ C0 (by omega) (by omega) (by omega)).mono ?_
  rintro e w1 ⟨n1, ⟨l1, u1⟩, rfl, hc1, hg1⟩
  have C1 := Lib.hid hc1
  have G1 := Lib.hid hg1
  clear hc1 hg1
  go_wp2_with fail
  refine (one_any c _ _ _ C1 (by omega) (by omega) (by omega)).mono ?_
  rintro e w2 ⟨b, rfl, hc2, hg2⟩
  have C2 := Lib.hid hc2
  have G2 := Lib.hid (grownC_trans G1.out hg2)
  clear hc2 hg2 C1 G1
  cases b
  · obtain ⟨m0, hm0⟩ : ∃ m : Nat, n1 = m := ⟨n1.toNat, by omega⟩
    subst hm0
    have hm41 : m0 ≤ 41 := by omega
    have C3 : Hid (Cur w2 c 10) := Lib.hid (C2.out.mono (by omega))
    have G3 := G2
    clear C2 G2
    go_wp2_with fail
    go_loopw [4, 5] (fun u i wr => ∃ (m : Nat) (o : List Int), i = .int .i64 m ∧ m ≤ 41 ∧ o.length + m ≤ 41 ∧ (∃ A2 c2, u = .slice A2 o.length c2 ∧ wr.ownsRow wa.heap.size 3 1 (.slice A2 o.length c2) o.length (o.map (Value.int .i64))) ∧ Cur wr c (10 + 2 * (41 - m)) ∧ wa.grownBy wr (some c)) (fun _ i _ => (intOf i).toNat)
    case atStart => exact ⟨m0, [], rfl, hm41, by simp; omega, ⟨none, 0, rfl, World.ownsRow_nil _ _ _ _⟩, C3.out.mono (by omega), G3.out⟩
    case round =>
      obtain ⟨m, o, rfl, hm, hom, ⟨A2, c2, rfl, hown⟩, hc, hg⟩ := hrel
      obtain ⟨q, hq⟩ : ∃ q, o.length = q := ⟨_, rfl⟩
      rw [hq] at hom hown ⊢
      have HQ := Lib.hid hq
      have O2 := Lib.hid hown
      have CW := Lib.hid hc
      have GW := Lib.hid hg
      clear hq hown hc hg C3 G3
      by_cases hmp : 0 < m
      · go_wp2_with fail
        refine (pick_any c _ _ _ CW (by omega) (by omega) (by omega)).mono ?_
        rintro e w4 ⟨x, ⟨lx, ux⟩, rfl, hc4, hg4⟩
        have C4 := Lib.hid hc4
        have G4 := Lib.hid (grownC_trans GW.out hg4)
        have O4 := Lib.hid (own_read O2.out hg4 Z0.out)
        clear hc4 hg4
        go_wp2_with (at_builtin; (refine wpList_append_lies _ rfl _ _ 24 rfl wa.heap.size 3 i0 (.int .i64 0) 1 8 Try.underlying24 hi0 hz0 hz1 hz2 rfl (by omega) _ q _ rfl (O4.out.alloc _) ⟨w4.heap.size, 0, none⟩ 1 1 [.int .i64 (1 + x)] rfl rfl (one_new1 w4 _ _) (by intro u hu; rw [List.mem_singleton.1 hu]; rfl) (by omega) (by unfold maxLen; omega) (by omega) (by have := G4.out.size; first | omega | (simp; omega)) (w4.heap.size + 1) (by first | rfl | simp) ?_; intro g5 cap5 w5 hown5 hg5 hat5 hlt5; have O5 := Lib.hid hown5; have C5 := Lib.hid ((C4.out.alloc _).grown hg5 (fun g e => by have := (O4.out.lt g e).1; have := Z0.out; omega)); have G5 := Lib.hid (grown_app G4.out hg5 (fun g e => (O4.out.lt g e).1)); clear hown5 hg5 hat5 hlt5))
        go_roundw
        case rel => exact ⟨m - 1, o ++ [1 + x], int_cast_sub hmp, by omega, by have := HQ.out; simp; omega, acc_snoc' HQ.out (by rw [List.map_append]; exact O5.out), C5.out.mono (by omega), G5.out⟩
        case measure => simp [intOf]; omega
      · obtain rfl : m = 0 := by omega
        by_cases hq0 : 0 < q
        · have hqI : (0 : Int) < (q : Int) := by omega
          go_wp2_with fail
          refine (one_any c _ _ _ CW (by omega) (by omega) (by omega)).mono ?_
          rintro e w6 ⟨b6, rfl, hc6, hg6⟩
          have C6 := Lib.hid hc6
          have G6 := Lib.hid (grownC_trans GW.out hg6)
          have O6 := Lib.hid (own_read O2.out hg6 Z0.out)
          clear hc6 hg6
          cases b6
          · go_wp2
            go_ret
            exact ⟨o, A2, c2, (by first | (rw [HQ.out]; done) | (rw [HQ.out]; rfl)), by have := HQ.out; omega, by rw [HQ.out]; exact own_base O6.out GB0.out.size, draw_below GB0.out G6.out HC.out⟩
          · obtain ⟨g, cpx, hv9, hbg9, hgl9⟩ := O6.out.form hq0
            have hA2 : A2 = some ⟨g, 0, none⟩ := by injection hv9
            clear hv9
            subst hA2
            go_wp2_with fail
            refine (among_any c _ w6.heap.size 6 [0, -1, -12, 13, -13, 12] _ (C6.out.alloc _) (by omega) (by omega) (by omega) (by have := C6.out.lt; omega) ⟨rfl, fun i hi => cells_new w6 [0, -1, -12, 13, -13, 12] 3 i hi⟩).mono ?_
            rintro e w7 ⟨y, -, rfl, hc7, hg7⟩
            have G7 := Lib.hid (grownC_trans (grownC_trans G6.out (World.grownBy_alloc w6 _ _)) hg7)
            have O7 := Lib.hid (own_read (O6.out.alloc _) hg7 Z0.out)
            have t7 : w7.cell? ⟨g, 0, none⟩ = some ((o.map (Value.int .i64))[0]'(by rw [List.length_map, HQ.out]; exact hq0)) := (O7.out.cellAt 0 (by omega)).trans (List.getElem?_eq_getElem _)
            have f7 := O7.out.frozenAt 0
            clear hc7 hg7
            generalize (o.map (Value.int .i64))[0]'(by rw [List.length_map, HQ.out]; exact hq0) = u0 at t7
            go_wp2
            go_ret
            refine ⟨o.set 0 y, some ⟨g, 0, none⟩, c2, (by first | (rw [List.length_set, HQ.out]; done) | (rw [List.length_set, HQ.out]; rfl)), by have := HQ.out; simp; omega, ?_, ?_⟩
            · rw [List.length_set, HQ.out, List.map_set]
              exact own_base (O7.out.stored 0 _).1 GB0.out.size
            · exact draw_below GB0.out (grown_set G7.out hbg9) HC.out
        · have hqz : q = 0 := by omega
          go_wp2
          go_ret
          exact ⟨o, A2, c2, (by first | (rw [HQ.out]; done) | (rw [HQ.out]; rfl)), by have := HQ.out; omega, by rw [HQ.out]; exact own_base O2.out GB0.out.size, draw_below GB0.out GW.out HC.out⟩
  · go_wp2_with fail
    refine (pick_any c _ _ _ C2 (by omega) (by omega) (by omega)).mono ?_
    rintro e w3 ⟨n3, ⟨l3, u3⟩, rfl, hc3, hg3⟩
    have C3 : Hid (Cur w3 c 10) := Lib.hid (hc3.mono (by omega))
    have G3 := Lib.hid (grownC_trans G2.out hg3)
    clear hc3 hg3 C2 G2
    obtain ⟨m0, hm0⟩ : ∃ m : Nat, 40 + n3 = m := ⟨(40 + n3).toNat, by omega⟩
    have hm41 : m0 ≤ 41 := by omega
    go_wp2_with fail
    go_loopw [4, 5] (fun u i wr => ∃ (m : Nat) (o : List Int), i = .int .i64 m ∧ m ≤ 41 ∧ o.length + m ≤ 41 ∧ (∃ A2 c2, u = .slice A2 o.length c2 ∧ wr.ownsRow wa.heap.size 3 1 (.slice A2 o.length c2) o.length (o.map (Value.int .i64))) ∧ Cur wr c (10 + 2 * (41 - m)) ∧ wa.grownBy wr (some c)) (fun _ i _ => (intOf i).toNat)
    case atStart => exact ⟨m0, [], rfl, hm41, by simp; omega, ⟨none, 0, rfl, World.ownsRow_nil _ _ _ _⟩, C3.out.mono (by omega), G3.out⟩
    case round =>
      obtain ⟨m, o, rfl, hm, hom, ⟨A2, c2, rfl, hown⟩, hc, hg⟩ := hrel
      obtain ⟨q, hq⟩ : ∃ q, o.length = q := ⟨_, rfl⟩
      rw [hq] at hom hown ⊢
      have HQ := Lib.hid hq
      have O2 := Lib.hid hown
      have CW := Lib.hid hc
      have GW := Lib.hid hg
      clear hq hown hc hg C3 G3
      by_cases hmp : 0 < m
      · go_wp2_with fail
        refine (pick_any c _ _ _ CW (by omega) (by omega) (by omega)).mono ?_
        rintro e w4 ⟨x, ⟨lx, ux⟩, rfl, hc4, hg4⟩
        have C4 := Lib.hid hc4
        have G4 := Lib.hid (grownC_trans GW.out hg4)
        have O4 := Lib.hid (own_read O2.out hg4 Z0.out)
        clear hc4 hg4
        go_wp2_with (at_builtin; (refine wpList_append_lies _ rfl _ _ 24 rfl wa.heap.size 3 i0 (.int .i64 0) 1 8 Try.underlying24 hi0 hz0 hz1 hz2 rfl (by omega) _ q _ rfl (O4.out.alloc _) ⟨w4.heap.size, 0, none⟩ 1 1 [.int .i64 (1 + x)] rfl rfl (one_new1 w4 _ _) (by intro u hu; rw [List.mem_singleton.1 hu]; rfl) (by omega) (by unfold maxLen; omega) (by omega) (by have := G4.out.size; first | omega | (simp; omega)) (w4.heap.size + 1) (by first | rfl | simp) ?_; intro g5 cap5 w5 hown5 hg5 hat5 hlt5; have O5 := Lib.hid hown5; have C5 := Lib.hid ((C4.out.alloc _).grown hg5 (fun g e => by have := (O4.out.lt g e).1; have := Z0.out; omega)); have G5 := Lib.hid (grown_app G4.out hg5 (fun g e => (O4.out.lt g e).1)); clear hown5 hg5 hat5 hlt5))
        go_roundw
        case rel => exact ⟨m - 1, o ++ [1 + x], int_cast_sub hmp, by omega, by have := HQ.out; simp; omega, acc_snoc' HQ.out (by rw [List.map_append]; exact O5.out), C5.out.mono (by omega), G5.out⟩
        case measure => simp [intOf]; omega
      · obtain rfl : m = 0 := by omega
        by_cases hq0 : 0 < q
        · have hqI : (0 : Int) < (q : Int) := by omega
          go_wp2_with fail
          refine (one_any c _ _ _ CW (by omega) (by omega) (by omega)).mono ?_
          rintro e w6 ⟨b6, rfl, hc6, hg6⟩
          have C6 := Lib.hid hc6
          have G6 := Lib.hid (grownC_trans GW.out hg6)
          have O6 := Lib.hid (own_read O2.out hg6 Z0.out)
          clear hc6 hg6
          cases b6
          · go_wp2
            go_ret
            exact ⟨o, A2, c2, (by first | (rw [HQ.out]; done) | (rw [HQ.out]; rfl)), by have := HQ.out; omega, by rw [HQ.out]; exact own_base O6.out GB0.out.size, draw_below GB0.out G6.out HC.out⟩
          · obtain ⟨g, cpx, hv9, hbg9, hgl9⟩ := O6.out.form hq0
            have hA2 : A2 = some ⟨g, 0, none⟩ := by injection hv9
            clear hv9
            subst hA2
            go_wp2_with fail
            refine (among_any c _ w6.heap.size 6 [0, -1, -12, 13, -13, 12] _ (C6.out.alloc _) (by omega) (by omega) (by omega) (by have := C6.out.lt; omega) ⟨rfl, fun i hi => cells_new w6 [0, -1, -12, 13, -13, 12] 3 i hi⟩).mono ?_
            rintro e w7 ⟨y, -, rfl, hc7, hg7⟩
            have G7 := Lib.hid (grownC_trans (grownC_trans G6.out (World.grownBy_alloc w6 _ _)) hg7)
            have O7 := Lib.hid (own_read (O6.out.alloc _) hg7 Z0.out)
            have t7 : w7.cell? ⟨g, 0, none⟩ = some ((o.map (Value.int .i64))[0]'(by rw [List.length_map, HQ.out]; exact hq0)) := (O7.out.cellAt 0 (by omega)).trans (List.getElem?_eq_getElem _)
            have f7 := O7.out.frozenAt 0
            clear hc7 hg7
            generalize (o.map (Value.int .i64))[0]'(by rw [List.length_map, HQ.out]; exact hq0) = u0 at t7
            go_wp2
            go_ret
            refine ⟨o.set 0 y, some ⟨g, 0, none⟩, c2, (by first | (rw [List.length_set, HQ.out]; done) | (rw [List.length_set, HQ.out]; rfl)), by have := HQ.out; simp; omega, ?_, ?_⟩
            · rw [List.length_set, HQ.out, List.map_set]
              exact own_base (O7.out.stored 0 _).1 GB0.out.size
            · exact draw_below GB0.out (grown_set G7.out hbg9) HC.out
        · have hqz : q = 0 := by omega
          go_wp2
          go_ret
          exact ⟨o, A2, c2, (by first | (rw [HQ.out]; done) | (rw [HQ.out]; rfl)), by have := HQ.out; omega, by rw [HQ.out]; exact own_base O2.out GB0.out.size, draw_below GB0.out GW.out HC.out⟩
end Go.Proofs.Ythcgmkhlfhlhkaa
