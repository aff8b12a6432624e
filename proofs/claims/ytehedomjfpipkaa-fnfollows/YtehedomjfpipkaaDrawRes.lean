/-
  Drawn arguments of the law FnResolved.
-/
import Derived.Test.YtehedomjfpipkaaLawH
import Derived.Test.YtehedomjfpipkaaSnd2
import Derived.Test.YtehedomjfpipkaaLawH
namespace Go.Proofs.Ytehedomjfpipkaa
open Go.ChangeShapes Go.WideShapes Go.ChangeAt Go.RowKit

/-- drawn clauses -/
def DrewC (w : World) (e : Ending) (w' : World) : Prop :=
  ∃ (v : Int) (L : List (List Int)) (A : Option Addr) (c1 : Nat), e = .returned (.tuple #[.int .i64 v, .slice A L.length c1]) ∧ (0 ≤ v ∧ v ≤ 13) ∧ L.length ≤ 13 ∧ LLies w' A L ∧ Below w.heap.size w w'
set_option maxRecDepth 100000 in
set_option maxHeartbeats 1000000 in
theorem drawGoodC_any (a0 : Option Addr) (len cap : Nat) (w : World) (h : Hid (Bytes w a0 len)) :
    Calls Try.prog 52 #[.slice a0 len cap] w (DrewC w) := by
  go_enter Try.func52, Try.ntmps52
  go_wp2_with fail
  refine (clauses_any w.heap.size 0 _ (Cur.new h.out) (by omega)).mono ?_
  rintro e w1 ⟨v, L, A, cp, vs, rfl, hv, hL, hT, ho, hc, hg⟩
  have O1 := Lib.hid ho
  have B1 := Lib.hid (below_new hg)
  clear ho hc hg
  go_wp2
  go_ret2
  exact ⟨v, L, A, cp, rfl, hv, hL, O1.out.lies, B1.out⟩
/-- drawn clauses and a model -/
def DrewH (w : World) (e : Ending) (w' : World) : Prop :=
  ∃ (v : Int) (L : List (List Int)) (M : List Bool) (A B : Option Addr) (c1 m c2 : Nat), e = .returned (.tuple #[.int .i64 v, .slice A L.length c1, .slice B m c2]) ∧ L.length ≤ 13 ∧ M.length = m ∧ LLies w' A L ∧ BLies w' B M ∧ Below w.heap.size w w'
theorem draw_below {w wa w' : World} {c : Nat} (h : Below w.heap.size w wa) (hg : wa.grownBy w' (some c)) (hc : w.heap.size = c) : Below w.heap.size w w' :=
  h.grown hg h.size (fun k hk => by have := Option.some.inj hk; omega)
/-- drawn numbers -/
def DrewI (w : World) (e : Ending) (w' : World) : Prop :=
  ∃ (l : List Int) (A : Option Addr) (c1 : Nat), e = .returned (.slice A l.length c1) ∧ l.length ≤ 50 ∧ w'.ownsRow w.heap.size 3 1 (.slice A l.length c1) l.length (l.map (Value.int .i64)) ∧ Below w.heap.size w w'
set_option maxRecDepth 100000 in
set_option maxHeartbeats 8000000 in
theorem drawCleanC_any (a0 : Option Addr) (len cap : Nat) (w : World) (h : Hid (Bytes w a0 len)) :
    Calls Try.prog 66 #[.slice a0 len cap] w (DrewI w) := by
  obtain ⟨i0, hi0, hz0, hz1, hz2⟩ := info_parts info_int
  go_enter Try.func66, Try.ntmps66
  go_wp2_with fail
  have C0 := Lib.hid (Cur.new (cap := cap) h.out)
  have GB0 : Hid (Below w.heap.size w (w.alloc (.cells #[.slice a0 len cap, .int .i64 0, .int .u64 0] 71))) := Lib.hid (below1 w _)
  have Z0 : Hid (w.heap.size < (w.alloc (.cells #[.slice a0 len cap, .int .i64 0, .int .u64 0] 71)).heap.size) := Lib.hid (by simp)
  generalize w.alloc (.cells #[.slice a0 len cap, .int .i64 0, .int .u64 0] 71) = wa at C0 GB0 Z0 ⊢
  obtain ⟨c, hc⟩ : ∃ c, w.heap.size = c := ⟨_, rfl⟩
  rw [hc] at C0 Z0 ⊢
  have HC := Lib.hid hc
  clear hc h
  refine (pick_any c 0 _ _ C0 (by omega) (by omega) (by omega)).mono ?_
  rintro e w1 ⟨n1, ⟨l1, u1⟩, rfl, hc1, hg1⟩
  have C1 := Lib.hid hc1
  have G1 := Lib.hid hg1
  clear hc1 hg1
  go_wp2_with fail
  refine (one_any c _ _ _ C1 (by omega) (by omega) (by omega)).mono ?_
  rintro e w2 ⟨b, rfl, hc2, hg2⟩
  have C2 := Lib.hid hc2
  have G2 := Lib.hid (grownC_trans G1.out hg2)
  clear hc2 hg2 C1 G1
  cases b
  · obtain ⟨m0, hm0⟩ : ∃ m : Nat, n1 = m := ⟨n1.toNat, by omega⟩
    subst hm0
    have hm41 : m0 ≤ 41 := by omega
    have C3 : Hid (Cur w2 c 10) := Lib.hid (C2.out.mono (by omega))
    have G3 := G2
    clear C2 G2
    go_wp2_with fail
    go_loopw [4, 5] (fun u i wr => ∃ (m : Nat) (o : List Int), i = .int .i64 m ∧ m ≤ 41 ∧ o.length + m ≤ 41 ∧ (∃ A2 c2, u = .slice A2 o.length c2 ∧ wr.ownsRow wa.heap.size 3 1 (.slice A2 o.length c2) o.length (o.map (Value.int .i64))) ∧ Cur wr c (10 + 2 * (41 - m)) ∧ wa.grownBy wr (some c)) (fun _ i _ => (intOf i).toNat)
    case atStart => exact ⟨m0, [], rfl, hm41, by simp; omega, ⟨none, 0, rfl, World.ownsRow_nil _ _ _ _⟩, C3.out.mono (by omega), G3.out⟩
    case round =>
      obtain ⟨m, o, rfl, hm, hom, ⟨A2, c2, rfl, hown⟩, hc, hg⟩ := hrel
      obtain ⟨q, hq⟩ : ∃ q, o.length = q := ⟨_, rfl⟩
      rw [hq] at hom hown ⊢
      have HQ := Lib.hid hq
      have O2 := Lib.hid hown
      have CW := Lib.hid hc
      have GW := Lib.hid hg
      clear hq hown hc hg C3 G3
      by_cases hmp : 0 < m
      · go_wp2_with fail
        refine (pick_any c _ _ _ CW (by omega) (by omega) (by omega)).mono ?_
        rintro e w4 ⟨x, ⟨lx, ux⟩, rfl, hc4, hg4⟩
        have C4 := Lib.hid hc4
        have G4 := Lib.hid (grownC_trans GW.out hg4)
        have O4 := Lib.hid (own_read O2.out hg4 Z0.out)
        clear hc4 hg4
        go_wp2_with (at_builtin; (refine wpList_append_lies _ rfl _ _ 35 rfl wa.heap.size 3 i0 (.int .i64 0) 1 8 Try.underlying35 hi0 hz0 hz1 hz2 rfl (by omega) _ q _ rfl (O4.out.alloc _) ⟨w4.heap.size, 0, none⟩ 1 1 [.int .i64 (1 + x)] rfl rfl (one_new1 w4 _ _) (by intro u hu; rw [List.mem_singleton.1 hu]; rfl) (by omega) (by unfold maxLen; omega) (by omega) (by have := G4.out.size; first | omega | (simp; omega)) (w4.heap.size + 1) (by first | rfl | simp) ?_; intro g5 cap5 w5 hown5 hg5 hat5 hlt5; have O5 := Lib.hid hown5; have C5 := Lib.hid ((C4.out.alloc _).grown hg5 (fun g e => by have := (O4.out.lt g e).1; have := Z0.out; omega)); have G5 := Lib.hid (grown_app G4.out hg5 (fun g e => (O4.out.lt g e).1)); clear hown5 hg5 hat5 hlt5))
        go_roundw
        case rel => exact ⟨m - 1, o ++ [1 + x], int_cast_sub hmp, by omega, by have := HQ.out; simp; omega, acc_snoc' HQ.out (by rw [List.map_append]; exact O5.out), C5.out.mono (by omega), G5.out⟩
        case measure => simp [intOf]; omega
      · obtain rfl : m = 0 := by omega
        by_cases hq0 : 0 < q
        · have hqI : (0 : Int) < (q : Int) := by omega
          go_wp2_with fail
          refine (one_any c _ _ _ CW (by omega) (by omega) (by omega)).mono ?_
          rintro e w6 ⟨b6, rfl, hc6, hg6⟩
          have C6 := Lib.hid hc6
          have G6 := Lib.hid (grownC_trans GW.out hg6)
          have O6 := Lib.hid (own_read O2.out hg6 Z0.out)
          clear hc6 hg6
          cases b6
          · go_wp2
            go_ret
            exact ⟨o, A2, c2, (by first | (rw [HQ.out]; done) | (rw [HQ.out]; rfl)), by have := HQ.out; omega, by rw [HQ.out]; exact own_base O6.out GB0.out.size, draw_below GB0.out G6.out HC.out⟩
          · obtain ⟨g, cpx, hv9, hbg9, hgl9⟩ := O6.out.form hq0
            have hA2 : A2 = some ⟨g, 0, none⟩ := by injection hv9
            clear hv9
            subst hA2
            go_wp2_with fail
            refine (among_any c _ w6.heap.size 6 [0, -1, -12, 13, -13, 12] _ (C6.out.alloc _) (by omega) (by omega) (by omega) (by have := C6.out.lt; omega) ⟨rfl, fun i hi => cells_new w6 [0, -1, -12, 13, -13, 12] 3 i hi⟩).mono ?_
            rintro e w7 ⟨y, -, rfl, hc7, hg7⟩
            have G7 := Lib.hid (grownC_trans (grownC_trans G6.out (World.grownBy_alloc w6 _ _)) hg7)
            have O7 := Lib.hid (own_read (O6.out.alloc _) hg7 Z0.out)
            have t7 : w7.cell? ⟨g, 0, none⟩ = some ((o.map (Value.int .i64))[0]'(by rw [List.length_map, HQ.out]; exact hq0)) := (O7.out.cellAt 0 (by omega)).trans (List.getElem?_eq_getElem _)
            have f7 := O7.out.frozenAt 0
            clear hc7 hg7
            generalize (o.map (Value.int .i64))[0]'(by rw [List.length_map, HQ.out]; exact hq0) = u0 at t7
            go_wp2
            go_ret
            refine ⟨o.set 0 y, some ⟨g, 0, none⟩, c2, (by first | (rw [List.length_set, HQ.out]; done) | (rw [List.length_set, HQ.out]; rfl)), by have := HQ.out; simp; omega, ?_, ?_⟩
            · rw [List.length_set, HQ.out, List.map_set]
              exact own_base (O7.out.stored 0 _).1 GB0.out.size
            · exact draw_below GB0.out (grown_set G7.out hbg9) HC.out
        · have hqz : q = 0 := by omega
          go_wp2
          go_ret
          exact ⟨o, A2, c2, (by first | (rw [HQ.out]; done) | (rw [HQ.out]; rfl)), by have := HQ.out; omega, by rw [HQ.out]; exact own_base O2.out GB0.out.size, draw_below GB0.out GW.out HC.out⟩
  · go_wp2_with fail
    refine (pick_any c _ _ _ C2 (by omega) (by omega) (by omega)).mono ?_
    rintro e w3 ⟨n3, ⟨l3, u3⟩, rfl, hc3, hg3⟩
    have C3 : Hid (Cur w3 c 10) := Lib.hid (hc3.mono (by omega))
    have G3 := Lib.hid (grownC_trans G2.out hg3)
    clear hc3 hg3 C2 G2
    obtain ⟨m0, hm0⟩ : ∃ m : Nat, 40 + n3 = m := ⟨(40 + n3).toNat, by omega⟩
    have hm41 : m0 ≤ 41 := by omega
    go_wp2_with fail
    go_loopw [4, 5] (fun u i wr => ∃ (m : Nat) (o : List Int), i = .int .i64 m ∧ m ≤ 41 ∧ o.length + m ≤ 41 ∧ (∃ A2 c2, u = .slice A2 o.length c2 ∧ wr.ownsRow wa.heap.size 3 1 (.slice A2 o.length c2) o.length (o.map (Value.int .i64))) ∧ Cur wr c (10 + 2 * (41 - m)) ∧ wa.grownBy wr (some c)) (fun _ i _ => (intOf i).toNat)
    case atStart => exact ⟨m0, [], rfl, hm41, by simp; omega, ⟨none, 0, rfl, World.ownsRow_nil _ _ _ _⟩, C3.out.mono (by omega), G3.out⟩
    case round =>
      obtain ⟨m, o, rfl, hm, hom, ⟨A2, c2, rfl, hown⟩, hc, hg⟩ := hrel
      obtain ⟨q, hq⟩ : ∃ q, o.length = q := ⟨_, rfl⟩
      rw [hq] at hom hown ⊢
      have HQ := Lib.hid hq
      have O2 := Lib.hid hown
      have CW := Lib.hid hc
      have GW := Lib.hid hg
      clear hq hown hc hg C3 G3
      by_cases hmp : 0 < m
      · go_wp2_with fail
        refine (pick_any c _ _ _ CW (by omega) (by omega) (by omega)).mono ?_
        rintro e w4 ⟨x, ⟨lx, ux⟩, rfl, hc4, hg4⟩
        have C4 := Lib.hid hc4
        have G4 := Lib.hid (grownC_trans GW.out hg4)
        have O4 := Lib.hid (own_read O2.out hg4 Z0.out)
        clear hc4 hg4
        go_wp2_with (at_builtin; (refine wpList_append_lies _ rfl _ _ 35 rfl wa.heap.size 3 i0 (.int .i64 0) 1 8 Try.underlying35 hi0 hz0 hz1 hz2 rfl (by omega) _ q _ rfl (O4.out.alloc _) ⟨w4.heap.size, 0, none⟩ 1 1 [.int .i64 (1 + x)] rfl rfl (one_new1 w4 _ _) (by intro u hu; rw [List.mem_singleton.1 hu]; rfl) (by omega) (by unfold maxLen; omega) (by omega) (by have := G4.out.size; first | omega | (simp; omega)) (w4.heap.size + 1) (by first | rfl | simp) ?_; intro g5 cap5 w5 hown5 hg5 hat5 hlt5; have O5 := Lib.hid hown5; have C5 := Lib.hid ((C4.out.alloc _).grown hg5 (fun g e => by have := (O4.out.lt g e).1; have := Z0.out; omega)); have G5 := Lib.hid (grown_app G4.out hg5 (fun g e => (O4.out.lt g e).1)); clear hown5 hg5 hat5 hlt5))
        go_roundw
        case rel => exact ⟨m - 1, o ++ [1 + x], int_cast_sub hmp, by omega, by have := HQ.out; simp; omega, acc_snoc' HQ.out (by rw [List.map_append]; exact O5.out), C5.out.mono (by omega), G5.out⟩
        case measure => simp [intOf]; omega
      · obtain rfl : m = 0 := by omega
        by_cases hq0 : 0 < q
        · have hqI : (0 : Int) < (q : Int) := by omega
          go_wp2_with fail
          refine (one_any c _ _ _ CW (by omega) (by omega) (by omega)).mono ?_
          rintro e w6 ⟨b6, rfl, hc6, hg6⟩
          have C6 := Lib.hid hc6
          have G6 := Lib.hid (grownC_trans GW.out hg6)
          have O6 := Lib.hid (own_read O2.out hg6 Z0.out)
          clear hc6 hg6
          cases b6
          · go_wp2
            go_ret
            exact ⟨o, A2, c2, (by first | (rw [HQ.out]; done) | (rw [HQ.out]; rfl)), by have := HQ.out; omega, by rw [HQ.out]; exact own_base O6.out GB0.out.size, draw_below GB0.out G6.out HC.out⟩
          · obtain ⟨g, cpx, hv9, hbg9, hgl9⟩ := O6.out.form hq0
            have hA2 : A2 = some ⟨g, 0, none⟩ := by injection hv9
            clear hv9
            subst hA2
            go_wp2_with fail
            refine (among_any c _ w6.heap.size 6 [0, -1, -12, 13, -13, 12] _ (C6.out.alloc _) (by omega) (by omega) (by omega) (by have := C6.out.lt; omega) ⟨rfl, fun i hi => cells_new w6 [0, -1, -12, 13, -13, 12] 3 i hi⟩).mono ?_
            rintro e w7 ⟨y, -, rfl, hc7, hg7⟩
            have G7 := Lib.hid (grownC_trans (grownC_trans G6.out (World.grownBy_alloc w6 _ _)) hg7)
            have O7 := Lib.hid (own_read (O6.out.alloc _) hg7 Z0.out)
            have t7 : w7.cell? ⟨g, 0, none⟩ = some ((o.map (Value.int .i64))[0]'(by rw [List.length_map, HQ.out]; exact hq0)) := (O7.out.cellAt 0 (by omega)).trans (List.getElem?_eq_getElem _)
            have f7 := O7.out.frozenAt 0
            clear hc7 hg7
            generalize (o.map (Value.int .i64))[0]'(by rw [List.length_map, HQ.out]; exact hq0) = u0 at t7
            go_wp2
            go_ret
            refine ⟨o.set 0 y, some ⟨g, 0, none⟩, c2, (by first | (rw [List.length_set, HQ.out]; done) | (rw [List.length_set, HQ.out]; rfl)), by have := HQ.out; simp; omega, ?_, ?_⟩
            · rw [List.length_set, HQ.out, List.map_set]
              exact own_base (O7.out.stored 0 _).1 GB0.out.size
            · exact draw_below GB0.out (grown_set G7.out hbg9) HC.out
        · have hqz : q = 0 := by omega
          go_wp2
          go_ret
          exact ⟨o, A2, c2, (by first | (rw [HQ.out]; done) | (rw [HQ.out]; rfl)), by have := HQ.out; omega, by rw [HQ.out]; exact own_base O2.out GB0.out.size, draw_below GB0.out GW.out HC.out⟩
end Go.Proofs.Ytehedomjfpipkaa
