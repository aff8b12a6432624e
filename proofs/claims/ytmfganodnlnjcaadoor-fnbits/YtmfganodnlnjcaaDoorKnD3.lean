/-
  Drawn numbers for KnownOf.
-/
import Derived.Test.YtmfganodnlnjcaaDoorKnD2
namespace Go.Proofs.YtmfganodnlnjcaaDoor.Op
open Go.Proofs.YtmfganodnlnjcaaDoor
open Go.ChangeShapes Go.WideShapes Go.ChangeAt Go.RowKit

theorem cast_pred {m : Nat} (h : 0 < m) : Value.int .i64 ((m : Int) - 1) = .int .i64 ((m - 1 : Nat) : Int) := by congr 1; omega
set_option maxRecDepth 100000 in
set_option maxHeartbeats 8000000 in
theorem drawOfK_any (a0 : Option Addr) (len cap : Nat) (w : World) (h : Hid (Bytes w a0 len)) :
    Calls Tryd.prog 28 #[.slice a0 len cap] w (DrewL w) := by
  obtain ⟨i0, hi0, hz0, hz1, hz2⟩ := info_parts info_int
  have C0 := Lib.hid (Cur.new (cap := cap) h.out)
  have B0 : Hid (Below w.heap.size w (w.alloc (.cells #[.slice a0 len cap, .int .i64 0, .int .u64 0] 55))) := Lib.hid (below1 w _)
  clear h
  go_enter Tryd.func28, Tryd.ntmps28
  go_wp2_with fail
  generalize (w.alloc (.cells #[.slice a0 len cap, .int .i64 0, .int .u64 0] 55)) = v0 at C0 B0 ⊢
  refine (pick_any w.heap.size 0 _ _ C0 (by omega) (by omega) (by omega)).mono ?_
  rintro e v1 ⟨n1, ⟨p1, p2⟩, rfl, hc, hg⟩
  have C1 := Lib.hid hc
  have B1 := Lib.hid (B0.out.grown hg B0.out.size (fun k hk => by cases hk; omega))
  clear hc hg
  obtain ⟨m1, rfl⟩ := Int.eq_ofNat_of_zero_le p1
  have hm1 : m1 ≤ 5 := by omega
  clear p1 p2
  go_wp2_with fail
  refine (one_any w.heap.size _ _ _ C1 (by omega) (by omega) (by omega)).mono ?_
  rintro e v2 ⟨b, rfl, hc, hg⟩
  have C2 := Lib.hid hc
  have B2 := Lib.hid (B1.out.grown hg B1.out.size (fun k hk => by cases hk; omega))
  clear hc hg
  cases b
  · skip
    go_wp2_with fail
    go_loopw [4, 5] (fun u i wr => ∃ (m : Nat) (o : List Int), i = .int .i64 m ∧ m ≤ 41 ∧ o.length + m ≤ 41 ∧ (∃ A2 c2, u = .slice A2 o.length c2 ∧ wr.ownsRow (w.heap.size + 1) 3 1 (.slice A2 o.length c2) o.length (o.map (Value.int .i64))) ∧ Cur wr w.heap.size (10 + 14 * (41 - m)) ∧ Below w.heap.size w wr) (fun _ i _ => (intOf i).toNat)
    case atStart => exact ⟨m1, [], rfl, by omega, by simp; omega, ⟨none, 0, rfl, World.ownsRow_nil _ _ _ _⟩, C2.out.mono (by omega), B2.out⟩
    case round =>
      obtain ⟨m, o, rfl, hm, hom, ⟨A2, c2, rfl, hown⟩, hc, hb⟩ := hrel
      obtain ⟨q, hq⟩ : ∃ q, o.length = q := ⟨_, rfl⟩
      rw [hq] at hom hown ⊢
      have HQ := Lib.hid hq
      have O2 := Lib.hid hown
      have RC := Lib.hid hc
      have RB := Lib.hid hb
      clear hq hown hc hb
      by_cases hm0 : 0 < m
      · go_wp2_with fail
        refine (rawWord_any w.heap.size _ _ RC (by omega)).mono ?_
        rintro e w3 ⟨x, -, rfl, hc3, hg3⟩
        have C3 := Lib.hid hc3
        have B3 := Lib.hid (RB.out.grown hg3 RB.out.size (fun k hk => by cases hk; omega))
        have O3 := Lib.hid (own_readK O2.out hg3 (by omega))
        have Z3 := C3.out.lt
        clear hc3 hg3 O2
        go_wp2_with (at_builtin; (refine wpList_append_lies _ rfl _ _ 43 rfl (w.heap.size + 1) 3 i0 (.int .i64 0) 1 8 Tryd.underlying43 hi0 hz0 hz1 hz2 rfl (by omega) _ q _ rfl (O3.out.alloc _) ⟨w3.heap.size, 0, none⟩ 1 1 [.int .i64 x] rfl rfl (one_new1 w3 _ _) (by intro u hu; rw [List.mem_singleton.1 hu]; rfl) (by omega) (by unfold maxLen; omega) (by omega) (by first | omega | (simp; omega)) (w3.heap.size + 1) (by first | rfl | simp) ?_; intro g4 cap4 w4 hown4 hg4 hat4 hlt4; have O4 := Lib.hid hown4; have C4 := Lib.hid ((C3.out.alloc _).grown hg4 (fun g e => by have := (O3.out.lt g e).1; omega)); have B4 := Lib.hid ((Below.tr B3.out (below1 w3 _)).grown hg4 (Below.tr B3.out (below1 w3 _)).size (fun g e => by have := (O3.out.lt g e).1; omega)); clear hown4 hg4 hat4 hlt4))
        go_roundw
        case rel => exact ⟨m - 1, o ++ [x], cast_pred hm0, by omega, by have := HQ.out; simp; omega, acc_snocK HQ.out (by rw [List.map_append]; exact O4.out), C4.out.mono (by omega), B4.out⟩
        case measure => simp [intOf]; omega
      · obtain rfl : m = 0 := by omega
        go_wp2
        go_ret
        have hL := HQ.out
        subst hL
        exact ⟨o, A2, c2, rfl, by omega, own_base O2.out (by omega), RB.out⟩
  · go_wp2_with fail
    refine (pick_any w.heap.size _ _ _ C2 (by omega) (by omega) (by omega)).mono ?_
    rintro e v3 ⟨n3, ⟨p1, p2⟩, rfl, hc, hg⟩
    have C3 := Lib.hid hc
    have B3 := Lib.hid (B2.out.grown hg B2.out.size (fun k hk => by cases hk; omega))
    clear hc hg
    obtain ⟨m3, rfl⟩ := Int.eq_ofNat_of_zero_le p1
    have hm3 : m3 ≤ 1 := by omega
    clear p1 p2
    go_wp2_with fail
    go_loopw [4, 5] (fun u i wr => ∃ (m : Nat) (o : List Int), i = .int .i64 m ∧ m ≤ 41 ∧ o.length + m ≤ 41 ∧ (∃ A2 c2, u = .slice A2 o.length c2 ∧ wr.ownsRow (w.heap.size + 1) 3 1 (.slice A2 o.length c2) o.length (o.map (Value.int .i64))) ∧ Cur wr w.heap.size (10 + 14 * (41 - m)) ∧ Below w.heap.size w wr) (fun _ i _ => (intOf i).toNat)
    case atStart => exact ⟨40 + m3, [], by push_cast; rfl, by omega, by simp; omega, ⟨none, 0, rfl, World.ownsRow_nil _ _ _ _⟩, C3.out.mono (by omega), B3.out⟩
    case round =>
      obtain ⟨m, o, rfl, hm, hom, ⟨A2, c2, rfl, hown⟩, hc, hb⟩ := hrel
      obtain ⟨q, hq⟩ : ∃ q, o.length = q := ⟨_, rfl⟩
      rw [hq] at hom hown ⊢
      have HQ := Lib.hid hq
      have O2 := Lib.hid hown
      have RC := Lib.hid hc
      have RB := Lib.hid hb
      clear hq hown hc hb
      by_cases hm0 : 0 < m
      · go_wp2_with fail
        refine (rawWord_any w.heap.size _ _ RC (by omega)).mono ?_
        rintro e w3 ⟨x, -, rfl, hc3, hg3⟩
        have C3 := Lib.hid hc3
        have B3 := Lib.hid (RB.out.grown hg3 RB.out.size (fun k hk => by cases hk; omega))
        have O3 := Lib.hid (own_readK O2.out hg3 (by omega))
        have Z3 := C3.out.lt
        clear hc3 hg3 O2
        go_wp2_with (at_builtin; (refine wpList_append_lies _ rfl _ _ 43 rfl (w.heap.size + 1) 3 i0 (.int .i64 0) 1 8 Tryd.underlying43 hi0 hz0 hz1 hz2 rfl (by omega) _ q _ rfl (O3.out.alloc _) ⟨w3.heap.size, 0, none⟩ 1 1 [.int .i64 x] rfl rfl (one_new1 w3 _ _) (by intro u hu; rw [List.mem_singleton.1 hu]; rfl) (by omega) (by unfold maxLen; omega) (by omega) (by first | omega | (simp; omega)) (w3.heap.size + 1) (by first | rfl | simp) ?_; intro g4 cap4 w4 hown4 hg4 hat4 hlt4; have O4 := Lib.hid hown4; have C4 := Lib.hid ((C3.out.alloc _).grown hg4 (fun g e => by have := (O3.out.lt g e).1; omega)); have B4 := Lib.hid ((Below.tr B3.out (below1 w3 _)).grown hg4 (Below.tr B3.out (below1 w3 _)).size (fun g e => by have := (O3.out.lt g e).1; omega)); clear hown4 hg4 hat4 hlt4))
        go_roundw
        case rel => exact ⟨m - 1, o ++ [x], cast_pred hm0, by omega, by have := HQ.out; simp; omega, acc_snocK HQ.out (by rw [List.map_append]; exact O4.out), C4.out.mono (by omega), B4.out⟩
        case measure => simp [intOf]; omega
      · obtain rfl : m = 0 := by omega
        go_wp2
        go_ret
        have hL := HQ.out
        subst hL
        exact ⟨o, A2, c2, rfl, by omega, own_base O2.out (by omega), RB.out⟩
end Go.Proofs.YtmfganodnlnjcaaDoor.Op
