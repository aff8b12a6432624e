/-
  Drawn arguments of the laws of the solver.
-/
import Derived.Test.YtehedomjfpipkaaSvSnd
import Derived.Test.YtehedomjfpipkaaDrawRes2
namespace Go.Proofs.Ytehedomjfpipkaa
open Go.ChangeShapes Go.WideShapes Go.ChangeAt Go.RowKit

/-- drawn clauses, of one's own -/
def DrewC2 (w : World) (e : Ending) (w' : World) : Prop :=
  ∃ (v : Int) (L : List (List Int)) (A : Option Addr) (c1 : Nat) (vs : List Value), e = .returned (.tuple #[.int .i64 v, .slice A L.length c1]) ∧ (0 ≤ v ∧ v ≤ 13) ∧ L.length ≤ 13 ∧ tot L ≤ 100 ∧ OwnSS w' w.heap.size (.slice A L.length c1) vs L ∧ Below w.heap.size w w'
set_option maxRecDepth 100000 in
set_option maxHeartbeats 1000000 in
theorem drawGoodC2_any (a0 : Option Addr) (len cap : Nat) (w : World) (h : Hid (Bytes w a0 len)) :
    Calls Try.prog 52 #[.slice a0 len cap] w (DrewC2 w) := by
  go_enter Try.func52, Try.ntmps52
  go_wp2_with fail
  refine (clauses_any w.heap.size 0 _ (Cur.new h.out) (by omega)).mono ?_
  rintro e w1 ⟨v, L, A, cp, vs, rfl, hv, hL, hT, ho, hc, hg⟩
  have O1 := Lib.hid ho
  have B1 := Lib.hid (below_new hg)
  clear ho hc hg
  go_wp2
  go_ret2
  exact ⟨v, L, A, cp, vs, rfl, hv, hL, hT, ⟨own_base O1.out.outer (by simp), O1.out.inner.base (by simp), O1.out.off⟩, B1.out⟩
/-- drawn clauses and given literals, of one's own -/
def DrewP2 (w : World) (e : Ending) (w' : World) : Prop :=
  ∃ (v : Int) (L : List (List Int)) (given : List Int) (A B : Option Addr) (c1 c2 : Nat) (vs : List Value), e = .returned (.tuple #[.int .i64 v, .slice A L.length c1, .slice B given.length c2]) ∧ (0 ≤ v ∧ v ≤ 13) ∧ L.length ≤ 13 ∧ tot L ≤ 100 ∧ given.length ≤ 3 ∧
    OwnSS w' w.heap.size (.slice A L.length c1) vs L ∧ w'.ownsRow w.heap.size 3 1 (.slice B given.length c2) given.length (given.map (Value.int .i64)) ∧ Below w.heap.size w w'
set_option maxRecDepth 100000 in
set_option maxHeartbeats 1000000 in
theorem drawProp2_any (a0 : Option Addr) (len cap : Nat) (w : World) (h : Hid (Bytes w a0 len)) :
    Calls Try.prog 61 #[.slice a0 len cap] w (DrewP2 w) := by
  go_enter Try.func61, Try.ntmps61
  go_wp2_with fail
  refine (clauses_any w.heap.size 0 _ (Cur.new h.out) (by omega)).mono ?_
  rintro e w1 ⟨v, L, A, cp, vs, rfl, hv, hL, hT, ho, hc, hg⟩
  have O1 := Lib.hid ho
  have C1 := Lib.hid hc
  have G1 := Lib.hid hg
  clear ho hc hg
  go_wp2_with fail
  refine (given_any w.heap.size _ v _ C1 (by omega) (by omega) (by omega)).mono ?_
  rintro e w2 ⟨gv, B, c2, rfl, hgl, hog, hc2, hg2⟩
  have O2 := Lib.hid (O1.out.read hg2 (by simp))
  have R2 := Lib.hid hog
  have B2 := Lib.hid (below_new (grownC_trans G1.out hg2))
  have Z2 : Hid (w.heap.size ≤ w1.heap.size) := Lib.hid (by have := G1.out.size; simp at this; omega)
  clear hog hc2 hg2
  go_wp2
  go_ret3
  exact ⟨v, L, gv, A, B, cp, c2, vs, rfl, hv, hL, hT, hgl, ⟨own_base O2.out.outer (by simp), O2.out.inner.base (by simp), O2.out.off⟩, own_base R2.out Z2.out, B2.out⟩
set_option maxRecDepth 100000 in
set_option maxHeartbeats 1000000 in
theorem drawSolve_any (a0 : Option Addr) (len cap : Nat) (w : World) (h : Hid (Bytes w a0 len)) :
    Calls Try.prog 12 #[.slice a0 len cap] w (DrewC2 w) := by
  go_enter Try.func12, Try.ntmps12
  go_wp2_with fail
  refine (drawGoodC2_any a0 len cap w h).mono ?_
  rintro e w1 ⟨v, L, A, c1, vs, rfl, hz⟩
  have Z := Lib.hid hz
  clear hz
  go_wp2
  go_ret2
  exact ⟨v, L, A, c1, vs, rfl, Z.out⟩
set_option maxRecDepth 100000 in
set_option maxHeartbeats 1000000 in
theorem drawPureI_any (a0 : Option Addr) (len cap : Nat) (w : World) (h : Hid (Bytes w a0 len)) :
    Calls Try.prog 34 #[.slice a0 len cap] w (DrewC2 w) := by
  go_enter Try.func34, Try.ntmps34
  go_wp2_with fail
  refine (drawGoodC2_any a0 len cap w h).mono ?_
  rintro e w1 ⟨v, L, A, c1, vs, rfl, hz⟩
  have Z := Lib.hid hz
  clear hz
  go_wp2
  go_ret2
  exact ⟨v, L, A, c1, vs, rfl, Z.out⟩
set_option maxRecDepth 100000 in
set_option maxHeartbeats 1000000 in
theorem drawWith_any (a0 : Option Addr) (len cap : Nat) (w : World) (h : Hid (Bytes w a0 len)) :
    Calls Try.prog 20 #[.slice a0 len cap] w (DrewP2 w) := by
  go_enter Try.func20, Try.ntmps20
  go_wp2_with fail
  refine (drawProp2_any a0 len cap w h).mono ?_
  rintro e w1 ⟨v, L, gv, A, B, c1, c2, vs, rfl, hz⟩
  have Z := Lib.hid hz
  clear hz
  go_wp2
  go_ret3
  exact ⟨v, L, gv, A, B, c1, c2, vs, rfl, Z.out⟩
set_option maxRecDepth 100000 in
set_option maxHeartbeats 1000000 in
theorem drawDecide_any (a0 : Option Addr) (len cap : Nat) (w : World) (h : Hid (Bytes w a0 len)) :
    Calls Try.prog 31 #[.slice a0 len cap] w (DrewP2 w) := by
  go_enter Try.func31, Try.ntmps31
  go_wp2_with fail
  refine (drawProp2_any a0 len cap w h).mono ?_
  rintro e w1 ⟨v, L, gv, A, B, c1, c2, vs, rfl, hz⟩
  have Z := Lib.hid hz
  clear hz
  go_wp2
  go_ret3
  exact ⟨v, L, gv, A, B, c1, c2, vs, rfl, Z.out⟩
set_option maxRecDepth 100000 in
set_option maxHeartbeats 1000000 in
theorem drawLearn_any (a0 : Option Addr) (len cap : Nat) (w : World) (h : Hid (Bytes w a0 len)) :
    Calls Try.prog 24 #[.slice a0 len cap] w (DrewI w) := by
  have C0 := Lib.hid (Cur.new (cap := cap) h.out)
  have GB0 : Hid (Below w.heap.size w (w.alloc (.cells #[.slice a0 len cap, .int .i64 0, .int .u64 0] 71))) := Lib.hid (below1 w _)
  go_enter Try.func24, Try.ntmps24
  go_wp2_with fail
  refine (one_any w.heap.size 0 _ _ C0 (by omega) (by omega) (by omega)).mono ?_
  rintro e w1 ⟨b, rfl, hc1, hg1⟩
  have C1 := Lib.hid hc1
  have G1 := Lib.hid hg1
  have B1 := Lib.hid (below_new hg1)
  have BY := Lib.hid (h.out.below (below_new hg1))
  clear hc1 hg1
  cases b
  · go_wp2_with fail
    refine (given_any w.heap.size _ 12 _ C1 (by omega) (by omega) (by omega)).mono ?_
    rintro e w2 ⟨gv, B, c2, rfl, hgl, hog, hc2, hg2⟩
    have R2 := Lib.hid hog
    have B2 := Lib.hid (below_new (grownC_trans G1.out hg2))
    have Z2 : Hid (w.heap.size ≤ w1.heap.size) := Lib.hid B1.out.size
    clear hog hc2 hg2
    go_wp2
    go_ret
    exact ⟨gv, B, c2, rfl, by omega, own_base R2.out Z2.out, B2.out⟩
  · go_wp2_with fail
    refine (drawCleanC_any a0 len cap _ BY).mono ?_
    rintro e w2 ⟨l, A, c1, rfl, hl, ho, hb⟩
    have O2 := Lib.hid ho
    have B2 := Lib.hid (Below.tr B1.out hb)
    clear ho hb
    go_wp2
    go_ret
    exact ⟨l, A, c1, rfl, hl, own_base O2.out B1.out.size, B2.out⟩
set_option maxRecDepth 100000 in
set_option maxHeartbeats 2000000 in
theorem sameBools_same (A B : Option Addr) (n c1 c2 : Nat) (l : List Bool) (w : World) (hl : Hid (BLies w A l)) (hl2 : Hid (BLies w B l)) (hx : Hid (l.length = n)) (hn : n ≤ 10000000) :
    Calls Try.prog 15 #[.slice A n c1, .slice B n c2] w fun e w' => e = .returned (.bool true) ∧ Below w.heap.size w w' := by
  have hnn : ((n : Int) != (n : Int)) = false := by simp
  go_enter Try.func15, Try.ntmps15
  go_wp2_with fail
  go_loopw [13] (fun i wr => ∃ k : Nat, k ≤ n ∧ i = .int .i64 k ∧ Below w.heap.size w wr) (fun i _ => n - (intOf i).toNat)
  case atStart => exact ⟨0, Nat.zero_le _, rfl, Below.refl _ _⟩
  case round =>
    obtain ⟨k, hk, rfl, hb⟩ := hrel
    have B1 := Lib.hid hb
    clear hb
    by_cases hlt : k < n
    · obtain ⟨y, hy⟩ : ∃ y, l[k]? = some y := ⟨_, List.getElem?_eq_getElem (by have := hx.out; omega)⟩
      obtain ⟨b, off, rfl, hbl, hc⟩ := (hl.out.below B1.out) k y hy
      obtain ⟨b2, off2, rfl, hbl2, hc2⟩ := (hl2.out.below B1.out) k y hy
      clear hy
      have hyy : (y != y) = false := by simp
      go_wp2_with fail
      go_quiet (fail)
      go_wp2
      go_roundw
      case rel => exact ⟨k + 1, by omega, by go_num, bdrewN B1.out _⟩
      case measure => simp [intOf]; omega
    · obtain rfl : k = n := by omega
      go_wp2
      go_ret
      exact ⟨rfl, B1.out⟩
set_option maxRecDepth 100000 in
set_option maxHeartbeats 2000000 in
theorem negatedL_any (A : Option Addr) (n cap : Nat) (l : List Int) (w : World) (hl : Hid (ILies w A l)) (HX : Hid (l.length = n)) (HI : Hid (In12 l)) (hn : n ≤ 1000) :
    Calls Try.prog 28 #[.slice A n cap] w (GaveInts w (negL l)) := by
  obtain ⟨i0, hi0, hz0, hz1, hz2⟩ := info_parts info_int
  go_enter Try.func28, Try.ntmps28
  go_wp2_with fail
  go_loopw [3, 8] (fun u i wr => ∃ (k : Nat) (o : List Int), k ≤ n ∧ i = .int .i64 k ∧ o = negL (l.take k) ∧ o.length = k ∧ (∃ A3 c3, u = .slice A3 k c3 ∧ wr.ownsRow w.heap.size 3 1 (.slice A3 k c3) k (o.map (Value.int .i64))) ∧ Below w.heap.size w wr) (fun _ i _ => n - (intOf i).toNat)
  case atStart => exact ⟨0, [], Nat.zero_le _, rfl, rfl, rfl, ⟨none, 0, rfl, World.ownsRow_nil _ _ _ _⟩, Below.refl _ _⟩
  case round =>
    obtain ⟨k, o, hk, rfl, ho, hok, ⟨A3, c3, rfl, hown⟩, hb⟩ := hrel
    have HO := Lib.hid ho
    have HK := Lib.hid hok
    have O3 := Lib.hid hown
    have B1 := Lib.hid hb
    clear ho hok hown hb
    by_cases hlt : k < n
    · obtain ⟨x, hx⟩ : ∃ x, l[k]? = some x := ⟨_, List.getElem?_eq_getElem (by have := HX.out; omega)⟩
      obtain ⟨b, off, rfl, hbl, ha⟩ := (hl.out.below B1.out) k x hx
      have hxr := HI.out x (List.mem_of_getElem? hx)
      have hx1 : -12 ≤ x := hxr.1
      have hx2 : x ≤ 12 := hxr.2
      have HXK := Lib.hid (negL_at hx)
      clear hx hxr
      go_wp2_with (at_builtin; (refine wpList_append_lies _ rfl _ _ 35 rfl w.heap.size 3 i0 (.int .i64 0) 1 8 Try.underlying35 hi0 hz0 hz1 hz2 rfl (by omega) _ k _ rfl (O3.out.alloc _) ⟨wr.heap.size, 0, none⟩ 1 1 [.int .i64 (-x)] rfl rfl (one_new1 wr _ _) (by intro u hu; rw [List.mem_singleton.1 hu]; rfl) (by omega) (by unfold maxLen; omega) (by omega) (by have := B1.out.size; first | omega | (simp; omega)) (wr.heap.size + 1) (by first | rfl | simp) ?_; intro g4 cap4 w4 hown4 hg4 hat4 hlt4; have H4 := Lib.hid (app1 O3.out hown4 hg4 B1.out (Nat.le_refl _)); clear hown4 hg4 hat4 hlt4))
      go_roundw
      case rel => exact ⟨k + 1, o ++ [-x], by omega, by go_num, by rw [HXK.out, HO.out], by simp [HK.out], ⟨_, _, rfl, H4.out.1⟩, H4.out.2⟩
      case measure => simp [intOf]; omega
    · obtain rfl : k = n := by omega
      have E : Hid (negL l = o) := Lib.hid (by rw [HO.out, List.take_of_length_le (by have := HX.out; omega)])
      go_wp2
      go_ret
      rw [E.out]
      exact ⟨A3, c3, by rw [HK.out]; rfl, by rw [HK.out]; exact O3.out, B1.out⟩
end Go.Proofs.Ytehedomjfpipkaa
