/-
  The laws' own helpers: lists compared, literals in a model, the model of a number; drawn arguments.
-/
import Derived.Test.YtkkoeeoalkjhoaaDrawCl2
import Derived.Test.YtkkoeeoalkjhoaaSnd
namespace Go.Proofs.Ytkkoeeoalkjhoaa
open Go.ChangeShapes Go.WideShapes Go.ChangeAt Go.RowKit

set_option maxRecDepth 100000 in
set_option maxHeartbeats 2000000 in
theorem sameInts_same (A B : Option Addr) (n c1 c2 : Nat) (l : List Int) (w : World) (hl : Hid (ILies w A l)) (hl2 : Hid (ILies w B l)) (hx : Hid (l.length = n)) (hn : n ≤ 10000000) :
    Calls Try.prog 29 #[.slice A n c1, .slice B n c2] w fun e w' => e = .returned (.bool true) ∧ Below w.heap.size w w' := by
  have hnn : ((n : Int) != (n : Int)) = false := by simp
  go_enter Try.func29, Try.ntmps29
  go_wp2_with fail
  go_loopw [13] (fun i wr => ∃ k : Nat, k ≤ n ∧ i = .int .i64 k ∧ Below w.heap.size w wr) (fun i _ => n - (intOf i).toNat)
  case atStart => exact ⟨0, Nat.zero_le _, rfl, Below.refl _ _⟩
  case round =>
    obtain ⟨k, hk, rfl, hb⟩ := hrel
    have B1 := Lib.hid hb
    clear hb
    by_cases hlt : k < n
    · obtain ⟨y, hy⟩ : ∃ y, l[k]? = some y := ⟨_, List.getElem?_eq_getElem (by have := hx.out; omega)⟩
      obtain ⟨b, off, rfl, hbl, hc⟩ := (hl.out.below B1.out) k y hy
      obtain ⟨b2, off2, rfl, hbl2, hc2⟩ := (hl2.out.below B1.out) k y hy
      clear hy
      have hyy : (y != y) = false := by simp
      go_wp2_with fail
      go_quiet (fail)
      go_wp2
      go_roundw
      case rel => exact ⟨k + 1, by omega, by go_num, bdrewN B1.out _⟩
      case measure => simp [intOf]; omega
    · obtain rfl : k = n := by omega
      go_wp2
      go_ret
      exact ⟨rfl, B1.out⟩
set_option maxRecDepth 100000 in
set_option maxHeartbeats 2000000 in
theorem sameRows_same (A B : Option Addr) (n c1 c2 : Nat) (L : List (List Int)) (w : World) (hl : Hid (LLies w A L)) (hl2 : Hid (LLies w B L)) (hx : Hid (L.length = n)) (hn : n ≤ 10000000) (HT : Hid (tot L ≤ 10000000)) :
    Calls Try.prog 21 #[.slice A n c1, .slice B n c2] w fun e w' => e = .returned (.bool true) ∧ Below w.heap.size w w' := by
  have hnn : ((n : Int) != (n : Int)) = false := by simp
  go_enter Try.func21, Try.ntmps21
  go_wp2_with fail
  go_loopw [13] (fun i wr => ∃ k : Nat, k ≤ n ∧ i = .int .i64 k ∧ Below w.heap.size w wr) (fun i _ => n - (intOf i).toNat)
  case atStart => exact ⟨0, Nat.zero_le _, rfl, Below.refl _ _⟩
  case round =>
    obtain ⟨k, hk, rfl, hb⟩ := hrel
    have B1 := Lib.hid hb
    clear hb
    by_cases hlt : k < n
    · obtain ⟨y, hy⟩ : ∃ y, L[k]? = some y := ⟨_, List.getElem?_eq_getElem (by have := hx.out; omega)⟩
      obtain ⟨b, off, a, c, rfl, hbl, hc, -, hml, hi⟩ := (hl.out.below B1.out) k y hy
      obtain ⟨b2, off2, a2, cc2, rfl, hbl2, hc2, -, -, hi2⟩ := (hl2.out.below B1.out) k y hy
      have I1 := Lib.hid hi
      have I2 := Lib.hid hi2
      have hmt : y.length ≤ 10000000 := by have := tot_mem hy; have := HT.out; omega
      clear hy hi hi2
      obtain ⟨m, hm⟩ : ∃ m, y.length = m := ⟨_, rfl⟩
      rw [hm] at hc hc2 hml hmt
      have HM := Lib.hid hm
      clear hm
      go_wp2_with fail
      go_still_tail 8, (by kernel_rfl)
      change wpList _ _ _ _ _ wr.drew
      have B2 : Hid (Below w.heap.size w wr.drew) := B1.out.drew
      have I3 := Lib.hid (I1.out.below (Below.refl _ _).drew)
      have I4 := Lib.hid (I2.out.below (Below.refl _ _).drew)
      generalize wr.drew = w2 at B2 I3 I4 ⊢
      clear hc hc2
      go_wp2_with (go_at_call 29; refine (sameInts_same _ _ _ _ _ y _ I3 I4 HM hmt).mono ?_; rintro e w3 ⟨rfl, hb3⟩; have B3 := Lib.hid (Below.tr B2.out hb3); clear hb3)
      go_roundw
      case rel => exact ⟨k + 1, by omega, by go_num, B3.out⟩
      case measure => simp [intOf]; omega
    · obtain rfl : k = n := by omega
      go_wp2
      go_ret
      exact ⟨rfl, B1.out⟩
theorem allT_at (M : List Bool) (l : List Int) (k : Nat) (x : Int) (h : l[k]? = some x) : allT M (l.drop k) = (litT M x && allT M (l.drop (k + 1))) := by
  have hlt : k < l.length := (List.getElem?_eq_some_iff.1 h).1
  have e : l[k] = x := (List.getElem?_eq_some_iff.1 h).2
  unfold allT
  rw [List.drop_eq_getElem_cons hlt, List.all_cons, e]
/-- drawn clauses and given literals -/
def DrewP (w : World) (e : Ending) (w' : World) : Prop :=
  ∃ (v : Int) (L : List (List Int)) (given : List Int) (A B : Option Addr) (c1 c2 : Nat), e = .returned (.tuple #[.int .i64 v, .slice A L.length c1, .slice B given.length c2]) ∧ (0 ≤ v ∧ v ≤ 13) ∧ L.length ≤ 13 ∧ tot L ≤ 100 ∧ given.length ≤ 3 ∧
    LLies w' A L ∧ w'.ownsRow w.heap.size 3 1 (.slice B given.length c2) given.length (given.map (Value.int .i64)) ∧ Below w.heap.size w w'
set_option maxRecDepth 100000 in
set_option maxHeartbeats 1000000 in
theorem drawProp_any (a0 : Option Addr) (len cap : Nat) (w : World) (h : Hid (Bytes w a0 len)) :
    Calls Try.prog 80 #[.slice a0 len cap] w (DrewP w) := by
  go_enter Try.func80, Try.ntmps80
  go_wp2_with fail
  refine (clauses_any w.heap.size 0 _ (Cur.new h.out) (by omega)).mono ?_
  rintro e w1 ⟨v, L, A, cp, vs, rfl, hv, hL, hT, ho, hc, hg⟩
  have O1 := Lib.hid ho
  have C1 := Lib.hid hc
  have G1 := Lib.hid hg
  clear ho hc hg
  go_wp2_with fail
  refine (given_any w.heap.size _ v _ C1 (by omega) (by omega) (by omega)).mono ?_
  rintro e w2 ⟨gv, B, c2, rfl, hgl, hog, hc2, hg2⟩
  have O2 := Lib.hid (O1.out.read hg2 (by simp))
  have R2 := Lib.hid hog
  have B2 := Lib.hid (below_new (grownC_trans G1.out hg2))
  have Z2 : Hid (w.heap.size ≤ w1.heap.size) := Lib.hid (by have := G1.out.size; simp at this; omega)
  clear hog hc2 hg2
  go_wp2
  go_ret3
  exact ⟨v, L, gv, A, B, cp, c2, rfl, hv, hL, hT, hgl, O2.out.lies, own_base R2.out Z2.out, B2.out⟩
theorem own_nil {w : World} {base n c : Nat} {t : TypeId} {A : Option Addr} {xs : List Value} (h : w.ownsRow base t 1 (.slice A n c) n xs) : A = none → n = 0 ∧ c = 0 := by
  rintro rfl
  rcases h.2 with ⟨h', _⟩ | ⟨g', cap', cur, h', _⟩
  · simp only [Value.slice.injEq, true_and] at h'; exact h'
  · simp at h'
end Go.Proofs.Ytkkoeeoalkjhoaa
