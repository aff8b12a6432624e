/-
  Drawn arguments of the laws of the solver.
-/
import Derived.Test.YtkkoeeoalkjhoaaSvSnd
import Derived.Test.YtkkoeeoalkjhoaaDrawRes2
namespace Go.Proofs.Ytkkoeeoalkjhoaa
open Go.ChangeShapes Go.WideShapes Go.ChangeAt Go.RowKit

/-- drawn clauses, of one's own -/
def DrewC2 (w : World) (e : Ending) (w' : World) : Prop :=
  ∃ (v : Int) (L : List (List Int)) (A : Option Addr) (c1 : Nat) (vs : List Value), e = .returned (.tuple #[.int .i64 v, .slice A L.length c1]) ∧ (0 ≤ v ∧ v ≤ 13) ∧ L.length ≤ 13 ∧ tot L ≤ 100 ∧ OwnSS w' w.heap.size (.slice A L.length c1) vs L ∧ Below w.heap.size w w'
/-- drawn clauses and given literals, of one's own -/
def DrewP2 (w : World) (e : Ending) (w' : World) : Prop :=
  ∃ (v : Int) (L : List (List Int)) (given : List Int) (A B : Option Addr) (c1 c2 : Nat) (vs : List Value), e = .returned (.tuple #[.int .i64 v, .slice A L.length c1, .slice B given.length c2]) ∧ (0 ≤ v ∧ v ≤ 13) ∧ L.length ≤ 13 ∧ tot L ≤ 100 ∧ given.length ≤ 3 ∧
    OwnSS w' w.heap.size (.slice A L.length c1) vs L ∧ w'.ownsRow w.heap.size 3 1 (.slice B given.length c2) given.length (given.map (Value.int .i64)) ∧ Below w.heap.size w w'
set_option maxRecDepth 100000 in
set_option maxHeartbeats 1000000 in
theorem drawProp2_any (a0 : Option Addr) (len cap : Nat) (w : World) (h : Hid (Bytes w a0 len)) :
    Calls Try.prog 80 #[.slice a0 len cap] w (DrewP2 w) := by
  go_enter Try.func80, Try.ntmps80
  go_wp2_with fail
  refine (clauses_any w.heap.size 0 _ (Cur.new h.out) (by omega)).mono ?_
  rintro e w1 ⟨v, L, A, cp, vs, rfl, hv, hL, hT, ho, hc, hg⟩
  have O1 := Lib.hid ho
  have C1 := Lib.hid hc
  have G1 := Lib.hid hg
  clear ho hc hg
  go_wp2_with fail
  refine (given_any w.heap.size _ v _ C1 (by omega) (by omega) (by omega)).mono ?_
  rintro e w2 ⟨gv, B, c2, rfl, hgl, hog, hc2, hg2⟩
  have O2 := Lib.hid (O1.out.read hg2 (by simp))
  have R2 := Lib.hid hog
  have B2 := Lib.hid (below_new (grownC_trans G1.out hg2))
  have Z2 : Hid (w.heap.size ≤ w1.heap.size) := Lib.hid (by have := G1.out.size; simp at this; omega)
  clear hog hc2 hg2
  go_wp2
  go_ret3
  exact ⟨v, L, gv, A, B, cp, c2, vs, rfl, hv, hL, hT, hgl, ⟨own_base O2.out.outer (by simp), O2.out.inner.base (by simp), O2.out.off⟩, own_base R2.out Z2.out, B2.out⟩
end Go.Proofs.Ytkkoeeoalkjhoaa
