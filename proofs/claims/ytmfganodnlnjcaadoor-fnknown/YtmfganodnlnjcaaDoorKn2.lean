/-
  Contracts of chapter 10: the program's joins and meets.
-/
import Derived.Test.YtmfganodnlnjcaaDoorKn1
import Derived.Test.YtmfganodnlnjcaaDoorLists
namespace Go.Proofs.YtmfganodnlnjcaaDoor.Op
open Go.Proofs.YtmfganodnlnjcaaDoor
open Go.ChangeShapes Go.WideShapes Go.ChangeAt Go.RowKit

/-- the bits of all, of some, as the program gathers them -/
def ofI (l : List Int) : Int × Int := (bits .andNot .i64 (l.foldl (bits .and .i64) 65535) (bits .andNot .i64 (l.foldl (bits .or .i64) 0) (l.foldl (bits .and .i64) 65535)), bits .andNot .i64 (l.foldl (bits .or .i64) 0) (l.foldl (bits .and .i64) 65535))
theorem foldA (ns : List Nat) (h : ∀ n ∈ ns, n < 65536) : ∀ x : Nat, x < 65536 → (ns.map (fun n : Nat => (n : Int))).foldl (bits .and .i64) (x : Int) = ((ns.foldl (· &&& ·) x : Nat) : Int) ∧ ns.foldl (· &&& ·) x < 65536 := by
  induction ns with
  | nil => intro x hx; exact ⟨rfl, hx⟩
  | cons n ns ih =>
    intro x hx
    have hn := h n (by simp)
    rw [List.map_cons, List.foldl_cons, List.foldl_cons, i64_and_nat x n (by omega) (by omega)]
    exact ih (fun m hm => h m (by simp [hm])) _ (and_lt16 hx)
theorem foldO (ns : List Nat) (h : ∀ n ∈ ns, n < 65536) : ∀ x : Nat, x < 65536 → (ns.map (fun n : Nat => (n : Int))).foldl (bits .or .i64) (x : Int) = ((ns.foldl (· ||| ·) x : Nat) : Int) ∧ ns.foldl (· ||| ·) x < 65536 := by
  induction ns with
  | nil => intro x hx; exact ⟨rfl, hx⟩
  | cons n ns ih =>
    intro x hx
    have hn := h n (by simp)
    rw [List.map_cons, List.foldl_cons, List.foldl_cons, i64_or_nat x n (by omega) (by omega)]
    exact ih (fun m hm => h m (by simp [hm])) _ (or_lt16 hx hn)
theorem ofI_nat (ns : List Nat) (h : ∀ n ∈ ns, n < 65536) : ofI (ns.map (fun n : Nat => (n : Int))) = (((ofK ns).v : Int), ((ofK ns).m : Int)) := by
  have a := foldA ns h 65535 (by decide)
  have b := foldO ns h 0 (by decide)
  have c : andN (someOf ns) (allOf ns) < 65536 := xor_lt16 b.2 (and_lt16 b.2)
  unfold ofI
  rw [show (65535 : Int) = ((65535 : Nat) : Int) from rfl, show (0 : Int) = ((0 : Nat) : Int) from rfl, a.1, b.1]
  have e : bits .andNot .i64 ((someOf ns : Nat) : Int) ((allOf ns : Nat) : Int) = ((andN (someOf ns) (allOf ns) : Nat) : Int) := i64_andNot_nat _ _ (by have : someOf ns < 65536 := b.2; omega) (by have : allOf ns < 65536 := a.2; omega)
  have e' : bits .andNot .i64 ((allOf ns : Nat) : Int) ((andN (someOf ns) (allOf ns) : Nat) : Int) = ((andN (allOf ns) (andN (someOf ns) (allOf ns)) : Nat) : Int) := i64_andNot_nat _ _ (by have : allOf ns < 65536 := a.2; omega) (by omega)
  show (bits .andNot .i64 ((allOf ns : Nat) : Int) (bits .andNot .i64 ((someOf ns : Nat) : Int) ((allOf ns : Nat) : Int)), bits .andNot .i64 ((someOf ns : Nat) : Int) ((allOf ns : Nat) : Int)) = _
  rw [e, e']
  rfl
theorem take_next (l : List Int) (k : Nat) (y : Int) (h : l[k]? = some y) : l.take (k + 1) = l.take k ++ [y] := by
  rw [List.take_add_one, h]; rfl

set_option maxRecDepth 100000 in
set_option maxHeartbeats 2000000 in
theorem knownOf_any (A : Option Addr) (n cap : Nat) (l : List Int) (w : World) (hl : Hid (ILies w A l)) (HX : Hid (l.length = n)) (hn : n ≤ 1000000) :
    Calls Tryd.prog 59 #[.slice A n cap] w fun e w' => e = .returned (.agg #[.int .i64 (ofI l).1, .int .i64 (ofI l).2]) ∧ Below w.heap.size w w' := by
  have N0 := one_newk w 0 0
  go_enter Tryd.func59, Tryd.ntmps59
  go_wp2_with fail
  unfold kO at N0
  have L0 : Hid (ILies (w.alloc (.cells #[.int .i64 0, .int .i64 0] 24)) A l) := Lib.hid (hl.out.below (below1 _ _))
  generalize (w.alloc (.cells #[.int .i64 0, .int .i64 0] 24)) = v0 at N0 L0 ⊢
  go_loop [3, 4, 6, 9] (fun x y z i => ∃ k : Nat, k ≤ n ∧ i = .int .i64 k ∧ x = .int .i64 ((l.take k).foldl (bits .and .i64) 65535) ∧ y = .int .i64 ((l.take k).foldl (bits .or .i64) 0) ∧ True) (fun _ _ _ i => n - (intOf i).toNat)
  case atStart => exact ⟨0, Nat.zero_le _, rfl, by simp, by simp, trivial⟩
  case round =>
    obtain ⟨k, hk, rfl, rfl, rfl, -⟩ := hrel
    by_cases hlt : k < n
    · obtain ⟨y, hy⟩ : ∃ y, l[k]? = some y := ⟨_, List.getElem?_eq_getElem (by have := HX.out; omega)⟩
      obtain ⟨b, off, rfl, hbl, hc⟩ := L0.out k y hy
      have HT := Lib.hid (take_next l k y hy)
      clear hy
      go_wp2
      go_round
      case rel => exact ⟨k + 1, by omega, by go_num, by rw [HT.out, List.foldl_append]; rfl, by rw [HT.out, List.foldl_append]; rfl, trivial⟩
      case measure => simp [intOf]; omega
    · obtain rfl : k = n := by omega
      have HT : Hid (l.take k = l) := Lib.hid (List.take_of_length_le (by have := HX.out; omega))
      rw [HT.out]
      have HE : Hid (ofI l = ofI l) := Lib.hid rfl
      obtain ⟨x, hx⟩ : ∃ x, l.foldl (bits .and .i64) 65535 = x := ⟨_, rfl⟩
      obtain ⟨y, hy⟩ : ∃ y, l.foldl (bits .or .i64) 0 = y := ⟨_, rfl⟩
      have E : Hid (ofI l = (bits .andNot .i64 x (bits .andNot .i64 y x), bits .andNot .i64 y x)) := Lib.hid (by unfold ofI; rw [hx, hy])
      rw [hx, hy]
      clear hx hy
      go_wp2_with fail
      refine (knownBut_any _ _ _).mono ?_
      rintro e v1 ⟨rfl, hb⟩
      have k0 := (KB.below N0.out.1 hb).c0
      have m0 := (KB.below N0.out.1 hb).c1
      have f0 := (KB.below N0.out.1 hb).f 0
      have j0 := (KB.below N0.out.1 hb).f 1
      have D1 := Lib.hid hb
      clear hb
      go_wp2
      refine kshut0 (KB.set2 (KB.below N0.out.1 D1.out)) (belowK2 (Below.tr N0.out.2 D1.out) (by omega)) ?_ (by rw [E.out])
      intro c0 c1; simp [results, Tryd.results59, go_sem, c0, c1]

end Go.Proofs.YtmfganodnlnjcaaDoor.Op
