/-
  Contracts of SlotsOf: the model's and the program's.
-/
import Derived.Test.YtffeiegbnlbaiaaDoorNexts
import Derived.Test.YtffeiegbnlbaiaaDoorEnc2
namespace Go.Proofs.YtffeiegbnlbaiaaDoor
open Go.ChangeShapes Go.WideShapes Go.ChangeAt Go.RowKit

/-- how many units a step takes -/
def unitsI (k : Int) : Int := if k = 4 then 2 else 1
/-- how many units lie ahead of the step at an index -/
def bef (xs : List Stp) (j : Nat) : Int := ((xs.take j).map fun x => unitsI x.k).sum
def slotsL (xs : List Stp) (k : Nat) : List Int := (List.range k).map (bef xs)
theorem unitsI_bd (k : Int) : 1 ≤ unitsI k ∧ unitsI k ≤ 2 := by unfold unitsI; split <;> omega
theorem bef_succ (xs : List Stp) (k : Nat) (x : Stp) (hx : xs[k]? = some x) : bef xs (k + 1) = bef xs k + unitsI x.k := by
  have hlt : k < xs.length := (List.getElem?_eq_some_iff.1 hx).1
  have e : xs[k] = x := (List.getElem?_eq_some_iff.1 hx).2
  unfold bef
  rw [List.take_succ_eq_append_getElem hlt, e]
  simp
theorem bef_bd (xs : List Stp) : ∀ k, k ≤ xs.length → 0 ≤ bef xs k ∧ bef xs k ≤ 2 * k
  | 0, _ => by simp [bef]
  | k + 1, h => by
    have ih := bef_bd xs k (by omega)
    have hx : xs[k]? = some (xs[k]'(by omega)) := List.getElem?_eq_getElem _
    have := bef_succ xs k _ hx
    have := unitsI_bd (xs[k]'(by omega)).k
    omega
theorem slotsL_succ (xs : List Stp) (k : Nat) : slotsL xs (k + 1) = slotsL xs k ++ [bef xs k] := by simp [slotsL, List.range_succ]
theorem slotsL_len (xs : List Stp) (k : Nat) : (slotsL xs k).length = k := by simp [slotsL]
/-- what SlotsOf answers -/
def SlotsRes (xs : List Stp) (b : Bool) (l : List Int) : Prop :=
  (b = true ↔ Good xs) ∧ (b = false → l = []) ∧ (b = true → l = slotsL xs xs.length)
theorem slots_res (xs : List Stp) : ∃ b l, SlotsRes xs b l := by
  obtain ⟨b, hb⟩ := good_bool xs
  cases b
  · exact ⟨false, [], hb, fun _ => rfl, (fun e => by cases e)⟩
  · exact ⟨true, _, hb, (fun e => by cases e), fun _ => rfl⟩
theorem SlotsRes.len {xs : List Stp} {b : Bool} {l : List Int} (h : SlotsRes xs b l) : l.length ≤ 20 := by
  cases b
  · rw [h.2.1 rfl]; simp
  · rw [h.2.2 rfl, slotsL_len]; exact (h.1.1 rfl).1.2

set_option maxRecDepth 100000 in
set_option maxHeartbeats 400000 in
theorem unitsOf_any (k : Int) (w : World) : Calls Tryd.prog 29 #[.int .i64 k] w fun e w' => e = .returned (.int .i64 (unitsI k)) ∧ w = w' := by
  by_cases h : k = 4
  · have hh : (k == 4) = true := by simp [h]
    have e : Hid (unitsI k = 2) := if_pos h
    clear h
    go_enter Tryd.func29, Tryd.ntmps29
    go_wp2
    go_ret
    exact ⟨ret_int e.out.symm, rfl⟩
  · have hh : (k == 4) = false := by simp [h]
    have e : Hid (unitsI k = 1) := if_neg h
    clear h
    go_enter Tryd.func29, Tryd.ntmps29
    go_wp2
    go_ret
    exact ⟨ret_int e.out.symm, rfl⟩

/-- what has been gathered so far -/
def Got (base : Nat) (xs : List Stp) (k : Nat) (v : Value) (w : World) : Prop :=
  ∃ A c, v = .slice A k c ∧ w.ownsRow base 3 1 (.slice A k c) k ((slotsL xs k).map (Value.int .i64))
theorem one_new (w : World) (B : Obj) (v : Value) (t : TypeId) : ∀ j u, [v][j]? = some u → ((w.alloc B).alloc (.cells #[v] t)).cell? ((⟨w.heap.size + 1, 0, none⟩ : Addr).add j) = some u := news2 w B [v] t

theorem encS_units (k o d s i t : Int) : (encS k o d s i t).size = 4 * (unitsI k).toNat := by
  rw [encS, strOfNums_size]
  unfold encL unitsI
  split <;> simp
/-- a round's append -/
theorem got_step {w wr w3 : World} {xs : List Stp} {k c2 g3 cap3 : Nat} {A2 : Option Addr} {x : Stp} {B : Int}
    (O2 : wr.ownsRow w.heap.size 3 1 (.slice A2 k c2) k ((slotsL xs k).map (Value.int .i64)))
    (hown3 : w3.ownsRow w.heap.size 3 1 (.slice (some ⟨g3, 0, none⟩) (k + 1) cap3) (k + 1) ((slotsL xs k).map (Value.int .i64) ++ [.int .i64 B]))
    (hg3 : ((wr.alloc (.cells #[.int .i64 x.k, .int .i64 x.o, .int .i64 x.d, .int .i64 x.s, .int .i64 x.i, .int .i64 x.t] 31)).alloc (.cells #[.int .i64 B] 3)).grownBy w3 (Value.slice A2 k c2).ownBlock)
    (B2 : Below w.heap.size w wr) (hB : bef xs k = B) :
    w3.ownsRow w.heap.size 3 1 (.slice (some ⟨g3, 0, none⟩) (k + 1) cap3) (k + 1) ((slotsL xs (k + 1)).map (Value.int .i64)) ∧ Below w.heap.size w w3 ∧ At w3 wr.heap.size 0 x := by
  have hlt := O2.lt
  refine ⟨by rw [slotsL_succ, hB, List.map_append]; exact hown3, ?_, ?_⟩
  · exact ((Below.tr B2 (below2 wr _ _)).grown hg3 (by have := B2.size; simp; omega) (fun g hg => (hlt g hg).1))
  · have h0 := (box_new wr 31 x.k x.o x.d x.s x.i x.t).2.2
    have hne : (Value.slice A2 k c2).ownBlock ≠ some wr.heap.size := fun e => by have := (hlt _ e).2; omega
    refine at_of_cells fun j hj => ?_
    have e1 : w3.cell? ⟨wr.heap.size, 0 + j, none⟩ = ((wr.alloc (.cells #[.int .i64 x.k, .int .i64 x.o, .int .i64 x.d, .int .i64 x.s, .int .i64 x.i, .int .i64 x.t] 31)).alloc (.cells #[.int .i64 B] 3)).cell? ⟨wr.heap.size, 0 + j, none⟩ :=
      World.cell?_of_block (hg3.block wr.heap.size (by simp; omega) (fun e => hne e.symm))
    have e2 : ((wr.alloc (.cells #[.int .i64 x.k, .int .i64 x.o, .int .i64 x.d, .int .i64 x.s, .int .i64 x.i, .int .i64 x.t] 31)).alloc (.cells #[.int .i64 B] 3)).cell? ⟨wr.heap.size, 0 + j, none⟩ = (wr.alloc (.cells #[.int .i64 x.k, .int .i64 x.o, .int .i64 x.d, .int .i64 x.s, .int .i64 x.i, .int .i64 x.t] 31)).cell? ⟨wr.heap.size, 0 + j, none⟩ :=
      World.cell?_alloc_lt _ _ _ (by simp)
    rw [e1, e2, Nat.zero_add]
    obtain ⟨c0, c1, c2, c3, c4, c5⟩ := h0
    have hq : j = 0 ∨ j = 1 ∨ j = 2 ∨ j = 3 ∨ j = 4 ∨ j = 5 := by omega
    rcases hq with rfl | rfl | rfl | rfl | rfl | rfl
    · exact c0
    · exact c1
    · exact c2
    · exact c3
    · exact c4
    · exact c5

set_option maxRecDepth 100000 in
set_option maxHeartbeats 4000000 in
theorem implSlots_any (A : Option Addr) (n cap : Nat) (xs : List Stp) (w : World) (b : Bool) (l : List Int) (hr : Hid (SlotsRes xs b l)) (hl : Hid (Lies w A xs)) (hx : Hid (xs.length = n)) (hn : n ≤ 1048576) :
    Calls Tryd.prog 14 #[.slice A n cap] w (GaveTwo w l b) := by
  obtain ⟨i0, hi0, hz0, hz1, hz2⟩ := info_parts info_int
  go_enter Tryd.func14, Tryd.ntmps14
  go_wp2_with fail
  refine (implGood_any _ _ _ xs _ b hr.out.1 hl hx hn).mono ?_
  rintro e w1 ⟨rfl, hb1⟩
  have B1 := Lib.hid hb1
  clear hb1
  cases b
  · obtain rfl := hr.out.2.1 rfl
    go_wp2
    go_ret2
    exact two_nil w _ B1.out
  · have HG : Hid (Good xs) := hr.out.1.1 rfl
    have hn20 : n ≤ 20 := by have := HG.out.1.2; have := hx.out; omega
    have HLL : Hid (l = slotsL xs n) := by
      show l = slotsL xs n
      rw [hr.out.2.2 rfl, hx.out]
    go_wp2_with fail
    go_loopw [4, 5, 13] (fun v bf i wr => ∃ k : Nat, k ≤ n ∧ i = .int .i64 k ∧ bf = .int .i64 (bef xs k) ∧ Got w.heap.size xs k v wr ∧ Below w.heap.size w wr) (fun _ _ i _ => n - (intOf i).toNat)
    case atStart => exact ⟨0, Nat.zero_le _, rfl, rfl, ⟨none, 0, rfl, World.ownsRow_nil _ _ _ _⟩, B1.out⟩
    case round =>
      obtain ⟨k, hk, rfl, rfl, ⟨A2, c2, rfl, hown⟩, hbw⟩ := hrel
      have O2 := Lib.hid hown
      have B2 := Lib.hid hbw
      clear hown hbw
      have hbb := bef_bd xs k (by have := hx.out; omega)
      by_cases hlt : k < n
      · obtain ⟨x, hxk⟩ : ∃ x, xs[k]? = some x := ⟨_, List.getElem?_eq_getElem (by have := hx.out; omega)⟩
        obtain ⟨b1, off, rfl, hbl, ha⟩ := (hl.out.below B2.out) k x hxk
        have HBS := Lib.hid (bef_succ xs k x hxk)
        clear hxk
        obtain ⟨e0, e1, e2, e3, e4, e5⟩ := ha
        have hu := unitsI_bd x.k
        have F2 := Lib.hid (fun g h => (O2.out.lt g h).2)
        obtain ⟨B, hB⟩ : ∃ B, bef xs k = B := ⟨_, rfl⟩
        rw [hB] at hbb ⊢
        have HB := Lib.hid hB
        clear hB
        go_wp2_with (first
          | (at_builtin; (refine wpList_append_lies _ rfl _ _ 26 rfl w.heap.size 3 i0 (.int .i64 0) 1 8 Tryd.underlying26 hi0 hz0 hz1 hz2 rfl (by omega) _ k _ rfl ((O2.out.alloc _).alloc _) ⟨wr.heap.size + 1, 0, none⟩ 1 1 [.int .i64 B] rfl rfl (by exact one_new wr _ _ _) (by intro u hu; rw [List.mem_singleton.1 hu]; rfl) (by omega) (by unfold maxLen; omega) (by omega) (by have := B2.out.size; first | omega | (simp; omega)) (wr.heap.size + 1 + 1) (by first | rfl | simp) ?_; intro g3 cap3 w3 hown3 hg3 hat3 hlt3; have H3 := Lib.hid (got_step (x := x) O2.out hown3 hg3 B2.out HB.out); have q0 := H3.out.2.2.1; clear hown3 hg3 hat3 hlt3))
          | (go_at_call 29; refine (unitsOf_any _ _).mono ?_; rintro e w' ⟨rfl, rfl⟩))
        go_roundw
        case rel => exact ⟨k + 1, by omega, by go_num, by rw [HBS.out, HB.out], ⟨_, _, rfl, H3.out.1⟩, H3.out.2.1⟩
        case measure => simp [intOf]; omega
      · obtain rfl : k = n := by omega
        go_wp2
        go_ret2
        exact two_of (by rw [HLL.out, slotsL_len]) (by rw [HLL.out]; exact O2.out) B2.out

theorem int_val {a b : Int} (h : a = b) : Value.int .i64 a = .int .i64 b := by rw [h]
set_option maxRecDepth 100000 in
set_option maxHeartbeats 4000000 in
theorem specSlots_any (A : Option Addr) (n cap : Nat) (xs : List Stp) (w : World) (b : Bool) (l : List Int) (hr : Hid (SlotsRes xs b l)) (hl : Hid (Lies w A xs)) (hx : Hid (xs.length = n)) (hn : n ≤ 1048576) :
    Calls Tryd.prog 15 #[.slice A n cap] w (GaveTwo w l b) := by
  obtain ⟨i0, hi0, hz0, hz1, hz2⟩ := info_parts info_int
  go_enter Tryd.func15, Tryd.ntmps15
  go_wp2_with fail
  refine (specGood_any _ _ _ xs _ b hr.out.1 hl hx hn).mono ?_
  rintro e w1 ⟨rfl, hb1⟩
  have B1 := Lib.hid hb1
  clear hb1
  cases b
  · obtain rfl := hr.out.2.1 rfl
    go_wp2
    go_ret2
    exact two_nil w _ B1.out
  · have HG : Hid (Good xs) := hr.out.1.1 rfl
    have hn20 : n ≤ 20 := by have := HG.out.1.2; have := hx.out; omega
    have HLL : Hid (l = slotsL xs n) := by
      show l = slotsL xs n
      rw [hr.out.2.2 rfl, hx.out]
    go_wp2_with fail
    go_loopw [4, 5, 13] (fun bf v i wr => ∃ k : Nat, k ≤ n ∧ i = .int .i64 k ∧ bf = .int .i64 (bef xs k) ∧ Got w.heap.size xs k v wr ∧ Below w.heap.size w wr) (fun _ _ i _ => n - (intOf i).toNat)
    case atStart => exact ⟨0, Nat.zero_le _, rfl, rfl, ⟨none, 0, rfl, World.ownsRow_nil _ _ _ _⟩, B1.out⟩
    case round =>
      obtain ⟨k, hk, rfl, rfl, ⟨A2, c2, rfl, hown⟩, hbw⟩ := hrel
      have O2 := Lib.hid hown
      have B2 := Lib.hid hbw
      clear hown hbw
      have hbb := bef_bd xs k (by have := hx.out; omega)
      by_cases hlt : k < n
      · obtain ⟨x, hxk⟩ : ∃ x, xs[k]? = some x := ⟨_, List.getElem?_eq_getElem (by have := hx.out; omega)⟩
        obtain ⟨b1, off, rfl, hbl, ha⟩ := (hl.out.below B2.out) k x hxk
        have HBS := Lib.hid (bef_succ xs k x hxk)
        have HOK : Hid (okP x.k x.o x.d x.s x.i x.t) := okB_yes (HG.out.2 k x hxk).1
        obtain ⟨U, hU⟩ : ∃ U : Nat, unitsI x.k = U := ⟨(unitsI x.k).toNat, by have := unitsI_bd x.k; omega⟩
        have hsz : (encS x.k x.o x.d x.s x.i x.t).size = 4 * U := by rw [encS_units, hU]; simp
        clear hxk
        obtain ⟨e0, e1, e2, e3, e4, e5⟩ := ha
        have hu : 1 ≤ U ∧ U ≤ 2 := by have := unitsI_bd x.k; omega
        have HU := Lib.hid hU
        clear hU
        have F2 := Lib.hid (fun g h => (O2.out.lt g h).2)
        obtain ⟨B, hB⟩ : ∃ B, bef xs k = B := ⟨_, rfl⟩
        rw [hB] at hbb ⊢
        have HB := Lib.hid hB
        clear hB
        go_wp2_with (first
          | (at_builtin; (refine wpList_append_lies _ rfl _ _ 26 rfl w.heap.size 3 i0 (.int .i64 0) 1 8 Tryd.underlying26 hi0 hz0 hz1 hz2 rfl (by omega) _ k _ rfl ((O2.out.alloc _).alloc _) ⟨wr.heap.size + 1, 0, none⟩ 1 1 [.int .i64 B] rfl rfl (by exact one_new wr _ _ _) (by intro u hu; rw [List.mem_singleton.1 hu]; rfl) (by omega) (by unfold maxLen; omega) (by omega) (by have := B2.out.size; first | omega | (simp; omega)) (wr.heap.size + 1 + 1) (by first | rfl | simp) ?_; intro g3 cap3 w3 hown3 hg3 hat3 hlt3; have H3 := Lib.hid (got_step (x := x) O2.out hown3 hg3 B2.out HB.out); obtain ⟨q0, q1, q2, q3, q4, q5⟩ := H3.out.2.2; simp only [Nat.zero_add] at q1 q2 q3 q4 q5; clear hown3 hg3 hat3 hlt3))
          | (go_at_call 24; refine (l2Bytes_any _ _ _ _ _ _ _ HOK.out).mono ?_; rintro e w4 ⟨rfl, hb4⟩; have O4 := Lib.hid (own_below H3.out.1 hb4); have B4 := Lib.hid (Below.tr H3.out.2.1 hb4); clear hb4))
        go_roundw
        case rel => exact ⟨k + 1, by omega, by go_num, int_val (by rw [HBS.out, HB.out, HU.out]), ⟨_, _, rfl, O4.out⟩, B4.out⟩
        case measure => simp [intOf]; omega
      · obtain rfl : k = n := by omega
        go_wp2
        go_ret2
        exact two_of (by rw [HLL.out, slotsL_len]) (by rw [HLL.out]; exact O2.out) B2.out
end Go.Proofs.YtffeiegbnlbaiaaDoor
