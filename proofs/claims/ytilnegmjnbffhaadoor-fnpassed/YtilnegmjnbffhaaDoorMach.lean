/-
  Machines: what a valid one is; contracts of NewMachine, GoodMachine and the tests of contexts, the model's and the program's.
-/
import Derived.Test.YtilnegmjnbffhaaDoorLists
import Derived.Deep.OwnRows
namespace Go.Proofs.YtilnegmjnbffhaaDoor
open Go.ChangeShapes Go.WideShapes Go.ChangeAt Go.RowKit

/-- all numbers of a list lie between two bounds -/
def allB (lo hi : Int) (l : List Int) : Bool := l.all (inB lo hi)
theorem allB_step {lo hi : Int} {l : List Int} {k : Nat} {y : Int} (h : allB lo hi (l.take k) = true) (hy : l[k]? = some y) (hi' : inB lo hi y = true) : allB lo hi (l.take (k + 1)) = true := by
  have hlt : k < l.length := (List.getElem?_eq_some_iff.1 hy).1
  have e : l[k] = y := (List.getElem?_eq_some_iff.1 hy).2
  rw [List.take_succ_eq_append_getElem hlt, e]
  simp only [allB, List.all_append, List.all_cons, List.all_nil, Bool.and_true, Bool.and_eq_true] at h ⊢
  exact ⟨h, hi'⟩
theorem allB_no {lo hi : Int} {l : List Int} {k : Nat} {y : Int} (hy : l[k]? = some y) (hi' : inB lo hi y = false) : false = allB lo hi l := by
  rw [eq_comm, allB, List.all_eq_false]
  exact ⟨y, List.mem_of_getElem? hy, by simp [hi']⟩
theorem allB_yes {lo hi : Int} {l : List Int} {n : Nat} (hn : l.length = n) (h : allB lo hi (l.take n) = true) : true = allB lo hi l := by
  rw [List.take_of_length_le (by omega)] at h
  exact h.symm
theorem allB_at {lo hi : Int} {l : List Int} (h : allB lo hi l = true) {k : Nat} {y : Int} (hy : l[k]? = some y) : lo ≤ y ∧ y ≤ hi := by
  have := List.all_eq_true.1 h y (List.mem_of_getElem? hy)
  exact inB_yes this

set_option maxRecDepth 100000 in
set_option maxHeartbeats 2000000 in
theorem allWords_any (A : Option Addr) (n cap : Nat) (l : List Int) (w : World) (hl : Hid (ILies w A l)) (HX : Hid (l.length = n)) (hn : n ≤ 1048576) :
    Calls Tryd.prog 65 #[.slice A n cap] w fun e w' => e = .returned (.bool (allB 0 65535 l)) ∧ Below w.heap.size w w' := by
  go_enter Tryd.func65, Tryd.ntmps65
  go_wp2_with fail
  go_loopw [7] (fun i wr => ∃ k : Nat, k ≤ n ∧ i = .int .i64 k ∧ allB 0 65535 (l.take k) = true ∧ Below w.heap.size w wr) (fun i _ => n - (intOf i).toNat)
  case atStart => exact ⟨0, Nat.zero_le _, rfl, by simp [allB], Below.refl _ _⟩
  case round =>
    obtain ⟨k, hk, rfl, hall, hb⟩ := hrel
    have HA := Lib.hid hall
    have B1 := Lib.hid hb
    clear hall hb
    by_cases hlt : k < n
    · obtain ⟨y, hy⟩ : ∃ y, l[k]? = some y := ⟨_, List.getElem?_eq_getElem (by have := HX.out; omega)⟩
      obtain ⟨b, off, rfl, hbl, hc⟩ := (hl.out.below B1.out) k y hy
      have HY := Lib.hid hy
      clear hy
      cases hin : inB 0 65535 y
      · go_wp2_with (first | (go_at_call 72; refine (isWord_any _ _).mono ?_; rintro e w' ⟨rfl, rfl⟩))
        go_ret
        exact ⟨ret_b (allB_no HY.out hin), B1.out⟩
      · have HS := Lib.hid (allB_step HA.out HY.out hin)
        go_wp2_with (first | (go_at_call 72; refine (isWord_any _ _).mono ?_; rintro e w' ⟨rfl, rfl⟩))
        go_roundw
        case rel => exact ⟨k + 1, by omega, by go_num, HS.out, B1.out⟩
        case measure => simp [intOf]; omega
    · obtain rfl : k = n := by omega
      go_wp2
      go_ret
      exact ⟨ret_b (allB_yes HX.out HA.out), B1.out⟩

/-- a context -/
def ctxB (l : List Int) : Bool := decide (l.length = 8) && allB 0 255 l
set_option maxRecDepth 100000 in
set_option maxHeartbeats 2000000 in
theorem isContext_any (A : Option Addr) (n cap : Nat) (l : List Int) (w : World) (hl : Hid (ILies w A l)) (HX : Hid (l.length = n)) (hn : n ≤ 1048576) :
    Calls Tryd.prog 37 #[.slice A n cap] w fun e w' => e = .returned (.bool (ctxB l)) ∧ Below w.heap.size w w' := by
  by_cases h8 : n = 8
  · subst h8
    have HC : Hid (allB 0 255 l = ctxB l) := Lib.hid (by simp [ctxB, HX.out])
    go_enter Tryd.func37, Tryd.ntmps37
    go_wp2_with fail
    go_loopw [10] (fun i wr => ∃ k : Nat, k ≤ 8 ∧ i = .int .i64 k ∧ allB 0 255 (l.take k) = true ∧ Below w.heap.size w wr) (fun i _ => 8 - (intOf i).toNat)
    case atStart => exact ⟨0, Nat.zero_le _, rfl, by simp [allB], Below.refl _ _⟩
    case round =>
      obtain ⟨k, hk, rfl, hall, hb⟩ := hrel
      have HA := Lib.hid hall
      have B1 := Lib.hid hb
      clear hall hb
      by_cases hlt : k < 8
      · obtain ⟨y, hy⟩ : ∃ y, l[k]? = some y := ⟨_, List.getElem?_eq_getElem (by have := HX.out; omega)⟩
        obtain ⟨b, off, rfl, hbl, hc⟩ := (hl.out.below B1.out) k y hy
        have HY := Lib.hid hy
        clear hy
        cases hin : inB 0 255 y
        · go_wp2_with (first | (go_at_call 56; refine (isByte_any _ _).mono ?_; rintro e w' ⟨rfl, rfl⟩))
          go_ret
          exact ⟨ret_b ((allB_no HY.out hin).trans HC.out), B1.out⟩
        · have HS := Lib.hid (allB_step HA.out HY.out hin)
          go_wp2_with (first | (go_at_call 56; refine (isByte_any _ _).mono ?_; rintro e w' ⟨rfl, rfl⟩))
          go_roundw
          case rel => exact ⟨k + 1, by omega, by go_num, HS.out, B1.out⟩
          case measure => simp [intOf]; omega
      · obtain rfl : k = 8 := by omega
        go_wp2
        go_ret
        exact ⟨ret_b ((allB_yes HX.out HA.out).trans HC.out), B1.out⟩
  · have HC : Hid (false = ctxB l) := Lib.hid (by simp [ctxB, HX.out, h8])
    have hq : (((n : Nat) : Int) != 8) = true := by simp; omega
    go_enter Tryd.func37, Tryd.ntmps37
    go_wp2
    go_ret
    exact ⟨ret_b HC.out, Below.refl _ _⟩

/-- a machine -/
structure Mch where
  a : Int
  r : List Int
  c : List Int
  s : List Bool
def goodMB (m : Mch) : Bool := inB 0 19 m.a && decide (m.r.length = 6) && decide (m.c.length = 16) && decide (m.s.length = 16) && allB 0 65535 m.r && allB 0 65535 m.c
/-- a machine as a value: its fields read as the lists -/
def MLies (w : World) (A1 A2 A3 : Option Addr) (m : Mch) : Prop := ILies w A1 m.r ∧ ILies w A2 m.c ∧ BLies w A3 m.s
theorem MLies.below {w w' : World} {A1 A2 A3 : Option Addr} {m : Mch} (h : MLies w A1 A2 A3 m) (hb : Below w.heap.size w w') : MLies w' A1 A2 A3 m := ⟨h.1.below hb, h.2.1.below hb, h.2.2.below hb⟩
def Lens (m : Mch) (n1 n2 n3 : Nat) : Prop := m.r.length = n1 ∧ m.c.length = n2 ∧ m.s.length = n3

set_option maxRecDepth 100000 in
set_option maxHeartbeats 2000000 in
theorem implGoodM_any (a : Int) (A1 A2 A3 : Option Addr) (n1 n2 n3 c1 c2 c3 : Nat) (m : Mch) (w : World) (ha : m.a = a) (hl : Hid (MLies w A1 A2 A3 m)) (HX : Hid (Lens m n1 n2 n3)) (h1 : n1 ≤ 1048576) (h2 : n2 ≤ 1048576) (h3 : n3 ≤ 1048576) :
    Calls Tryd.prog 57 #[.agg #[.int .i64 a, .slice A1 n1 c1, .slice A2 n2 c2, .slice A3 n3 c3]] w fun e w' => e = .returned (.bool (goodMB m)) ∧ Below w.heap.size w w' := by
  have HG : Hid (goodMB m = (inB 0 19 a && decide (n1 = 6) && decide (n2 = 16) && decide (n3 = 16) && allB 0 65535 m.r && allB 0 65535 m.c)) := Lib.hid (by simp only [goodMB, HX.out.1, HX.out.2.1, HX.out.2.2, ha])
  clear ha
  obtain ⟨l1, l2, l3⟩ := hl.out
  have L1 := Lib.hid l1
  have L2 := Lib.hid l2
  clear l1 l2 l3
  by_cases a0 : a < 0
  · have hin : Hid (inB 0 19 a = false) := Lib.hid (by simp [inB]; omega)
    go_enter Tryd.func57, Tryd.ntmps57
    go_wp2
    go_ret
    exact ⟨ret_b (by rw [HG.out, hin.out]; rfl), below1 _ _⟩
  by_cases a20 : 20 ≤ a
  · have hin : Hid (inB 0 19 a = false) := Lib.hid (by simp [inB]; omega)
    go_enter Tryd.func57, Tryd.ntmps57
    go_wp2
    go_ret
    exact ⟨ret_b (by rw [HG.out, hin.out]; rfl), below1 _ _⟩
  have hin : Hid (inB 0 19 a = true) := Lib.hid (by simp [inB]; omega)
  by_cases q1 : n1 = 6
  case neg =>
    have hq : (((n1 : Nat) : Int) != 6) = true := by simp; omega
    go_enter Tryd.func57, Tryd.ntmps57
    go_wp2
    go_ret
    exact ⟨ret_b (by rw [HG.out]; simp [q1]), below1 _ _⟩
  subst q1
  by_cases q2 : n2 = 16
  case neg =>
    have hq : (((n2 : Nat) : Int) != 16) = true := by simp; omega
    go_enter Tryd.func57, Tryd.ntmps57
    go_wp2
    go_ret
    exact ⟨ret_b (by rw [HG.out]; simp [q2]), below1 _ _⟩
  subst q2
  by_cases q3 : n3 = 16
  case neg =>
    have hq : (((n3 : Nat) : Int) != 16) = true := by simp; omega
    go_enter Tryd.func57, Tryd.ntmps57
    go_wp2
    go_ret
    exact ⟨ret_b (by rw [HG.out]; simp [q3]), below1 _ _⟩
  subst q3
  have hk1 : Hid (Blk (w.alloc (.cells #[.int .i64 a, .slice A1 6 c1, .slice A2 16 c2, .slice A3 16 c3] 73)) w.heap.size 73 [.int .i64 a, .slice A1 6 c1, .slice A2 16 c2, .slice A3 16 c3]) := Lib.hid (heap_alloc_new w _)
  have hb0 := Lib.hid (below1 w (.cells #[.int .i64 a, .slice A1 6 c1, .slice A2 16 c2, .slice A3 16 c3] 73))
  go_enter Tryd.func57, Tryd.ntmps57
  go_wp2_with fail
  refine (allWords_any _ _ _ m.r _ (L1.out.below hb0.out) HX.out.1 (by omega)).mono ?_
  rintro e w1 ⟨rfl, hb1⟩
  have B1 := Lib.hid (Below.tr hb0.out hb1)
  have K1 := Lib.hid (hk1.out.below hb1)
  clear hb1 hk1 hb0
  have k2 : w1.cell? ⟨w.heap.size, 2, none⟩ = some (.slice A2 16 c2) := K1.out.cell 2
  cases hr : allB 0 65535 m.r
  · go_wp2
    go_ret
    exact ⟨ret_b (by rw [HG.out, hr]; simp), B1.out⟩
  go_wp2_with fail
  refine (allWords_any _ _ _ m.c _ (L2.out.below B1.out) HX.out.2.1 (by omega)).mono ?_
  rintro e w2 ⟨rfl, hb2⟩
  have B2 := Lib.hid (Below.tr B1.out hb2)
  clear hb2 k2
  go_wp2
  go_ret
  exact ⟨ret_b (by rw [HG.out, hr]; simp [hin.out]), B2.out⟩

/-- a machine that the call itself made -/
def MBlk (w : World) (g1 g2 g3 : Nat) (m : Mch) : Prop :=
  Blk w g1 3 (m.r.map (Value.int .i64)) ∧ Blk w g2 3 (m.c.map (Value.int .i64)) ∧ Blk w g3 4 (m.s.map Value.bool) ∧ g1 ≠ g2 ∧ g1 ≠ g3 ∧ g2 ≠ g3
theorem MBlk.below {w w' : World} {g1 g2 g3 : Nat} {m : Mch} (h : MBlk w g1 g2 g3 m) (hb : Below w.heap.size w w') : MBlk w' g1 g2 g3 m :=
  ⟨h.1.below hb, h.2.1.below hb, h.2.2.1.below hb, h.2.2.2⟩
theorem MBlk.lies {w : World} {g1 g2 g3 : Nat} {m : Mch} (h : MBlk w g1 g2 g3 m) : MLies w (some ⟨g1, 0, none⟩) (some ⟨g2, 0, none⟩) (some ⟨g3, 0, none⟩) m :=
  ⟨h.1.ilies, h.2.1.ilies, h.2.2.1.blies⟩
def newM : Mch := ⟨0, List.replicate 6 0, List.replicate 16 0, List.replicate 16 false⟩
/-- what NewMachine answers -/
def GaveNew (w : World) (e : Ending) (w' : World) : Prop :=
  ∃ g1 g2 g3, e = .returned (.agg #[.int .i64 0, .slice (some ⟨g1, 0, none⟩) 6 6, .slice (some ⟨g2, 0, none⟩) 16 16, .slice (some ⟨g3, 0, none⟩) 16 16]) ∧ MBlk w' g1 g2 g3 newM ∧ (w.heap.size ≤ g1 ∧ w.heap.size ≤ g2 ∧ w.heap.size ≤ g3) ∧ Below w.heap.size w w'

theorem mk6 (w : World) : (Instr.makeSlice 24 (.int .i64 6) (.int .i64 6)).run Tryd.prog w = .ok (.slice (some ⟨w.heap.size, 0, none⟩) 6 6) (w.alloc (.cells (madeCells #[.int .i64 0] 6) 3)) :=
  run_make_row' 24 3 (.int .i64 0) 8 Tryd.underlying24 info_int rfl .i64 .i64 6 (by decide) (by decide) w
theorem mk16 (w : World) : (Instr.makeSlice 24 (.int .i64 16) (.int .i64 16)).run Tryd.prog w = .ok (.slice (some ⟨w.heap.size, 0, none⟩) 16 16) (w.alloc (.cells (madeCells #[.int .i64 0] 16) 3)) :=
  run_make_row' 24 3 (.int .i64 0) 8 Tryd.underlying24 info_int rfl .i64 .i64 16 (by decide) (by decide) w
theorem mkb16 (w : World) : (Instr.makeSlice 71 (.int .i64 16) (.int .i64 16)).run Tryd.prog w = .ok (.slice (some ⟨w.heap.size, 0, none⟩) 16 16) (w.alloc (.cells (madeCells #[.bool false] 16) 4)) :=
  run_make_row' 71 4 (.bool false) 1 Tryd.underlying71 info_bool rfl .i64 .i64 16 (by decide) (by decide) w
end Go.Proofs.YtilnegmjnbffhaaDoor
