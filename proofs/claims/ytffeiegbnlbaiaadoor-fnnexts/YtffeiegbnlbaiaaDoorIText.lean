/-
  Contract of the program's text of a step.
-/
import Derived.Test.YtffeiegbnlbaiaaDoorItoa
import Derived.Test.YtffeiegbnlbaiaaDoorFields
import Derived.Laws.Concat
namespace Go.Proofs.YtffeiegbnlbaiaaDoor
open Go.ChangeShapes Go.WideShapes Go.ChangeAt Go.RowKit

/-- a text with numbers behind it -/
def accT (W : ByteArray) (l : List Int) : ByteArray := l.foldl (fun a x => a ++ (⟨#[32]⟩ ++ digs x)) W
theorem accT_succ (W : ByteArray) (l : List Int) (j : Nat) (y : Int) (h : l[j]? = some y) : accT W (l.take (j + 1)) = accT W (l.take j) ++ (⟨#[32]⟩ ++ digs y) := by
  rw [List.take_add_one, h, accT, accT, List.foldl_append]
  rfl
theorem accT_size : ∀ (l : List Int) (W : ByteArray), (∀ y ∈ l, 0 ≤ y ∧ y ≤ 65535) → (accT W l).size ≤ W.size + l.length * 65537 := by
  intro l
  induction l with
  | nil => intro W _; simp [accT]
  | cons a l ih =>
    intro W h
    have h1 := ih (W ++ (⟨#[32]⟩ ++ digs a)) (fun y hy => h y (List.mem_cons_of_mem _ hy))
    have h2 := dig_size a (h a List.mem_cons_self).2
    have h3 : (⟨#[32]⟩ ++ digs a : ByteArray).size = 1 + (digs a).size := by rw [ByteArray.size_append]; rfl
    show (accT (W ++ (⟨#[32]⟩ ++ digs a)) l).size ≤ _
    rw [ByteArray.size_append] at h1
    simp only [List.length_cons]
    omega
theorem ret_it {a b : ByteArray} {c : Bool} (h : a = b) : Ending.returned (.tuple #[.string a, .bool c]) = .returned (.tuple #[.string b, .bool c]) := by rw [h]
/-- a slice of ints that reads as l -/
def FLies (w : World) (A : Option Addr) (l : List Int) : Prop :=
  ∀ j y, l[j]? = some y → ∃ g, A = some ⟨g, 0, none⟩ ∧ g < w.heap.size ∧ w.cell? ⟨g, j, none⟩ = some (.int .i64 y)
theorem FLies.below {w w' : World} {A : Option Addr} {l : List Int} (h : FLies w A l) (hb : Below w.heap.size w w') : FLies w' A l := by
  intro j y hy
  obtain ⟨g, hA, hlt, hc⟩ := h j y hy
  exact ⟨g, hA, Nat.lt_of_lt_of_le hlt hb.size, ((bcell hb).1 g _ hlt).trans hc⟩

set_option maxRecDepth 20000 in
set_option maxHeartbeats 4000000 in
theorem implText_y (k o d s i t : Int) (Fv : Value) (l : List Int) (n : Nat) (W : ByteArray) (w : World) (hn : Hid (l.length = n)) (hn3 : n ≤ 3) (hW : Hid (W.size ≤ 100)) (hl : Hid (∀ y ∈ l, 0 ≤ y ∧ y ≤ 65535))
    (ht : Hid (Lib.TabIs Tryd.prog w "internal/strconv.uint64pow10" .u64 Lib.pow10Tab)) (hk0 : 0 ≤ k) (hk1 : k ≤ 11) (hz : Hid (0 < w.heap.size)) (hkn : Hid (w.cell? ⟨0, k.toNat, none⟩ = some (.string W)))
    (hform : ∀ w : World, Calls Tryd.prog 19 #[.agg #[.int .i64 k, .int .i64 o, .int .i64 d, .int .i64 s, .int .i64 i, .int .i64 t]] w fun e w' => e = .returned (.tuple #[Fv, .bool true]) ∧ Below w.heap.size w w')
    (hfields : ∀ w : World, Calls Tryd.prog 25 #[Fv] w fun e w' => ∃ A, e = .returned (.slice A n n) ∧ FLies w' A l ∧ Below w.heap.size w w') :
    Calls Tryd.prog 11 #[.agg #[.int .i64 k, .int .i64 o, .int .i64 d, .int .i64 s, .int .i64 i, .int .i64 t]] w fun e w' => e = .returned (.tuple #[.string (accT W l), .bool true]) ∧ Below w.heap.size w w' := by
  go_enter Tryd.func11, Tryd.ntmps11
  go_wp2_with fail
  refine (hform _).mono ?_
  rintro e w1 ⟨rfl, hb1⟩
  have H1 := Lib.hid (box_keep (box_new w 31 k o d s i t) hb1)
  clear hb1
  obtain ⟨-, z1, c0, c1, c2, c3, c4, c5⟩ := H1.out
  have hcn : w1.cell? ⟨0, k.toNat, none⟩ = some (.string W) := ((bcell H1.out.1).1 0 _ hz.out).trans hkn.out
  go_wp2_with fail
  refine (hfields _).mono ?_
  rintro e w2 ⟨A, rfl, hA, hb2⟩
  have H2 := Lib.hid (H1.out.1.trans (hb2.mono H1.out.1.size))
  have HA := Lib.hid hA
  clear hb2 hA c0 c1 c2 c3 c4 c5 z1 hcn H1
  go_wp2_with fail
  go_loopw [6, 23] (fun tx ix wr => ∃ j : Nat, j ≤ n ∧ ix = .int .i64 j ∧ tx = .string (accT W (l.take j)) ∧ Below w.heap.size w wr ∧ FLies wr A l) (fun _ ix _ => n - (intOf ix).toNat)
  case atStart => exact ⟨0, Nat.zero_le _, rfl, rfl, H2.out, HA.out⟩
  case round =>
    obtain ⟨j, hj, rfl, rfl, hb, hA⟩ := hrel
    have B1 := Lib.hid hb
    have A1 := Lib.hid hA
    clear hb hA
    by_cases hlt : j < n
    · obtain ⟨y, hy⟩ : ∃ y, l[j]? = some y := ⟨_, List.getElem?_eq_getElem (by have := hn.out; omega)⟩
      obtain ⟨g, rfl, hgl, hc⟩ := A1.out j y hy
      have hy2 := hl.out y (List.mem_of_getElem? hy)
      have hs1 : (accT W (l.take j)).size ≤ 200000 + 65537 := by
        have h1 := accT_size (l.take j) W (fun y hy => hl.out y (List.mem_of_mem_take hy))
        have h2 := hW.out
        have h3 : (l.take j).length ≤ j := List.length_take_le _ _
        omega
      have hs2 := dig_size y hy2.2
      have HY := Lib.hid (accT_succ W l j y hy)
      have hit := Lib.hid (fun w => itoa_any y hy2.1 hy2.2 w)
      obtain ⟨T, hT⟩ : ∃ T, T = accT W (l.take j) := ⟨_, rfl⟩
      obtain ⟨D, hD⟩ : ∃ D, D = digs y := ⟨_, rfl⟩
      rw [← hT] at hs1 HY ⊢
      rw [← hD] at hs2 HY
      rw [← hD] at hit
      clear hT hD hy hy2
      go_wp2_with fail
      refine (hit.out _ (tab_below ht.out B1.out)).mono ?_
      rintro e w3 ⟨rfl, hb3⟩
      have B3 := Lib.hid (B1.out.trans (hb3.mono B1.out.size))
      have A3 := Lib.hid (A1.out.below hb3)
      clear hb3
      go_wp2
      go_roundw
      case rel => exact ⟨j + 1, by omega, by go_num, by rw [HY.out], B3.out, A3.out⟩
      case measure => simp [intOf]; omega
    · obtain rfl : j = n := by omega
      go_wp2
      go_ret2
      exact ⟨ret_it (by rw [List.take_of_length_le (by have := hn.out; omega)]), B1.out⟩
end Go.Proofs.YtffeiegbnlbaiaaDoor
