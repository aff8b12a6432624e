/-
  The drawing of a spoilt string, and of the string that a reader is given.
-/
import Derived.Test.YtffeiegbnlbaiaaDoorDrawProg
import Derived.Test.YtffeiegbnlbaiaaDoorRdMath
import Derived.RegionTactic
import Derived.Laws.Slices
namespace Go.Proofs.YtffeiegbnlbaiaaDoor
open Go.ChangeShapes Go.WideShapes Go.ChangeAt Go.RowKit

theorem slice_head (r : ByteArray) (i : Nat) (h : i ≤ r.size) (w : World) : (Instr.slice 9 (.string r) none (some (.int .i64 (i : Int))) none).run Tryd.prog w = .ok (.string (r.extract 0 i)) w := by
  have := run_slice_string_h (P := Tryd.prog) (w := w) (t := 9) (s := r) Tryd.underlying9 .i64 (i : Int) (by omega) (by omega)
  rw [Int.toNat_natCast] at this
  exact this
theorem slice_tail (r : ByteArray) (i : Nat) (h : i ≤ r.size) (w : World) : (Instr.slice 9 (.string r) (some (.int .i64 (i : Int))) none none).run Tryd.prog w = .ok (.string (r.extract i r.size)) w := by
  have := run_slice_string_l (P := Tryd.prog) (w := w) (t := 9) (s := r) Tryd.underlying9 .i64 (i : Int) (by omega) (by omega)
  rw [Int.toNat_natCast] at this
  exact this
theorem grown_drew {a b : World} {row : Option Nat} (h : a.grownBy b row) : a.grownBy b.drew row := ⟨h.os, h.tape, h.output, h.size, h.block⟩
/-- it answers a string of a size up to S -/
def GaveStr (c K S : Nat) (w : World) (e : Ending) (w' : World) : Prop :=
  ∃ r : ByteArray, e = .returned (.string r) ∧ r.size ≤ S ∧ Cur w' c K ∧ w.grownBy w' (some c)

/-- a drawn program, from the bytes that came in -/
def DrewProg (w : World) (e : Ending) (w' : World) : Prop :=
  ∃ (xs : List Stp) (A : Option Addr) (cap : Nat), e = .returned (.slice A xs.length cap) ∧ (1 ≤ xs.length ∧ xs.length ≤ 20) ∧ w'.ownsRow w.heap.size 31 6 (.slice A xs.length cap) xs.length (cellsOf xs) ∧ Below w.heap.size w w'

set_option maxRecDepth 100000 in
set_option maxHeartbeats 1000000 in
theorem drawGood_any (a0 : Option Addr) (len cap : Nat) (w : World) (h : Hid (Bytes w a0 len)) :
    Calls Tryd.prog 28 #[.slice a0 len cap] w (DrewProg w) := by
  go_enter Tryd.func28, Tryd.ntmps28
  go_wp2_with fail
  refine (program_any w.heap.size 0 _ (Cur.new h.out) (by omega)).mono ?_
  rintro e w1 ⟨xs, A, cp, rfl, hl, hp⟩
  have P1 := Lib.hid hp
  clear hp
  go_wp2
  go_ret
  exact ⟨xs, A, cp, rfl, hl, own_base P1.out.2.1 (by simp), below_new P1.out.2.2.1⟩
def DrewStr (S : Nat) (w : World) (e : Ending) (w' : World) : Prop := ∃ r : ByteArray, e = .returned (.string r) ∧ r.size ≤ S ∧ Below w.heap.size w w'
theorem pbS_size (b : Bool) (xs : List Stp) (h : xs.length ≤ 20) : (pbS b xs).size ≤ 160 := by
  cases b
  · exact Nat.zero_le _
  · have := progS_size xs
    show (progS xs).size ≤ 160
    omega
end Go.Proofs.YtffeiegbnlbaiaaDoor
