/-
  Bytes of a string; the contract of the step that stands in one or two units.
-/
import Derived.Test.YtilnegmjnbffhaaDoorEnc2
import Derived.Test.YtilnegmjnbffhaaDoorSlots
import Derived.Laws.Strings
import Derived.StillTailTactics
import Derived.Deep.RegionHeld3
namespace Go.Proofs.YtilnegmjnbffhaaDoor
open Go.ChangeShapes Go.WideShapes Go.ChangeAt Go.RowKit

def byteAt (u : ByteArray) (j : Nat) : Int := ((u.data.toList.getD j 0).toNat : Int)
theorem byteAt_bd (u : ByteArray) (j : Nat) : 0 ≤ byteAt u j ∧ byteAt u j ≤ 255 := by
  unfold byteAt
  have := (u.data.toList.getD j 0).toNat_lt
  omega
theorem index_run (u : ByteArray) (j : Nat) (h : j < u.size) (w : World) : (Instr.index 9 (.string u) (.int .i64 (j : Int))).run Tryd.prog w = .ok (.int .u8 (byteAt u j)) w := by
  rw [run_index_string w 9 u .i64 j Tryd.underlying9, dif_pos ⟨by omega, by omega⟩]
  congr 2
  unfold byteAt
  have h' : j < u.data.toList.length := by rw [Array.length_toList]; exact h
  rw [List.getD_eq_getElem?_getD, List.getElem?_eq_getElem h', Option.getD_some, Array.getElem_toList]
  rfl
/-- the step that four or eight bytes hold -/
def yOf (u : ByteArray) : Stp := ⟨byteAt u 0 % 16, byteAt u 0 / 16, byteAt u 1 / 16, byteAt u 1 % 16, if u.size = 8 then byteAt u 3 + 256 * byteAt u 7 else byteAt u 3, byteAt u 2⟩
def Stp.val (x : Stp) : Value := .agg #[.int .i64 x.k, .int .i64 x.o, .int .i64 x.d, .int .i64 x.s, .int .i64 x.i, .int .i64 x.t]

end Go.Proofs.YtilnegmjnbffhaaDoor
