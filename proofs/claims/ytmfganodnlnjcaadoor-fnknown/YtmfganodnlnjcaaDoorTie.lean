/-
  DERIVED. GIVEN WITH THE SEED: THE PROGRAM's TIES (one call each: nine closed facts by the kernel) AND EACH ROW's TIE, after the 31st guide's Derived/Test/Toyas{Tie, Card}.lean. No idea stands in it: it is a product of the set-up. Laid BY PROGRAM, IN A SANDBOX (cutbox-door.mjs). By AI agents, Wed Nov 11 2026. No macro, syntax, notation, axiom, sorry.
-/
import Derived.Test.YtmfganodnlnjcaaDoorRows
import Derived.LaidByTextLater
import Derived.SevenTiedAt
import Derived.LaidSub
import Derived.LaidOnce
namespace Go.Proofs.YtmfganodnlnjcaaDoor
open Go
set_option maxRecDepth 100000
theorem seatTie1 : Tryd.prog.laidByTextLater [("loop.example/g00605/impl.shiftFactors", Rows.laid_loop_example_g00605_impl_shiftFactors), ("loop.example/g00605/impl.nibbleOnes", Rows.laid_loop_example_g00605_impl_nibbleOnes)] [.data, .data] true :=
  Program.laidByTextLater_by_one 19 8 17 (by kernel_rfl) (by kernel_rfl) (by kernel_rfl) (by kernel_rfl) (by kernel_rfl) (by kernel_rfl) (fun _ _ => by kernel_rfl)
theorem noOwnUnsafe : Tryd.pinned.checked.prog.headLifts.contains "ownunsafe" = false := by kernel_rfl
theorem tie : Tryd.prog.laidByTextLater [("loop.example/g00605/impl.shiftFactors", Rows.laid_loop_example_g00605_impl_shiftFactors), ("loop.example/g00605/impl.nibbleOnes", Rows.laid_loop_example_g00605_impl_nibbleOnes)] [.data, .data] true :=
  Program.laidByTextLater.sub seatTie1 ["loop.example/g00605/impl.shiftFactors", "loop.example/g00605/impl.nibbleOnes"] (by kernel_rfl) (by kernel_rfl)
theorem fnKnown_row_tie : Rows.fnKnownRow.laidByTextAt .later Tryd.pinned [.data, .data] true :=
  OpenClaim.laidByTextAt_later rfl rfl tie noOwnUnsafe
theorem tie2 : Tryd.prog.laidByTextLater [("loop.example/g00605/impl.nibbleOnes", Rows.laid_loop_example_g00605_impl_nibbleOnes)] [.data] true :=
  Program.laidByTextLater.sub seatTie1 ["loop.example/g00605/impl.nibbleOnes"] (by kernel_rfl) (by kernel_rfl)
theorem fnBits_row_tie : Rows.fnBitsRow.laidByTextAt .later Tryd.pinned [.data] true :=
  OpenClaim.laidByTextAt_later rfl rfl tie2 noOwnUnsafe
theorem fnExactNumberAt_row_tie : Rows.fnExactNumberAtRow.laidByTextAt .later Tryd.pinned [.data] true :=
  OpenClaim.laidByTextAt_later rfl rfl tie2 noOwnUnsafe
theorem fnExactWaysOf_row_tie : Rows.fnExactWaysOfRow.laidByTextAt .later Tryd.pinned [.data] true :=
  OpenClaim.laidByTextAt_later rfl rfl tie2 noOwnUnsafe
theorem tie3 : Tryd.prog.laidByTextLater [("loop.example/g00605/impl.shiftFactors", Rows.laid_loop_example_g00605_impl_shiftFactors)] [.data] true :=
  Program.laidByTextLater.sub seatTie1 ["loop.example/g00605/impl.shiftFactors"] (by kernel_rfl) (by kernel_rfl)
theorem fnExactDoKnown_row_tie : Rows.fnExactDoKnownRow.laidByTextAt .later Tryd.pinned [.data] true :=
  OpenClaim.laidByTextAt_later rfl rfl tie3 noOwnUnsafe
theorem fnKnownUpto_row_tie : Rows.fnKnownUptoRow.laidByTextAt .later Tryd.pinned [.data, .data] true :=
  OpenClaim.laidByTextAt_later rfl rfl tie noOwnUnsafe
theorem fnBitsUpto_row_tie : Rows.fnBitsUptoRow.laidByTextAt .later Tryd.pinned [.data] true :=
  OpenClaim.laidByTextAt_later rfl rfl tie2 noOwnUnsafe
theorem fnExactDoKnownUpto_row_tie : Rows.fnExactDoKnownUptoRow.laidByTextAt .later Tryd.pinned [.data] true :=
  OpenClaim.laidByTextAt_later rfl rfl tie3 noOwnUnsafe
theorem fnExactNumberAtUpto_row_tie : Rows.fnExactNumberAtUptoRow.laidByTextAt .later Tryd.pinned [.data] true :=
  OpenClaim.laidByTextAt_later rfl rfl tie2 noOwnUnsafe
theorem fnExactWaysOfUpto_row_tie : Rows.fnExactWaysOfUptoRow.laidByTextAt .later Tryd.pinned [.data] true :=
  OpenClaim.laidByTextAt_later rfl rfl tie2 noOwnUnsafe
end Go.Proofs.YtmfganodnlnjcaaDoor
