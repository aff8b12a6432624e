/-
  DERIVED. GIVEN WITH THE SEED: THE PROGRAM's TIES (one call each: nine closed facts by the kernel) AND EACH ROW's TIE, after the 31st guide's Derived/Test/Toyas{Tie, Card}.lean. No idea stands in it: it is a product of the set-up. Laid BY PROGRAM, IN A SANDBOX (cutbox-door.mjs). By AI agents, Wed Nov 11 2026. No macro, syntax, notation, axiom, sorry.
-/
import Derived.Test.YtcacceapdjkgeaaDoorRows
import Derived.LaidByTextLater
import Derived.SevenTiedAt
import Derived.LaidSub
import Derived.LaidOnce
namespace Go.Proofs.YtcacceapdjkgeaaDoor
open Go
set_option maxRecDepth 100000
theorem seatTie1 : Tryd.prog.laidByTextLater [("loop.example/g00605/impl.shiftFactors", Rows.laid_loop_example_g00605_impl_shiftFactors), ("loop.example/g00605/impl.nibbleOnes", Rows.laid_loop_example_g00605_impl_nibbleOnes)] [.data, .data] true :=
  Program.laidByTextLater_by_one 19 8 17 (by kernel_rfl) (by kernel_rfl) (by kernel_rfl) (by kernel_rfl) (by kernel_rfl) (by kernel_rfl) (fun _ _ => by kernel_rfl)
theorem noOwnUnsafe : Tryd.pinned.checked.prog.headLifts.contains "ownunsafe" = false := by kernel_rfl
theorem tie : Tryd.prog.laidByTextLater [("loop.example/g00605/impl.shiftFactors", Rows.laid_loop_example_g00605_impl_shiftFactors), ("loop.example/g00605/impl.nibbleOnes", Rows.laid_loop_example_g00605_impl_nibbleOnes)] [.data, .data] true :=
  Program.laidByTextLater.sub seatTie1 ["loop.example/g00605/impl.shiftFactors", "loop.example/g00605/impl.nibbleOnes"] (by kernel_rfl) (by kernel_rfl)
theorem fnWords_row_tie : Rows.fnWordsRow.laidByTextAt .later Tryd.pinned [.data, .data] true :=
  OpenClaim.laidByTextAt_later rfl rfl tie noOwnUnsafe
theorem tie2 : Tryd.prog.laidByTextLater [("loop.example/g00605/impl.shiftFactors", Rows.laid_loop_example_g00605_impl_shiftFactors)] [.data] true :=
  Program.laidByTextLater.sub seatTie1 ["loop.example/g00605/impl.shiftFactors"] (by kernel_rfl) (by kernel_rfl)
theorem fnExactDoOp_row_tie : Rows.fnExactDoOpRow.laidByTextAt .later Tryd.pinned [.data] true :=
  OpenClaim.laidByTextAt_later rfl rfl tie2 noOwnUnsafe
theorem tie3 : Tryd.prog.laidByTextLater [("loop.example/g00605/impl.nibbleOnes", Rows.laid_loop_example_g00605_impl_nibbleOnes)] [.data] true :=
  Program.laidByTextLater.sub seatTie1 ["loop.example/g00605/impl.nibbleOnes"] (by kernel_rfl) (by kernel_rfl)
theorem fnExactCountBits_row_tie : Rows.fnExactCountBitsRow.laidByTextAt .later Tryd.pinned [.data] true :=
  OpenClaim.laidByTextAt_later rfl rfl tie3 noOwnUnsafe
theorem fnWordsUpto_row_tie : Rows.fnWordsUptoRow.laidByTextAt .later Tryd.pinned [.data, .data] true :=
  OpenClaim.laidByTextAt_later rfl rfl tie noOwnUnsafe
theorem fnExactDoOpUpto_row_tie : Rows.fnExactDoOpUptoRow.laidByTextAt .later Tryd.pinned [.data] true :=
  OpenClaim.laidByTextAt_later rfl rfl tie2 noOwnUnsafe
theorem fnExactCountBitsUpto_row_tie : Rows.fnExactCountBitsUptoRow.laidByTextAt .later Tryd.pinned [.data] true :=
  OpenClaim.laidByTextAt_later rfl rfl tie3 noOwnUnsafe
end Go.Proofs.YtcacceapdjkgeaaDoor
