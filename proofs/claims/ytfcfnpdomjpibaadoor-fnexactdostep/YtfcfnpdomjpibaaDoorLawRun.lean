/-
  The walks of the laws of RunProgram, FaultFree and TraceOf.
-/
import Derived.Test.YtfcfnpdomjpibaaDoorRunB
import Derived.Test.YtfcfnpdomjpibaaDoorMarks2
namespace Go.Proofs.YtfcfnpdomjpibaaDoor
open Go.ChangeShapes Go.WideShapes Go.ChangeAt Go.RowKit

end Go.Proofs.YtfcfnpdomjpibaaDoor
