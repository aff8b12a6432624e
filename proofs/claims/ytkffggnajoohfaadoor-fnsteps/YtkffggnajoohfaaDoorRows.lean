/-
  NARROWER THAN 'FOR EVERY INPUT', by the rows' own cells (each row's printed sentence says how): FnSteps: laid · FnStretches: laid · FnExactDoStretch: laid.
  DERIVED. THE GIVEN ROWS OF THIS SEAT. 3 by the template 'for every input the law returns true; each argument reads behind the call as it read before'; 0 by the template 'total and deterministic' (their statements: YtkffggnajoohfaaDoorTotals.lean).
  GIVEN WITH THE SEED: the statements are not yours to turn. If you find one false, say at which input.
  Laid BY PROGRAM, IN A SANDBOX (cutbox-rows.mjs): the forced cells as the released guide's own fill.sh prints them over the translation 70b908ff6810e7b8… (all of the seat's roots in one cut). By AI agents, Wed Nov 11 2026. No macro, syntax, notation, axiom, sorry.
-/
import Derived.Test.YtkffggnajoohfaaDoorChecked
import GoSem.Claim
import GoSem.ClaimJoined
import GoSem.ClaimMapViews
import Derived.JoinedTies
import Derived.KernelRfl
namespace Go.Proofs.YtkffggnajoohfaaDoor
/- THE CELL 'sum', in the pinned program and in every row, IS THE sha256 OF THE DUMP (.gsa) THAT YtkffggnajoohfaaDoorProg.lean LOADS. Nothing in Lean hashes anything: it is a label: what it is worth is what the hold of that sum in a sandbox is worth. -/
noncomputable def Tryd.pinned : Pinned := { name := "ytkffggnajoohfaadoor", sum := "70b908ff6810e7b82bd906b8e59975a47d324f36000ca79a66056545fa1492a5", checked := Tryd.checked }
namespace Rows
def none {H : Type} : Left H := { results := [], args := [] }

/- WHAT THE LISTED PACKAGE-LEVEL VARIABLES READ AS WHEN THE CALL BEGINS. Each datum BY PROGRAM (the guide's laid-datum.mjs) off the statement by which the dump's own 'gosem.cut.vars' lays the variable. In a bare row this is a premise. The card (YtkffggnajoohfaaDoorCards.lean) ties it to the program's text. -/
def laid_loop_example_g00605_impl_shiftFactors {H : Type} : DataW H := .agg [.lit (.int .i64 1), .lit (.int .i64 2), .lit (.int .i64 4), .lit (.int .i64 8), .lit (.int .i64 16), .lit (.int .i64 32), .lit (.int .i64 64), .lit (.int .i64 128), .lit (.int .i64 256), .lit (.int .i64 512), .lit (.int .i64 1024), .lit (.int .i64 2048), .lit (.int .i64 4096), .lit (.int .i64 8192), .lit (.int .i64 16384), .lit (.int .i64 32768)]

/-- 'laws.FnSteps': WHATEVER THE INPUT: true; the input reads as it did. -/
def fnStepsSpec : ChangeSpec := { name := "fnSteps", vars := ["loop.example/g00605/impl.shiftFactors"], fn := fun _ => fun
  | [d1, d2, g1] => { results := [.lit (.bool true)], args := [d1, d2], vars := [g1] }
  | _ => none }
def fnStepsRow : OpenClaim := { program := "ytkffggnajoohfaadoor", sum := "70b908ff6810e7b82bd906b8e59975a47d324f36000ca79a66056545fa1492a5", func := "loop.example/g00605/laws.FnSteps", spec := "fnSteps", unfollowed := true, recurses := true, named := ["loop.example/g00605/impl.shiftFactors"], apart := false, laid := [("loop.example/g00605/impl.shiftFactors", laid_loop_example_g00605_impl_shiftFactors)] }
def FnStepsSaid : Prop := fnStepsRow.holds Tryd.pinned (OpenSpec.ofChange fnStepsSpec)

/-- ITS FALSE NEIGHBOUR: 'it returns false'. Refute it at one input. -/
def fnStepsWrong : ChangeSpec := { name := "fnSteps", vars := ["loop.example/g00605/impl.shiftFactors"], fn := fun _ => fun
  | [d1, d2, g1] => { results := [.lit (.bool false)], args := [d1, d2], vars := [g1] }
  | _ => none }
def FnStepsWrongFalsely : Prop := fnStepsRow.holds Tryd.pinned (OpenSpec.ofChange fnStepsWrong)

/-- 'laws.FnStretches': WHATEVER THE INPUT: true; the input reads as it did. -/
def fnStretchesSpec : ChangeSpec := { name := "fnStretches", vars := ["loop.example/g00605/impl.shiftFactors"], fn := fun _ => fun
  | [d1, d2, g1] => { results := [.lit (.bool true)], args := [d1, d2], vars := [g1] }
  | _ => none }
def fnStretchesRow : OpenClaim := { program := "ytkffggnajoohfaadoor", sum := "70b908ff6810e7b82bd906b8e59975a47d324f36000ca79a66056545fa1492a5", func := "loop.example/g00605/laws.FnStretches", spec := "fnStretches", named := ["loop.example/g00605/impl.shiftFactors"], apart := false, laid := [("loop.example/g00605/impl.shiftFactors", laid_loop_example_g00605_impl_shiftFactors)] }
def FnStretchesSaid : Prop := fnStretchesRow.holds Tryd.pinned (OpenSpec.ofChange fnStretchesSpec)

/-- ITS FALSE NEIGHBOUR: 'it returns false'. Refute it at one input. -/
def fnStretchesWrong : ChangeSpec := { name := "fnStretches", vars := ["loop.example/g00605/impl.shiftFactors"], fn := fun _ => fun
  | [d1, d2, g1] => { results := [.lit (.bool false)], args := [d1, d2], vars := [g1] }
  | _ => none }
def FnStretchesWrongFalsely : Prop := fnStretchesRow.holds Tryd.pinned (OpenSpec.ofChange fnStretchesWrong)

/-- 'laws.FnExactDoStretch': WHATEVER THE INPUT: true; the input reads as it did. -/
def fnExactDoStretchSpec : ChangeSpec := { name := "fnExactDoStretch", vars := ["loop.example/g00605/impl.shiftFactors"], fn := fun _ => fun
  | [d1, d2, d3, g1] => { results := [.lit (.bool true)], args := [d1, d2, d3], vars := [g1] }
  | _ => none }
def fnExactDoStretchRow : OpenClaim := { program := "ytkffggnajoohfaadoor", sum := "70b908ff6810e7b82bd906b8e59975a47d324f36000ca79a66056545fa1492a5", func := "loop.example/g00605/laws.FnExactDoStretch", spec := "fnExactDoStretch", named := ["loop.example/g00605/impl.shiftFactors"], apart := false, laid := [("loop.example/g00605/impl.shiftFactors", laid_loop_example_g00605_impl_shiftFactors)] }
def FnExactDoStretchSaid : Prop := fnExactDoStretchRow.holds Tryd.pinned (OpenSpec.ofChange fnExactDoStretchSpec)

/-- ITS FALSE NEIGHBOUR: 'it returns false'. Refute it at one input. -/
def fnExactDoStretchWrong : ChangeSpec := { name := "fnExactDoStretch", vars := ["loop.example/g00605/impl.shiftFactors"], fn := fun _ => fun
  | [d1, d2, d3, g1] => { results := [.lit (.bool false)], args := [d1, d2, d3], vars := [g1] }
  | _ => none }
def FnExactDoStretchWrongFalsely : Prop := fnExactDoStretchRow.holds Tryd.pinned (OpenSpec.ofChange fnExactDoStretchWrong)

/- THE SECOND FORM. 'bulk': how many values and letters a reading holds, each counted each time it is reached (what is shared counts as often as it is met; a slice's spare places count too). A statement '..UptoSaid' is the law's where the arguments, and the package variables that the reading takes, are together of bulk at most 1048576: NARROWER than '..Said'. Prove '..Said' where nothing that the law and all that it calls make is longer than what came in: it says more and counts as full. Else prove '..UptoSaid'. A law counts once. -/
mutual
def uptoBulk {H : Type} : DataW H → Nat
  | .lit (.string bytes) => bytes.length + 1
  | .lit _ => 1
  | .nil => 1
  | .ptr d => uptoBulk d + 1
  | .slice elems spare => uptoBulkAll elems + uptoBulkAll spare + 1
  | .agg parts => uptoBulkAll parts + 1
  | .iface _ d => uptoBulk d + 1
  | .map entries => uptoBulkEntries entries + 1
  | .held _ => 1
def uptoBulkAll {H : Type} : List (DataW H) → Nat
  | [] => 0
  | d :: r => uptoBulk d + uptoBulkAll r
def uptoBulkEntries {H : Type} : List (Lit × DataW H) → Nat
  | [] => 0
  | x :: r => uptoBulkEntry x + uptoBulkEntries r
def uptoBulkEntry {H : Type} : Lit × DataW H → Nat
  | (.string bytes, d) => bytes.length + uptoBulk d + 1
  | (_, d) => uptoBulk d + 1
 end
def uptoSmall : (H : Type) → List (DataW H) → Bool := fun _ ds => decide (uptoBulkAll ds ≤ 1048576)
def OpenSpec.upto (s : _root_.Go.ChangeSpec) : _root_.Go.OpenSpec := { _root_.Go.OpenSpec.ofChange s with cond := some uptoSmall }

/-- 'laws.FnSteps', WHERE WHAT IT READS IS OF BULK AT MOST 1048576: true; the input reads as it did. -/
def fnStepsUptoRow : OpenClaim := { program := "ytkffggnajoohfaadoor", sum := "70b908ff6810e7b82bd906b8e59975a47d324f36000ca79a66056545fa1492a5", func := "loop.example/g00605/laws.FnSteps", spec := "fnSteps", unfollowed := true, recurses := true, named := ["loop.example/g00605/impl.shiftFactors"], apart := false, laid := [("loop.example/g00605/impl.shiftFactors", laid_loop_example_g00605_impl_shiftFactors)], narrowed := true }
def FnStepsUptoSaid : Prop := fnStepsUptoRow.holds Tryd.pinned (OpenSpec.upto fnStepsSpec)

/-- 'laws.FnStretches', WHERE WHAT IT READS IS OF BULK AT MOST 1048576: true; the input reads as it did. -/
def fnStretchesUptoRow : OpenClaim := { program := "ytkffggnajoohfaadoor", sum := "70b908ff6810e7b82bd906b8e59975a47d324f36000ca79a66056545fa1492a5", func := "loop.example/g00605/laws.FnStretches", spec := "fnStretches", named := ["loop.example/g00605/impl.shiftFactors"], apart := false, laid := [("loop.example/g00605/impl.shiftFactors", laid_loop_example_g00605_impl_shiftFactors)], narrowed := true }
def FnStretchesUptoSaid : Prop := fnStretchesUptoRow.holds Tryd.pinned (OpenSpec.upto fnStretchesSpec)

/-- 'laws.FnExactDoStretch', WHERE WHAT IT READS IS OF BULK AT MOST 1048576: true; the input reads as it did. -/
def fnExactDoStretchUptoRow : OpenClaim := { program := "ytkffggnajoohfaadoor", sum := "70b908ff6810e7b82bd906b8e59975a47d324f36000ca79a66056545fa1492a5", func := "loop.example/g00605/laws.FnExactDoStretch", spec := "fnExactDoStretch", named := ["loop.example/g00605/impl.shiftFactors"], apart := false, laid := [("loop.example/g00605/impl.shiftFactors", laid_loop_example_g00605_impl_shiftFactors)], narrowed := true }
def FnExactDoStretchUptoSaid : Prop := fnExactDoStretchUptoRow.holds Tryd.pinned (OpenSpec.upto fnExactDoStretchSpec)

end Rows
end Go.Proofs.YtkffggnajoohfaaDoor
