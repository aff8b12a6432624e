/-
  NARROWER THAN 'FOR EVERY INPUT', by the rows' own cells (each row's printed sentence says how): FnKnown: laid · FnBits: laid · FnExactDoKnown: laid · FnExactNumberAt: laid · FnExactWaysOf: laid.
  DERIVED. THE GIVEN ROWS OF THIS SEAT. 5 by the template 'for every input the law returns true; each argument reads behind the call as it read before'; 0 by the template 'total and deterministic' (their statements: YtmfganodnlnjcaaDoorTotals.lean).
  GIVEN WITH THE SEED: the statements are not yours to turn. If you find one false, say at which input.
  Laid BY PROGRAM, IN A SANDBOX (cutbox-rows.mjs): the forced cells as the released guide's own fill.sh prints them over the translation 25ad607d29baa5c9… (all of the seat's roots in one cut). By AI agents, Wed Nov 11 2026. No macro, syntax, notation, axiom, sorry.
-/
import Derived.Test.YtmfganodnlnjcaaDoorChecked
import GoSem.Claim
import GoSem.ClaimJoined
import GoSem.ClaimMapViews
import Derived.JoinedTies
import Derived.KernelRfl
namespace Go.Proofs.YtmfganodnlnjcaaDoor
/- THE CELL 'sum', in the pinned program and in every row, IS THE sha256 OF THE DUMP (.gsa) THAT YtmfganodnlnjcaaDoorProg.lean LOADS. Nothing in Lean hashes anything: it is a label: what it is worth is what the hold of that sum in a sandbox is worth. -/
noncomputable def Tryd.pinned : Pinned := { name := "ytmfganodnlnjcaadoor", sum := "25ad607d29baa5c9a14b79dc31bbfc421ba526318b7afba0080b245dd9e3060d", checked := Tryd.checked }
namespace Rows
def none {H : Type} : Left H := { results := [], args := [] }

/- WHAT THE LISTED PACKAGE-LEVEL VARIABLES READ AS WHEN THE CALL BEGINS. Each datum BY PROGRAM (the guide's laid-datum.mjs) off the statement by which the dump's own 'gosem.cut.vars' lays the variable. In a bare row this is a premise. The card (YtmfganodnlnjcaaDoorCards.lean) ties it to the program's text. -/
def laid_loop_example_g00605_impl_shiftFactors {H : Type} : DataW H := .agg [.lit (.int .i64 1), .lit (.int .i64 2), .lit (.int .i64 4), .lit (.int .i64 8), .lit (.int .i64 16), .lit (.int .i64 32), .lit (.int .i64 64), .lit (.int .i64 128), .lit (.int .i64 256), .lit (.int .i64 512), .lit (.int .i64 1024), .lit (.int .i64 2048), .lit (.int .i64 4096), .lit (.int .i64 8192), .lit (.int .i64 16384), .lit (.int .i64 32768)]
def laid_loop_example_g00605_impl_nibbleOnes {H : Type} : DataW H := .agg [.lit (.int .i64 0), .lit (.int .i64 1), .lit (.int .i64 1), .lit (.int .i64 2), .lit (.int .i64 1), .lit (.int .i64 2), .lit (.int .i64 2), .lit (.int .i64 3), .lit (.int .i64 1), .lit (.int .i64 2), .lit (.int .i64 2), .lit (.int .i64 3), .lit (.int .i64 2), .lit (.int .i64 3), .lit (.int .i64 3), .lit (.int .i64 4)]

/-- 'laws.FnKnown': WHATEVER THE INPUT: true; the input reads as it did. -/
def fnKnownSpec : ChangeSpec := { name := "fnKnown", vars := ["loop.example/g00605/impl.shiftFactors", "loop.example/g00605/impl.nibbleOnes"], fn := fun _ => fun
  | [d1, d2, g1, g2] => { results := [.lit (.bool true)], args := [d1, d2], vars := [g1, g2] }
  | _ => none }
def fnKnownRow : OpenClaim := { program := "ytmfganodnlnjcaadoor", sum := "25ad607d29baa5c9a14b79dc31bbfc421ba526318b7afba0080b245dd9e3060d", func := "loop.example/g00605/laws.FnKnown", spec := "fnKnown", unfollowed := true, recurses := true, named := ["loop.example/g00605/impl.shiftFactors", "loop.example/g00605/impl.nibbleOnes"], apart := false, laid := [("loop.example/g00605/impl.shiftFactors", laid_loop_example_g00605_impl_shiftFactors), ("loop.example/g00605/impl.nibbleOnes", laid_loop_example_g00605_impl_nibbleOnes)] }
def FnKnownSaid : Prop := fnKnownRow.holds Tryd.pinned (OpenSpec.ofChange fnKnownSpec)

/-- ITS FALSE NEIGHBOUR: 'it returns false'. Refute it at one input. -/
def fnKnownWrong : ChangeSpec := { name := "fnKnown", vars := ["loop.example/g00605/impl.shiftFactors", "loop.example/g00605/impl.nibbleOnes"], fn := fun _ => fun
  | [d1, d2, g1, g2] => { results := [.lit (.bool false)], args := [d1, d2], vars := [g1, g2] }
  | _ => none }
def FnKnownWrongFalsely : Prop := fnKnownRow.holds Tryd.pinned (OpenSpec.ofChange fnKnownWrong)

/-- 'laws.FnBits': WHATEVER THE INPUT: true; the input reads as it did. -/
def fnBitsSpec : ChangeSpec := { name := "fnBits", vars := ["loop.example/g00605/impl.nibbleOnes"], fn := fun _ => fun
  | [d1, d2, g1] => { results := [.lit (.bool true)], args := [d1, d2], vars := [g1] }
  | _ => none }
def fnBitsRow : OpenClaim := { program := "ytmfganodnlnjcaadoor", sum := "25ad607d29baa5c9a14b79dc31bbfc421ba526318b7afba0080b245dd9e3060d", func := "loop.example/g00605/laws.FnBits", spec := "fnBits", unfollowed := true, recurses := true, named := ["loop.example/g00605/impl.nibbleOnes"], apart := false, laid := [("loop.example/g00605/impl.nibbleOnes", laid_loop_example_g00605_impl_nibbleOnes)] }
def FnBitsSaid : Prop := fnBitsRow.holds Tryd.pinned (OpenSpec.ofChange fnBitsSpec)

/-- ITS FALSE NEIGHBOUR: 'it returns false'. Refute it at one input. -/
def fnBitsWrong : ChangeSpec := { name := "fnBits", vars := ["loop.example/g00605/impl.nibbleOnes"], fn := fun _ => fun
  | [d1, d2, g1] => { results := [.lit (.bool false)], args := [d1, d2], vars := [g1] }
  | _ => none }
def FnBitsWrongFalsely : Prop := fnBitsRow.holds Tryd.pinned (OpenSpec.ofChange fnBitsWrong)

/-- 'laws.FnExactDoKnown': WHATEVER THE INPUT: true; the input reads as it did. -/
def fnExactDoKnownSpec : ChangeSpec := { name := "fnExactDoKnown", vars := ["loop.example/g00605/impl.shiftFactors"], fn := fun _ => fun
  | [d1, d2, d3, g1] => { results := [.lit (.bool true)], args := [d1, d2, d3], vars := [g1] }
  | _ => none }
def fnExactDoKnownRow : OpenClaim := { program := "ytmfganodnlnjcaadoor", sum := "25ad607d29baa5c9a14b79dc31bbfc421ba526318b7afba0080b245dd9e3060d", func := "loop.example/g00605/laws.FnExactDoKnown", spec := "fnExactDoKnown", unfollowed := true, recurses := true, named := ["loop.example/g00605/impl.shiftFactors"], apart := false, laid := [("loop.example/g00605/impl.shiftFactors", laid_loop_example_g00605_impl_shiftFactors)] }
def FnExactDoKnownSaid : Prop := fnExactDoKnownRow.holds Tryd.pinned (OpenSpec.ofChange fnExactDoKnownSpec)

/-- ITS FALSE NEIGHBOUR: 'it returns false'. Refute it at one input. -/
def fnExactDoKnownWrong : ChangeSpec := { name := "fnExactDoKnown", vars := ["loop.example/g00605/impl.shiftFactors"], fn := fun _ => fun
  | [d1, d2, d3, g1] => { results := [.lit (.bool false)], args := [d1, d2, d3], vars := [g1] }
  | _ => none }
def FnExactDoKnownWrongFalsely : Prop := fnExactDoKnownRow.holds Tryd.pinned (OpenSpec.ofChange fnExactDoKnownWrong)

/-- 'laws.FnExactNumberAt': WHATEVER THE INPUT: true; the input reads as it did. -/
def fnExactNumberAtSpec : ChangeSpec := { name := "fnExactNumberAt", vars := ["loop.example/g00605/impl.nibbleOnes"], fn := fun _ => fun
  | [d1, d2, g1] => { results := [.lit (.bool true)], args := [d1, d2], vars := [g1] }
  | _ => none }
def fnExactNumberAtRow : OpenClaim := { program := "ytmfganodnlnjcaadoor", sum := "25ad607d29baa5c9a14b79dc31bbfc421ba526318b7afba0080b245dd9e3060d", func := "loop.example/g00605/laws.FnExactNumberAt", spec := "fnExactNumberAt", named := ["loop.example/g00605/impl.nibbleOnes"], apart := false, laid := [("loop.example/g00605/impl.nibbleOnes", laid_loop_example_g00605_impl_nibbleOnes)] }
def FnExactNumberAtSaid : Prop := fnExactNumberAtRow.holds Tryd.pinned (OpenSpec.ofChange fnExactNumberAtSpec)

/-- ITS FALSE NEIGHBOUR: 'it returns false'. Refute it at one input. -/
def fnExactNumberAtWrong : ChangeSpec := { name := "fnExactNumberAt", vars := ["loop.example/g00605/impl.nibbleOnes"], fn := fun _ => fun
  | [d1, d2, g1] => { results := [.lit (.bool false)], args := [d1, d2], vars := [g1] }
  | _ => none }
def FnExactNumberAtWrongFalsely : Prop := fnExactNumberAtRow.holds Tryd.pinned (OpenSpec.ofChange fnExactNumberAtWrong)

/-- 'laws.FnExactWaysOf': WHATEVER THE INPUT: true; the input reads as it did. -/
def fnExactWaysOfSpec : ChangeSpec := { name := "fnExactWaysOf", vars := ["loop.example/g00605/impl.nibbleOnes"], fn := fun _ => fun
  | [d, g1] => { results := [.lit (.bool true)], args := [d], vars := [g1] }
  | _ => none }
def fnExactWaysOfRow : OpenClaim := { program := "ytmfganodnlnjcaadoor", sum := "25ad607d29baa5c9a14b79dc31bbfc421ba526318b7afba0080b245dd9e3060d", func := "loop.example/g00605/laws.FnExactWaysOf", spec := "fnExactWaysOf", named := ["loop.example/g00605/impl.nibbleOnes"], apart := false, laid := [("loop.example/g00605/impl.nibbleOnes", laid_loop_example_g00605_impl_nibbleOnes)] }
def FnExactWaysOfSaid : Prop := fnExactWaysOfRow.holds Tryd.pinned (OpenSpec.ofChange fnExactWaysOfSpec)

/-- ITS FALSE NEIGHBOUR: 'it returns false'. Refute it at one input. -/
def fnExactWaysOfWrong : ChangeSpec := { name := "fnExactWaysOf", vars := ["loop.example/g00605/impl.nibbleOnes"], fn := fun _ => fun
  | [d, g1] => { results := [.lit (.bool false)], args := [d], vars := [g1] }
  | _ => none }
def FnExactWaysOfWrongFalsely : Prop := fnExactWaysOfRow.holds Tryd.pinned (OpenSpec.ofChange fnExactWaysOfWrong)

/- THE SECOND FORM. 'bulk': how many values and letters a reading holds, each counted each time it is reached (what is shared counts as often as it is met; a slice's spare places count too). A statement '..UptoSaid' is the law's where the arguments, and the package variables that the reading takes, are together of bulk at most 1048576: NARROWER than '..Said'. Prove '..Said' where nothing that the law and all that it calls make is longer than what came in: it says more and counts as full. Else prove '..UptoSaid'. A law counts once. -/
mutual
def uptoBulk {H : Type} : DataW H → Nat
  | .lit (.string bytes) => bytes.length + 1
  | .lit _ => 1
  | .nil => 1
  | .ptr d => uptoBulk d + 1
  | .slice elems spare => uptoBulkAll elems + uptoBulkAll spare + 1
  | .agg parts => uptoBulkAll parts + 1
  | .iface _ d => uptoBulk d + 1
  | .map entries => uptoBulkEntries entries + 1
  | .held _ => 1
def uptoBulkAll {H : Type} : List (DataW H) → Nat
  | [] => 0
  | d :: r => uptoBulk d + uptoBulkAll r
def uptoBulkEntries {H : Type} : List (Lit × DataW H) → Nat
  | [] => 0
  | x :: r => uptoBulkEntry x + uptoBulkEntries r
def uptoBulkEntry {H : Type} : Lit × DataW H → Nat
  | (.string bytes, d) => bytes.length + uptoBulk d + 1
  | (_, d) => uptoBulk d + 1
 end
def uptoSmall : (H : Type) → List (DataW H) → Bool := fun _ ds => decide (uptoBulkAll ds ≤ 1048576)
def OpenSpec.upto (s : _root_.Go.ChangeSpec) : _root_.Go.OpenSpec := { _root_.Go.OpenSpec.ofChange s with cond := some uptoSmall }

/-- 'laws.FnKnown', WHERE WHAT IT READS IS OF BULK AT MOST 1048576: true; the input reads as it did. -/
def fnKnownUptoRow : OpenClaim := { program := "ytmfganodnlnjcaadoor", sum := "25ad607d29baa5c9a14b79dc31bbfc421ba526318b7afba0080b245dd9e3060d", func := "loop.example/g00605/laws.FnKnown", spec := "fnKnown", unfollowed := true, recurses := true, named := ["loop.example/g00605/impl.shiftFactors", "loop.example/g00605/impl.nibbleOnes"], apart := false, laid := [("loop.example/g00605/impl.shiftFactors", laid_loop_example_g00605_impl_shiftFactors), ("loop.example/g00605/impl.nibbleOnes", laid_loop_example_g00605_impl_nibbleOnes)], narrowed := true }
def FnKnownUptoSaid : Prop := fnKnownUptoRow.holds Tryd.pinned (OpenSpec.upto fnKnownSpec)

/-- 'laws.FnBits', WHERE WHAT IT READS IS OF BULK AT MOST 1048576: true; the input reads as it did. -/
def fnBitsUptoRow : OpenClaim := { program := "ytmfganodnlnjcaadoor", sum := "25ad607d29baa5c9a14b79dc31bbfc421ba526318b7afba0080b245dd9e3060d", func := "loop.example/g00605/laws.FnBits", spec := "fnBits", unfollowed := true, recurses := true, named := ["loop.example/g00605/impl.nibbleOnes"], apart := false, laid := [("loop.example/g00605/impl.nibbleOnes", laid_loop_example_g00605_impl_nibbleOnes)], narrowed := true }
def FnBitsUptoSaid : Prop := fnBitsUptoRow.holds Tryd.pinned (OpenSpec.upto fnBitsSpec)

/-- 'laws.FnExactDoKnown', WHERE WHAT IT READS IS OF BULK AT MOST 1048576: true; the input reads as it did. -/
def fnExactDoKnownUptoRow : OpenClaim := { program := "ytmfganodnlnjcaadoor", sum := "25ad607d29baa5c9a14b79dc31bbfc421ba526318b7afba0080b245dd9e3060d", func := "loop.example/g00605/laws.FnExactDoKnown", spec := "fnExactDoKnown", unfollowed := true, recurses := true, named := ["loop.example/g00605/impl.shiftFactors"], apart := false, laid := [("loop.example/g00605/impl.shiftFactors", laid_loop_example_g00605_impl_shiftFactors)], narrowed := true }
def FnExactDoKnownUptoSaid : Prop := fnExactDoKnownUptoRow.holds Tryd.pinned (OpenSpec.upto fnExactDoKnownSpec)

/-- 'laws.FnExactNumberAt', WHERE WHAT IT READS IS OF BULK AT MOST 1048576: true; the input reads as it did. -/
def fnExactNumberAtUptoRow : OpenClaim := { program := "ytmfganodnlnjcaadoor", sum := "25ad607d29baa5c9a14b79dc31bbfc421ba526318b7afba0080b245dd9e3060d", func := "loop.example/g00605/laws.FnExactNumberAt", spec := "fnExactNumberAt", named := ["loop.example/g00605/impl.nibbleOnes"], apart := false, laid := [("loop.example/g00605/impl.nibbleOnes", laid_loop_example_g00605_impl_nibbleOnes)], narrowed := true }
def FnExactNumberAtUptoSaid : Prop := fnExactNumberAtUptoRow.holds Tryd.pinned (OpenSpec.upto fnExactNumberAtSpec)

/-- 'laws.FnExactWaysOf', WHERE WHAT IT READS IS OF BULK AT MOST 1048576: true; the input reads as it did. -/
def fnExactWaysOfUptoRow : OpenClaim := { program := "ytmfganodnlnjcaadoor", sum := "25ad607d29baa5c9a14b79dc31bbfc421ba526318b7afba0080b245dd9e3060d", func := "loop.example/g00605/laws.FnExactWaysOf", spec := "fnExactWaysOf", named := ["loop.example/g00605/impl.nibbleOnes"], apart := false, laid := [("loop.example/g00605/impl.nibbleOnes", laid_loop_example_g00605_impl_nibbleOnes)], narrowed := true }
def FnExactWaysOfUptoSaid : Prop := fnExactWaysOfUptoRow.holds Tryd.pinned (OpenSpec.upto fnExactWaysOfSpec)

end Rows
end Go.Proofs.YtmfganodnlnjcaaDoor
