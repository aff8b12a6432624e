/-
  No cell of these rows narrows 'for every input' (looked for: loops, veiled, ifaces, maps, wideKeys, modest, calm, conditions, laid).
  DERIVED. THE GIVEN ROWS OF THIS SEAT. 7 by the template 'for every input the law returns true; each argument reads behind the call as it read before'; 0 by the template 'total and deterministic' (their statements: YtbmonndpblnjkaaTotals.lean).
  GIVEN WITH THE SEED: the statements are not yours to turn. If you find one false, say at which input.
  Laid BY PROGRAM, IN A SANDBOX (cutbox-rows.mjs): the forced cells as the released guide's own fill.sh prints them over the translation 3f9bf7572c409499… (all of the seat's roots in one cut). By AI agents, Wed Nov 11 2026. No macro, syntax, notation, axiom, sorry.
-/
import Derived.Test.YtbmonndpblnjkaaChecked
import GoSem.Claim
import GoSem.ClaimJoined
import GoSem.ClaimMapViews
import Derived.JoinedTies
import Derived.KernelRfl
namespace Go.Proofs.Ytbmonndpblnjkaa
/- THE CELL 'sum', in the pinned program and in every row, IS THE sha256 OF THE DUMP (.gsa) THAT YtbmonndpblnjkaaProg.lean LOADS. Nothing in Lean hashes anything: it is a label: what it is worth is what the hold of that sum in a sandbox is worth. -/
noncomputable def Try.pinned : Pinned := { name := "ytbmonndpblnjkaa", sum := "3f9bf7572c409499223b89f3fdd6f0f8a7c4aed004194e1a15048597fc2d90b5", checked := Try.checked }
namespace Rows
def none {H : Type} : Left H := { results := [], args := [] }

/-- 'laws.FnProgram': WHATEVER THE INPUT: true; the input reads as it did. -/
def fnProgramSpec : ChangeSpec := { name := "fnProgram", fn := fun _ => fun
  | [d1, d2] => { results := [.lit (.bool true)], args := [d1, d2] }
  | _ => none }
def fnProgramRow : OpenClaim := { program := "ytbmonndpblnjkaa", sum := "3f9bf7572c409499223b89f3fdd6f0f8a7c4aed004194e1a15048597fc2d90b5", func := "loop.example/g00605/laws.FnProgram", spec := "fnProgram", unfollowed := true, recurses := true, apart := false }
def FnProgramSaid : Prop := fnProgramRow.holds Try.pinned (OpenSpec.ofChange fnProgramSpec)

/-- ITS FALSE NEIGHBOUR: 'it returns false'. Refute it at one input. -/
def fnProgramWrong : ChangeSpec := { name := "fnProgram", fn := fun _ => fun
  | [d1, d2] => { results := [.lit (.bool false)], args := [d1, d2] }
  | _ => none }
def FnProgramWrongFalsely : Prop := fnProgramRow.holds Try.pinned (OpenSpec.ofChange fnProgramWrong)

/-- 'laws.FnExactGoodProgram': WHATEVER THE INPUT: true; the input reads as it did. -/
def fnExactGoodProgramSpec : ChangeSpec := { name := "fnExactGoodProgram", fn := fun _ => fun
  | [d] => { results := [.lit (.bool true)], args := [d] }
  | _ => none }
def fnExactGoodProgramRow : OpenClaim := { program := "ytbmonndpblnjkaa", sum := "3f9bf7572c409499223b89f3fdd6f0f8a7c4aed004194e1a15048597fc2d90b5", func := "loop.example/g00605/laws.FnExactGoodProgram", spec := "fnExactGoodProgram", unfollowed := true, recurses := true, apart := false }
def FnExactGoodProgramSaid : Prop := fnExactGoodProgramRow.holds Try.pinned (OpenSpec.ofChange fnExactGoodProgramSpec)

/-- ITS FALSE NEIGHBOUR: 'it returns false'. Refute it at one input. -/
def fnExactGoodProgramWrong : ChangeSpec := { name := "fnExactGoodProgram", fn := fun _ => fun
  | [d] => { results := [.lit (.bool false)], args := [d] }
  | _ => none }
def FnExactGoodProgramWrongFalsely : Prop := fnExactGoodProgramRow.holds Try.pinned (OpenSpec.ofChange fnExactGoodProgramWrong)

/-- 'laws.FnExactStepBytes': WHATEVER THE INPUT: true; the input reads as it did. -/
def fnExactStepBytesSpec : ChangeSpec := { name := "fnExactStepBytes", fn := fun _ => fun
  | [d] => { results := [.lit (.bool true)], args := [d] }
  | _ => none }
def fnExactStepBytesRow : OpenClaim := { program := "ytbmonndpblnjkaa", sum := "3f9bf7572c409499223b89f3fdd6f0f8a7c4aed004194e1a15048597fc2d90b5", func := "loop.example/g00605/laws.FnExactStepBytes", spec := "fnExactStepBytes", unfollowed := true, recurses := true, apart := false }
def FnExactStepBytesSaid : Prop := fnExactStepBytesRow.holds Try.pinned (OpenSpec.ofChange fnExactStepBytesSpec)

/-- ITS FALSE NEIGHBOUR: 'it returns false'. Refute it at one input. -/
def fnExactStepBytesWrong : ChangeSpec := { name := "fnExactStepBytes", fn := fun _ => fun
  | [d] => { results := [.lit (.bool false)], args := [d] }
  | _ => none }
def FnExactStepBytesWrongFalsely : Prop := fnExactStepBytesRow.holds Try.pinned (OpenSpec.ofChange fnExactStepBytesWrong)

/-- 'laws.FnExactProgramBytes': WHATEVER THE INPUT: true; the input reads as it did. -/
def fnExactProgramBytesSpec : ChangeSpec := { name := "fnExactProgramBytes", fn := fun _ => fun
  | [d] => { results := [.lit (.bool true)], args := [d] }
  | _ => none }
def fnExactProgramBytesRow : OpenClaim := { program := "ytbmonndpblnjkaa", sum := "3f9bf7572c409499223b89f3fdd6f0f8a7c4aed004194e1a15048597fc2d90b5", func := "loop.example/g00605/laws.FnExactProgramBytes", spec := "fnExactProgramBytes", unfollowed := true, recurses := true, apart := false }
def FnExactProgramBytesSaid : Prop := fnExactProgramBytesRow.holds Try.pinned (OpenSpec.ofChange fnExactProgramBytesSpec)

/-- ITS FALSE NEIGHBOUR: 'it returns false'. Refute it at one input. -/
def fnExactProgramBytesWrong : ChangeSpec := { name := "fnExactProgramBytes", fn := fun _ => fun
  | [d] => { results := [.lit (.bool false)], args := [d] }
  | _ => none }
def FnExactProgramBytesWrongFalsely : Prop := fnExactProgramBytesRow.holds Try.pinned (OpenSpec.ofChange fnExactProgramBytesWrong)

/-- 'laws.FnExactReadProgram': WHATEVER THE INPUT: true; the input reads as it did. -/
def fnExactReadProgramSpec : ChangeSpec := { name := "fnExactReadProgram", fn := fun _ => fun
  | [d] => { results := [.lit (.bool true)], args := [d] }
  | _ => none }
def fnExactReadProgramRow : OpenClaim := { program := "ytbmonndpblnjkaa", sum := "3f9bf7572c409499223b89f3fdd6f0f8a7c4aed004194e1a15048597fc2d90b5", func := "loop.example/g00605/laws.FnExactReadProgram", spec := "fnExactReadProgram", unfollowed := true, recurses := true, apart := false }
def FnExactReadProgramSaid : Prop := fnExactReadProgramRow.holds Try.pinned (OpenSpec.ofChange fnExactReadProgramSpec)

/-- ITS FALSE NEIGHBOUR: 'it returns false'. Refute it at one input. -/
def fnExactReadProgramWrong : ChangeSpec := { name := "fnExactReadProgram", fn := fun _ => fun
  | [d] => { results := [.lit (.bool false)], args := [d] }
  | _ => none }
def FnExactReadProgramWrongFalsely : Prop := fnExactReadProgramRow.holds Try.pinned (OpenSpec.ofChange fnExactReadProgramWrong)

/-- 'laws.FnExactNextsOf': WHATEVER THE INPUT: true; the input reads as it did. -/
def fnExactNextsOfSpec : ChangeSpec := { name := "fnExactNextsOf", fn := fun _ => fun
  | [d1, d2] => { results := [.lit (.bool true)], args := [d1, d2] }
  | _ => none }
def fnExactNextsOfRow : OpenClaim := { program := "ytbmonndpblnjkaa", sum := "3f9bf7572c409499223b89f3fdd6f0f8a7c4aed004194e1a15048597fc2d90b5", func := "loop.example/g00605/laws.FnExactNextsOf", spec := "fnExactNextsOf", unfollowed := true, recurses := true, apart := false }
def FnExactNextsOfSaid : Prop := fnExactNextsOfRow.holds Try.pinned (OpenSpec.ofChange fnExactNextsOfSpec)

/-- ITS FALSE NEIGHBOUR: 'it returns false'. Refute it at one input. -/
def fnExactNextsOfWrong : ChangeSpec := { name := "fnExactNextsOf", fn := fun _ => fun
  | [d1, d2] => { results := [.lit (.bool false)], args := [d1, d2] }
  | _ => none }
def FnExactNextsOfWrongFalsely : Prop := fnExactNextsOfRow.holds Try.pinned (OpenSpec.ofChange fnExactNextsOfWrong)

/-- 'laws.FnExactSlotsOf': WHATEVER THE INPUT: true; the input reads as it did. -/
def fnExactSlotsOfSpec : ChangeSpec := { name := "fnExactSlotsOf", fn := fun _ => fun
  | [d] => { results := [.lit (.bool true)], args := [d] }
  | _ => none }
def fnExactSlotsOfRow : OpenClaim := { program := "ytbmonndpblnjkaa", sum := "3f9bf7572c409499223b89f3fdd6f0f8a7c4aed004194e1a15048597fc2d90b5", func := "loop.example/g00605/laws.FnExactSlotsOf", spec := "fnExactSlotsOf", unfollowed := true, recurses := true, apart := false }
def FnExactSlotsOfSaid : Prop := fnExactSlotsOfRow.holds Try.pinned (OpenSpec.ofChange fnExactSlotsOfSpec)

/-- ITS FALSE NEIGHBOUR: 'it returns false'. Refute it at one input. -/
def fnExactSlotsOfWrong : ChangeSpec := { name := "fnExactSlotsOf", fn := fun _ => fun
  | [d] => { results := [.lit (.bool false)], args := [d] }
  | _ => none }
def FnExactSlotsOfWrongFalsely : Prop := fnExactSlotsOfRow.holds Try.pinned (OpenSpec.ofChange fnExactSlotsOfWrong)

/- THE SECOND FORM. 'bulk': how many values and letters a reading holds, each counted each time it is reached (what is shared counts as often as it is met; a slice's spare places count too). A statement '..UptoSaid' is the law's where the arguments, and the package variables that the reading takes, are together of bulk at most 1048576: NARROWER than '..Said'. Prove '..Said' where nothing that the law and all that it calls make is longer than what came in: it says more and counts as full. Else prove '..UptoSaid'. A law counts once. -/
mutual
def uptoBulk {H : Type} : DataW H → Nat
  | .lit (.string bytes) => bytes.length + 1
  | .lit _ => 1
  | .nil => 1
  | .ptr d => uptoBulk d + 1
  | .slice elems spare => uptoBulkAll elems + uptoBulkAll spare + 1
  | .agg parts => uptoBulkAll parts + 1
  | .iface _ d => uptoBulk d + 1
  | .map entries => uptoBulkEntries entries + 1
  | .held _ => 1
def uptoBulkAll {H : Type} : List (DataW H) → Nat
  | [] => 0
  | d :: r => uptoBulk d + uptoBulkAll r
def uptoBulkEntries {H : Type} : List (Lit × DataW H) → Nat
  | [] => 0
  | x :: r => uptoBulkEntry x + uptoBulkEntries r
def uptoBulkEntry {H : Type} : Lit × DataW H → Nat
  | (.string bytes, d) => bytes.length + uptoBulk d + 1
  | (_, d) => uptoBulk d + 1
 end
def uptoSmall : (H : Type) → List (DataW H) → Bool := fun _ ds => decide (uptoBulkAll ds ≤ 1048576)
def OpenSpec.upto (s : _root_.Go.ChangeSpec) : _root_.Go.OpenSpec := { _root_.Go.OpenSpec.ofChange s with cond := some uptoSmall }

/-- 'laws.FnProgram', WHERE WHAT IT READS IS OF BULK AT MOST 1048576: true; the input reads as it did. -/
def fnProgramUptoRow : OpenClaim := { program := "ytbmonndpblnjkaa", sum := "3f9bf7572c409499223b89f3fdd6f0f8a7c4aed004194e1a15048597fc2d90b5", func := "loop.example/g00605/laws.FnProgram", spec := "fnProgram", unfollowed := true, recurses := true, apart := false, narrowed := true }
def FnProgramUptoSaid : Prop := fnProgramUptoRow.holds Try.pinned (OpenSpec.upto fnProgramSpec)

/-- 'laws.FnExactGoodProgram', WHERE WHAT IT READS IS OF BULK AT MOST 1048576: true; the input reads as it did. -/
def fnExactGoodProgramUptoRow : OpenClaim := { program := "ytbmonndpblnjkaa", sum := "3f9bf7572c409499223b89f3fdd6f0f8a7c4aed004194e1a15048597fc2d90b5", func := "loop.example/g00605/laws.FnExactGoodProgram", spec := "fnExactGoodProgram", unfollowed := true, recurses := true, apart := false, narrowed := true }
def FnExactGoodProgramUptoSaid : Prop := fnExactGoodProgramUptoRow.holds Try.pinned (OpenSpec.upto fnExactGoodProgramSpec)

/-- 'laws.FnExactStepBytes', WHERE WHAT IT READS IS OF BULK AT MOST 1048576: true; the input reads as it did. -/
def fnExactStepBytesUptoRow : OpenClaim := { program := "ytbmonndpblnjkaa", sum := "3f9bf7572c409499223b89f3fdd6f0f8a7c4aed004194e1a15048597fc2d90b5", func := "loop.example/g00605/laws.FnExactStepBytes", spec := "fnExactStepBytes", unfollowed := true, recurses := true, apart := false, narrowed := true }
def FnExactStepBytesUptoSaid : Prop := fnExactStepBytesUptoRow.holds Try.pinned (OpenSpec.upto fnExactStepBytesSpec)

/-- 'laws.FnExactProgramBytes', WHERE WHAT IT READS IS OF BULK AT MOST 1048576: true; the input reads as it did. -/
def fnExactProgramBytesUptoRow : OpenClaim := { program := "ytbmonndpblnjkaa", sum := "3f9bf7572c409499223b89f3fdd6f0f8a7c4aed004194e1a15048597fc2d90b5", func := "loop.example/g00605/laws.FnExactProgramBytes", spec := "fnExactProgramBytes", unfollowed := true, recurses := true, apart := false, narrowed := true }
def FnExactProgramBytesUptoSaid : Prop := fnExactProgramBytesUptoRow.holds Try.pinned (OpenSpec.upto fnExactProgramBytesSpec)

/-- 'laws.FnExactReadProgram', WHERE WHAT IT READS IS OF BULK AT MOST 1048576: true; the input reads as it did. -/
def fnExactReadProgramUptoRow : OpenClaim := { program := "ytbmonndpblnjkaa", sum := "3f9bf7572c409499223b89f3fdd6f0f8a7c4aed004194e1a15048597fc2d90b5", func := "loop.example/g00605/laws.FnExactReadProgram", spec := "fnExactReadProgram", unfollowed := true, recurses := true, apart := false, narrowed := true }
def FnExactReadProgramUptoSaid : Prop := fnExactReadProgramUptoRow.holds Try.pinned (OpenSpec.upto fnExactReadProgramSpec)

/-- 'laws.FnExactNextsOf', WHERE WHAT IT READS IS OF BULK AT MOST 1048576: true; the input reads as it did. -/
def fnExactNextsOfUptoRow : OpenClaim := { program := "ytbmonndpblnjkaa", sum := "3f9bf7572c409499223b89f3fdd6f0f8a7c4aed004194e1a15048597fc2d90b5", func := "loop.example/g00605/laws.FnExactNextsOf", spec := "fnExactNextsOf", unfollowed := true, recurses := true, apart := false, narrowed := true }
def FnExactNextsOfUptoSaid : Prop := fnExactNextsOfUptoRow.holds Try.pinned (OpenSpec.upto fnExactNextsOfSpec)

/-- 'laws.FnExactSlotsOf', WHERE WHAT IT READS IS OF BULK AT MOST 1048576: true; the input reads as it did. -/
def fnExactSlotsOfUptoRow : OpenClaim := { program := "ytbmonndpblnjkaa", sum := "3f9bf7572c409499223b89f3fdd6f0f8a7c4aed004194e1a15048597fc2d90b5", func := "loop.example/g00605/laws.FnExactSlotsOf", spec := "fnExactSlotsOf", unfollowed := true, recurses := true, apart := false, narrowed := true }
def FnExactSlotsOfUptoSaid : Prop := fnExactSlotsOfUptoRow.holds Try.pinned (OpenSpec.upto fnExactSlotsOfSpec)

end Rows
end Go.Proofs.Ytbmonndpblnjkaa
