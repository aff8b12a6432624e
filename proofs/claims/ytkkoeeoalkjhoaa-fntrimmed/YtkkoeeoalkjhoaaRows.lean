/-
  No cell of these rows narrows 'for every input' (looked for: loops, veiled, ifaces, maps, wideKeys, modest, calm, conditions, laid).
  DERIVED. THE GIVEN ROWS OF THIS SEAT. 9 by the template 'for every input the law returns true; each argument reads behind the call as it read before'; 0 by the template 'total and deterministic' (their statements: YtkkoeeoalkjhoaaTotals.lean).
  GIVEN WITH THE SEED: the statements are not yours to turn. If you find one false, say at which input.
  Laid BY PROGRAM, IN A SANDBOX (cutbox-rows.mjs): the forced cells as the released guide's own fill.sh prints them over the translation 3965ee15c64d00ac… (all of the seat's roots in one cut). By AI agents, Wed Nov 11 2026. No macro, syntax, notation, axiom, sorry.
-/
import Derived.Test.YtkkoeeoalkjhoaaChecked
import GoSem.Claim
import GoSem.ClaimJoined
import GoSem.ClaimMapViews
import Derived.JoinedTies
import Derived.KernelRfl
namespace Go.Proofs.Ytkkoeeoalkjhoaa
/- THE CELL 'sum', in the pinned program and in every row, IS THE sha256 OF THE DUMP (.gsa) THAT YtkkoeeoalkjhoaaProg.lean LOADS. Nothing in Lean hashes anything: it is a label: what it is worth is what the hold of that sum in a sandbox is worth. -/
noncomputable def Try.pinned : Pinned := { name := "ytkkoeeoalkjhoaa", sum := "3965ee15c64d00acf41aa40fd9400ec9912d4464e5ea94f7ff2ad2b960cac49f", checked := Try.checked }
namespace Rows
def none {H : Type} : Left H := { results := [], args := [] }

/-- 'laws.FnProved': WHATEVER THE INPUT: true; the input reads as it did. -/
def fnProvedSpec : ChangeSpec := { name := "fnProved", fn := fun _ => fun
  | [d1, d2] => { results := [.lit (.bool true)], args := [d1, d2] }
  | _ => none }
def fnProvedRow : OpenClaim := { program := "ytkkoeeoalkjhoaa", sum := "3965ee15c64d00acf41aa40fd9400ec9912d4464e5ea94f7ff2ad2b960cac49f", func := "loop.example/g00605/laws.FnProved", spec := "fnProved", unfollowed := true, recurses := true, apart := false }
def FnProvedSaid : Prop := fnProvedRow.holds Try.pinned (OpenSpec.ofChange fnProvedSpec)

/-- ITS FALSE NEIGHBOUR: 'it returns false'. Refute it at one input. -/
def fnProvedWrong : ChangeSpec := { name := "fnProved", fn := fun _ => fun
  | [d1, d2] => { results := [.lit (.bool false)], args := [d1, d2] }
  | _ => none }
def FnProvedWrongFalsely : Prop := fnProvedRow.holds Try.pinned (OpenSpec.ofChange fnProvedWrong)

/-- 'laws.FnTrimmed': WHATEVER THE INPUT: true; the input reads as it did. -/
def fnTrimmedSpec : ChangeSpec := { name := "fnTrimmed", fn := fun _ => fun
  | [d1, d2] => { results := [.lit (.bool true)], args := [d1, d2] }
  | _ => none }
def fnTrimmedRow : OpenClaim := { program := "ytkkoeeoalkjhoaa", sum := "3965ee15c64d00acf41aa40fd9400ec9912d4464e5ea94f7ff2ad2b960cac49f", func := "loop.example/g00605/laws.FnTrimmed", spec := "fnTrimmed", unfollowed := true, recurses := true, apart := false }
def FnTrimmedSaid : Prop := fnTrimmedRow.holds Try.pinned (OpenSpec.ofChange fnTrimmedSpec)

/-- ITS FALSE NEIGHBOUR: 'it returns false'. Refute it at one input. -/
def fnTrimmedWrong : ChangeSpec := { name := "fnTrimmed", fn := fun _ => fun
  | [d1, d2] => { results := [.lit (.bool false)], args := [d1, d2] }
  | _ => none }
def FnTrimmedWrongFalsely : Prop := fnTrimmedRow.holds Try.pinned (OpenSpec.ofChange fnTrimmedWrong)

/-- 'laws.FnExactIsAtOnce': WHATEVER THE INPUT: true; the input reads as it did. -/
def fnExactIsAtOnceSpec : ChangeSpec := { name := "fnExactIsAtOnce", fn := fun _ => fun
  | [d1, d2, d3] => { results := [.lit (.bool true)], args := [d1, d2, d3] }
  | _ => none }
def fnExactIsAtOnceRow : OpenClaim := { program := "ytkkoeeoalkjhoaa", sum := "3965ee15c64d00acf41aa40fd9400ec9912d4464e5ea94f7ff2ad2b960cac49f", func := "loop.example/g00605/laws.FnExactIsAtOnce", spec := "fnExactIsAtOnce", apart := false }
def FnExactIsAtOnceSaid : Prop := fnExactIsAtOnceRow.holds Try.pinned (OpenSpec.ofChange fnExactIsAtOnceSpec)

/-- ITS FALSE NEIGHBOUR: 'it returns false'. Refute it at one input. -/
def fnExactIsAtOnceWrong : ChangeSpec := { name := "fnExactIsAtOnce", fn := fun _ => fun
  | [d1, d2, d3] => { results := [.lit (.bool false)], args := [d1, d2, d3] }
  | _ => none }
def FnExactIsAtOnceWrongFalsely : Prop := fnExactIsAtOnceRow.holds Try.pinned (OpenSpec.ofChange fnExactIsAtOnceWrong)

/-- 'laws.FnExactCheckProof': WHATEVER THE INPUT: true; the input reads as it did. -/
def fnExactCheckProofSpec : ChangeSpec := { name := "fnExactCheckProof", fn := fun _ => fun
  | [d1, d2, d3] => { results := [.lit (.bool true)], args := [d1, d2, d3] }
  | _ => none }
def fnExactCheckProofRow : OpenClaim := { program := "ytkkoeeoalkjhoaa", sum := "3965ee15c64d00acf41aa40fd9400ec9912d4464e5ea94f7ff2ad2b960cac49f", func := "loop.example/g00605/laws.FnExactCheckProof", spec := "fnExactCheckProof", unfollowed := true, recurses := true, apart := false }
def FnExactCheckProofSaid : Prop := fnExactCheckProofRow.holds Try.pinned (OpenSpec.ofChange fnExactCheckProofSpec)

/-- ITS FALSE NEIGHBOUR: 'it returns false'. Refute it at one input. -/
def fnExactCheckProofWrong : ChangeSpec := { name := "fnExactCheckProof", fn := fun _ => fun
  | [d1, d2, d3] => { results := [.lit (.bool false)], args := [d1, d2, d3] }
  | _ => none }
def FnExactCheckProofWrongFalsely : Prop := fnExactCheckProofRow.holds Try.pinned (OpenSpec.ofChange fnExactCheckProofWrong)

/-- 'laws.FnExactNeededIn': WHATEVER THE INPUT: true; the input reads as it did. -/
def fnExactNeededInSpec : ChangeSpec := { name := "fnExactNeededIn", fn := fun _ => fun
  | [d1, d2, d3] => { results := [.lit (.bool true)], args := [d1, d2, d3] }
  | _ => none }
def fnExactNeededInRow : OpenClaim := { program := "ytkkoeeoalkjhoaa", sum := "3965ee15c64d00acf41aa40fd9400ec9912d4464e5ea94f7ff2ad2b960cac49f", func := "loop.example/g00605/laws.FnExactNeededIn", spec := "fnExactNeededIn", unfollowed := true, recurses := true, apart := false }
def FnExactNeededInSaid : Prop := fnExactNeededInRow.holds Try.pinned (OpenSpec.ofChange fnExactNeededInSpec)

/-- ITS FALSE NEIGHBOUR: 'it returns false'. Refute it at one input. -/
def fnExactNeededInWrong : ChangeSpec := { name := "fnExactNeededIn", fn := fun _ => fun
  | [d1, d2, d3] => { results := [.lit (.bool false)], args := [d1, d2, d3] }
  | _ => none }
def FnExactNeededInWrongFalsely : Prop := fnExactNeededInRow.holds Try.pinned (OpenSpec.ofChange fnExactNeededInWrong)

/-- 'laws.FnExactTrimProof': WHATEVER THE INPUT: true; the input reads as it did. -/
def fnExactTrimProofSpec : ChangeSpec := { name := "fnExactTrimProof", fn := fun _ => fun
  | [d1, d2, d3] => { results := [.lit (.bool true)], args := [d1, d2, d3] }
  | _ => none }
def fnExactTrimProofRow : OpenClaim := { program := "ytkkoeeoalkjhoaa", sum := "3965ee15c64d00acf41aa40fd9400ec9912d4464e5ea94f7ff2ad2b960cac49f", func := "loop.example/g00605/laws.FnExactTrimProof", spec := "fnExactTrimProof", unfollowed := true, recurses := true, apart := false }
def FnExactTrimProofSaid : Prop := fnExactTrimProofRow.holds Try.pinned (OpenSpec.ofChange fnExactTrimProofSpec)

/-- ITS FALSE NEIGHBOUR: 'it returns false'. Refute it at one input. -/
def fnExactTrimProofWrong : ChangeSpec := { name := "fnExactTrimProof", fn := fun _ => fun
  | [d1, d2, d3] => { results := [.lit (.bool false)], args := [d1, d2, d3] }
  | _ => none }
def FnExactTrimProofWrongFalsely : Prop := fnExactTrimProofRow.holds Try.pinned (OpenSpec.ofChange fnExactTrimProofWrong)

/-- 'laws.FnExactProofOf': WHATEVER THE INPUT: true; the input reads as it did. -/
def fnExactProofOfSpec : ChangeSpec := { name := "fnExactProofOf", fn := fun _ => fun
  | [d1, d2] => { results := [.lit (.bool true)], args := [d1, d2] }
  | _ => none }
def fnExactProofOfRow : OpenClaim := { program := "ytkkoeeoalkjhoaa", sum := "3965ee15c64d00acf41aa40fd9400ec9912d4464e5ea94f7ff2ad2b960cac49f", func := "loop.example/g00605/laws.FnExactProofOf", spec := "fnExactProofOf", apart := false }
def FnExactProofOfSaid : Prop := fnExactProofOfRow.holds Try.pinned (OpenSpec.ofChange fnExactProofOfSpec)

/-- ITS FALSE NEIGHBOUR: 'it returns false'. Refute it at one input. -/
def fnExactProofOfWrong : ChangeSpec := { name := "fnExactProofOf", fn := fun _ => fun
  | [d1, d2] => { results := [.lit (.bool false)], args := [d1, d2] }
  | _ => none }
def FnExactProofOfWrongFalsely : Prop := fnExactProofOfRow.holds Try.pinned (OpenSpec.ofChange fnExactProofOfWrong)

/-- 'laws.FnExactRefuteBy': WHATEVER THE INPUT: true; the input reads as it did. -/
def fnExactRefuteBySpec : ChangeSpec := { name := "fnExactRefuteBy", fn := fun _ => fun
  | [d1, d2] => { results := [.lit (.bool true)], args := [d1, d2] }
  | _ => none }
def fnExactRefuteByRow : OpenClaim := { program := "ytkkoeeoalkjhoaa", sum := "3965ee15c64d00acf41aa40fd9400ec9912d4464e5ea94f7ff2ad2b960cac49f", func := "loop.example/g00605/laws.FnExactRefuteBy", spec := "fnExactRefuteBy", unfollowed := true, recurses := true, apart := false }
def FnExactRefuteBySaid : Prop := fnExactRefuteByRow.holds Try.pinned (OpenSpec.ofChange fnExactRefuteBySpec)

/-- ITS FALSE NEIGHBOUR: 'it returns false'. Refute it at one input. -/
def fnExactRefuteByWrong : ChangeSpec := { name := "fnExactRefuteBy", fn := fun _ => fun
  | [d1, d2] => { results := [.lit (.bool false)], args := [d1, d2] }
  | _ => none }
def FnExactRefuteByWrongFalsely : Prop := fnExactRefuteByRow.holds Try.pinned (OpenSpec.ofChange fnExactRefuteByWrong)

/-- 'laws.FnExactProofSize': WHATEVER THE INPUT: true; the input reads as it did. -/
def fnExactProofSizeSpec : ChangeSpec := { name := "fnExactProofSize", fn := fun _ => fun
  | [d] => { results := [.lit (.bool true)], args := [d] }
  | _ => none }
def fnExactProofSizeRow : OpenClaim := { program := "ytkkoeeoalkjhoaa", sum := "3965ee15c64d00acf41aa40fd9400ec9912d4464e5ea94f7ff2ad2b960cac49f", func := "loop.example/g00605/laws.FnExactProofSize", spec := "fnExactProofSize", apart := false }
def FnExactProofSizeSaid : Prop := fnExactProofSizeRow.holds Try.pinned (OpenSpec.ofChange fnExactProofSizeSpec)

/-- ITS FALSE NEIGHBOUR: 'it returns false'. Refute it at one input. -/
def fnExactProofSizeWrong : ChangeSpec := { name := "fnExactProofSize", fn := fun _ => fun
  | [d] => { results := [.lit (.bool false)], args := [d] }
  | _ => none }
def FnExactProofSizeWrongFalsely : Prop := fnExactProofSizeRow.holds Try.pinned (OpenSpec.ofChange fnExactProofSizeWrong)

/- THE SECOND FORM. 'bulk': how many values and letters a reading holds, each counted each time it is reached (what is shared counts as often as it is met; a slice's spare places count too). A statement '..UptoSaid' is the law's where the arguments, and the package variables that the reading takes, are together of bulk at most 1048576: NARROWER than '..Said'. Prove '..Said' where nothing that the law and all that it calls make is longer than what came in: it says more and counts as full. Else prove '..UptoSaid'. A law counts once. -/
mutual
def uptoBulk {H : Type} : DataW H → Nat
  | .lit (.string bytes) => bytes.length + 1
  | .lit _ => 1
  | .nil => 1
  | .ptr d => uptoBulk d + 1
  | .slice elems spare => uptoBulkAll elems + uptoBulkAll spare + 1
  | .agg parts => uptoBulkAll parts + 1
  | .iface _ d => uptoBulk d + 1
  | .map entries => uptoBulkEntries entries + 1
  | .held _ => 1
def uptoBulkAll {H : Type} : List (DataW H) → Nat
  | [] => 0
  | d :: r => uptoBulk d + uptoBulkAll r
def uptoBulkEntries {H : Type} : List (Lit × DataW H) → Nat
  | [] => 0
  | x :: r => uptoBulkEntry x + uptoBulkEntries r
def uptoBulkEntry {H : Type} : Lit × DataW H → Nat
  | (.string bytes, d) => bytes.length + uptoBulk d + 1
  | (_, d) => uptoBulk d + 1
 end
def uptoSmall : (H : Type) → List (DataW H) → Bool := fun _ ds => decide (uptoBulkAll ds ≤ 1048576)
def OpenSpec.upto (s : _root_.Go.ChangeSpec) : _root_.Go.OpenSpec := { _root_.Go.OpenSpec.ofChange s with cond := some uptoSmall }

/-- 'laws.FnProved', WHERE WHAT IT READS IS OF BULK AT MOST 1048576: true; the input reads as it did. -/
def fnProvedUptoRow : OpenClaim := { program := "ytkkoeeoalkjhoaa", sum := "3965ee15c64d00acf41aa40fd9400ec9912d4464e5ea94f7ff2ad2b960cac49f", func := "loop.example/g00605/laws.FnProved", spec := "fnProved", unfollowed := true, recurses := true, apart := false, narrowed := true }
def FnProvedUptoSaid : Prop := fnProvedUptoRow.holds Try.pinned (OpenSpec.upto fnProvedSpec)

/-- 'laws.FnTrimmed', WHERE WHAT IT READS IS OF BULK AT MOST 1048576: true; the input reads as it did. -/
def fnTrimmedUptoRow : OpenClaim := { program := "ytkkoeeoalkjhoaa", sum := "3965ee15c64d00acf41aa40fd9400ec9912d4464e5ea94f7ff2ad2b960cac49f", func := "loop.example/g00605/laws.FnTrimmed", spec := "fnTrimmed", unfollowed := true, recurses := true, apart := false, narrowed := true }
def FnTrimmedUptoSaid : Prop := fnTrimmedUptoRow.holds Try.pinned (OpenSpec.upto fnTrimmedSpec)

/-- 'laws.FnExactIsAtOnce', WHERE WHAT IT READS IS OF BULK AT MOST 1048576: true; the input reads as it did. -/
def fnExactIsAtOnceUptoRow : OpenClaim := { program := "ytkkoeeoalkjhoaa", sum := "3965ee15c64d00acf41aa40fd9400ec9912d4464e5ea94f7ff2ad2b960cac49f", func := "loop.example/g00605/laws.FnExactIsAtOnce", spec := "fnExactIsAtOnce", apart := false, narrowed := true }
def FnExactIsAtOnceUptoSaid : Prop := fnExactIsAtOnceUptoRow.holds Try.pinned (OpenSpec.upto fnExactIsAtOnceSpec)

/-- 'laws.FnExactCheckProof', WHERE WHAT IT READS IS OF BULK AT MOST 1048576: true; the input reads as it did. -/
def fnExactCheckProofUptoRow : OpenClaim := { program := "ytkkoeeoalkjhoaa", sum := "3965ee15c64d00acf41aa40fd9400ec9912d4464e5ea94f7ff2ad2b960cac49f", func := "loop.example/g00605/laws.FnExactCheckProof", spec := "fnExactCheckProof", unfollowed := true, recurses := true, apart := false, narrowed := true }
def FnExactCheckProofUptoSaid : Prop := fnExactCheckProofUptoRow.holds Try.pinned (OpenSpec.upto fnExactCheckProofSpec)

/-- 'laws.FnExactNeededIn', WHERE WHAT IT READS IS OF BULK AT MOST 1048576: true; the input reads as it did. -/
def fnExactNeededInUptoRow : OpenClaim := { program := "ytkkoeeoalkjhoaa", sum := "3965ee15c64d00acf41aa40fd9400ec9912d4464e5ea94f7ff2ad2b960cac49f", func := "loop.example/g00605/laws.FnExactNeededIn", spec := "fnExactNeededIn", unfollowed := true, recurses := true, apart := false, narrowed := true }
def FnExactNeededInUptoSaid : Prop := fnExactNeededInUptoRow.holds Try.pinned (OpenSpec.upto fnExactNeededInSpec)

/-- 'laws.FnExactTrimProof', WHERE WHAT IT READS IS OF BULK AT MOST 1048576: true; the input reads as it did. -/
def fnExactTrimProofUptoRow : OpenClaim := { program := "ytkkoeeoalkjhoaa", sum := "3965ee15c64d00acf41aa40fd9400ec9912d4464e5ea94f7ff2ad2b960cac49f", func := "loop.example/g00605/laws.FnExactTrimProof", spec := "fnExactTrimProof", unfollowed := true, recurses := true, apart := false, narrowed := true }
def FnExactTrimProofUptoSaid : Prop := fnExactTrimProofUptoRow.holds Try.pinned (OpenSpec.upto fnExactTrimProofSpec)

/-- 'laws.FnExactProofOf', WHERE WHAT IT READS IS OF BULK AT MOST 1048576: true; the input reads as it did. -/
def fnExactProofOfUptoRow : OpenClaim := { program := "ytkkoeeoalkjhoaa", sum := "3965ee15c64d00acf41aa40fd9400ec9912d4464e5ea94f7ff2ad2b960cac49f", func := "loop.example/g00605/laws.FnExactProofOf", spec := "fnExactProofOf", apart := false, narrowed := true }
def FnExactProofOfUptoSaid : Prop := fnExactProofOfUptoRow.holds Try.pinned (OpenSpec.upto fnExactProofOfSpec)

/-- 'laws.FnExactRefuteBy', WHERE WHAT IT READS IS OF BULK AT MOST 1048576: true; the input reads as it did. -/
def fnExactRefuteByUptoRow : OpenClaim := { program := "ytkkoeeoalkjhoaa", sum := "3965ee15c64d00acf41aa40fd9400ec9912d4464e5ea94f7ff2ad2b960cac49f", func := "loop.example/g00605/laws.FnExactRefuteBy", spec := "fnExactRefuteBy", unfollowed := true, recurses := true, apart := false, narrowed := true }
def FnExactRefuteByUptoSaid : Prop := fnExactRefuteByUptoRow.holds Try.pinned (OpenSpec.upto fnExactRefuteBySpec)

/-- 'laws.FnExactProofSize', WHERE WHAT IT READS IS OF BULK AT MOST 1048576: true; the input reads as it did. -/
def fnExactProofSizeUptoRow : OpenClaim := { program := "ytkkoeeoalkjhoaa", sum := "3965ee15c64d00acf41aa40fd9400ec9912d4464e5ea94f7ff2ad2b960cac49f", func := "loop.example/g00605/laws.FnExactProofSize", spec := "fnExactProofSize", apart := false, narrowed := true }
def FnExactProofSizeUptoSaid : Prop := fnExactProofSizeUptoRow.holds Try.pinned (OpenSpec.upto fnExactProofSizeSpec)

end Rows
end Go.Proofs.Ytkkoeeoalkjhoaa
