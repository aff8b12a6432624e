/-
  No cell of these rows narrows 'for every input' (looked for: loops, veiled, ifaces, maps, wideKeys, modest, calm, conditions, laid).
  DERIVED. THE GIVEN ROWS OF THIS SEAT. 9 by the template 'for every input the law returns true; each argument reads behind the call as it read before'; 0 by the template 'total and deterministic' (their statements: YtehedomjfpipkaaTotals.lean).
  GIVEN WITH THE SEED: the statements are not yours to turn. If you find one false, say at which input.
  Laid BY PROGRAM, IN A SANDBOX (cutbox-rows.mjs): the forced cells as the released guide's own fill.sh prints them over the translation 90a8b2fec98b9f29… (all of the seat's roots in one cut). By AI agents, Wed Nov 11 2026. No macro, syntax, notation, axiom, sorry.
-/
import Derived.Test.YtehedomjfpipkaaChecked
import GoSem.Claim
import GoSem.ClaimJoined
import GoSem.ClaimMapViews
import Derived.JoinedTies
import Derived.KernelRfl
namespace Go.Proofs.Ytehedomjfpipkaa
/- THE CELL 'sum', in the pinned program and in every row, IS THE sha256 OF THE DUMP (.gsa) THAT YtehedomjfpipkaaProg.lean LOADS. Nothing in Lean hashes anything: it is a label: what it is worth is what the hold of that sum in a sandbox is worth. -/
noncomputable def Try.pinned : Pinned := { name := "ytehedomjfpipkaa", sum := "90a8b2fec98b9f2970f3d13df9ebbbd096383f5be9695a4da2a59ba6cef34d24", checked := Try.checked }
namespace Rows
def none {H : Type} : Left H := { results := [], args := [] }

/-- 'laws.FnSolved': WHATEVER THE INPUT: true; the input reads as it did. -/
def fnSolvedSpec : ChangeSpec := { name := "fnSolved", fn := fun _ => fun
  | [d1, d2] => { results := [.lit (.bool true)], args := [d1, d2] }
  | _ => none }
def fnSolvedRow : OpenClaim := { program := "ytehedomjfpipkaa", sum := "90a8b2fec98b9f2970f3d13df9ebbbd096383f5be9695a4da2a59ba6cef34d24", func := "loop.example/g00605/laws.FnSolved", spec := "fnSolved", apart := false }
def FnSolvedSaid : Prop := fnSolvedRow.holds Try.pinned (OpenSpec.ofChange fnSolvedSpec)

/-- ITS FALSE NEIGHBOUR: 'it returns false'. Refute it at one input. -/
def fnSolvedWrong : ChangeSpec := { name := "fnSolved", fn := fun _ => fun
  | [d1, d2] => { results := [.lit (.bool false)], args := [d1, d2] }
  | _ => none }
def FnSolvedWrongFalsely : Prop := fnSolvedRow.holds Try.pinned (OpenSpec.ofChange fnSolvedWrong)

/-- 'laws.FnFollows': WHATEVER THE INPUT: true; the input reads as it did. -/
def fnFollowsSpec : ChangeSpec := { name := "fnFollows", fn := fun _ => fun
  | [d1, d2] => { results := [.lit (.bool true)], args := [d1, d2] }
  | _ => none }
def fnFollowsRow : OpenClaim := { program := "ytehedomjfpipkaa", sum := "90a8b2fec98b9f2970f3d13df9ebbbd096383f5be9695a4da2a59ba6cef34d24", func := "loop.example/g00605/laws.FnFollows", spec := "fnFollows", apart := false }
def FnFollowsSaid : Prop := fnFollowsRow.holds Try.pinned (OpenSpec.ofChange fnFollowsSpec)

/-- ITS FALSE NEIGHBOUR: 'it returns false'. Refute it at one input. -/
def fnFollowsWrong : ChangeSpec := { name := "fnFollows", fn := fun _ => fun
  | [d1, d2] => { results := [.lit (.bool false)], args := [d1, d2] }
  | _ => none }
def FnFollowsWrongFalsely : Prop := fnFollowsRow.holds Try.pinned (OpenSpec.ofChange fnFollowsWrong)

/-- 'laws.FnExactSolve': WHATEVER THE INPUT: true; the input reads as it did. -/
def fnExactSolveSpec : ChangeSpec := { name := "fnExactSolve", fn := fun _ => fun
  | [d1, d2] => { results := [.lit (.bool true)], args := [d1, d2] }
  | _ => none }
def fnExactSolveRow : OpenClaim := { program := "ytehedomjfpipkaa", sum := "90a8b2fec98b9f2970f3d13df9ebbbd096383f5be9695a4da2a59ba6cef34d24", func := "loop.example/g00605/laws.FnExactSolve", spec := "fnExactSolve", apart := false }
def FnExactSolveSaid : Prop := fnExactSolveRow.holds Try.pinned (OpenSpec.ofChange fnExactSolveSpec)

/-- ITS FALSE NEIGHBOUR: 'it returns false'. Refute it at one input. -/
def fnExactSolveWrong : ChangeSpec := { name := "fnExactSolve", fn := fun _ => fun
  | [d1, d2] => { results := [.lit (.bool false)], args := [d1, d2] }
  | _ => none }
def FnExactSolveWrongFalsely : Prop := fnExactSolveRow.holds Try.pinned (OpenSpec.ofChange fnExactSolveWrong)

/-- 'laws.FnExactDecideFrom': WHATEVER THE INPUT: true; the input reads as it did. -/
def fnExactDecideFromSpec : ChangeSpec := { name := "fnExactDecideFrom", fn := fun _ => fun
  | [d1, d2, d3] => { results := [.lit (.bool true)], args := [d1, d2, d3] }
  | _ => none }
def fnExactDecideFromRow : OpenClaim := { program := "ytehedomjfpipkaa", sum := "90a8b2fec98b9f2970f3d13df9ebbbd096383f5be9695a4da2a59ba6cef34d24", func := "loop.example/g00605/laws.FnExactDecideFrom", spec := "fnExactDecideFrom", apart := false }
def FnExactDecideFromSaid : Prop := fnExactDecideFromRow.holds Try.pinned (OpenSpec.ofChange fnExactDecideFromSpec)

/-- ITS FALSE NEIGHBOUR: 'it returns false'. Refute it at one input. -/
def fnExactDecideFromWrong : ChangeSpec := { name := "fnExactDecideFrom", fn := fun _ => fun
  | [d1, d2, d3] => { results := [.lit (.bool false)], args := [d1, d2, d3] }
  | _ => none }
def FnExactDecideFromWrongFalsely : Prop := fnExactDecideFromRow.holds Try.pinned (OpenSpec.ofChange fnExactDecideFromWrong)

/-- 'laws.FnExactLearnFrom': WHATEVER THE INPUT: true; the input reads as it did. -/
def fnExactLearnFromSpec : ChangeSpec := { name := "fnExactLearnFrom", fn := fun _ => fun
  | [d] => { results := [.lit (.bool true)], args := [d] }
  | _ => none }
def fnExactLearnFromRow : OpenClaim := { program := "ytehedomjfpipkaa", sum := "90a8b2fec98b9f2970f3d13df9ebbbd096383f5be9695a4da2a59ba6cef34d24", func := "loop.example/g00605/laws.FnExactLearnFrom", spec := "fnExactLearnFrom", apart := false }
def FnExactLearnFromSaid : Prop := fnExactLearnFromRow.holds Try.pinned (OpenSpec.ofChange fnExactLearnFromSpec)

/-- ITS FALSE NEIGHBOUR: 'it returns false'. Refute it at one input. -/
def fnExactLearnFromWrong : ChangeSpec := { name := "fnExactLearnFrom", fn := fun _ => fun
  | [d] => { results := [.lit (.bool false)], args := [d] }
  | _ => none }
def FnExactLearnFromWrongFalsely : Prop := fnExactLearnFromRow.holds Try.pinned (OpenSpec.ofChange fnExactLearnFromWrong)

/-- 'laws.FnExactSolveWith': WHATEVER THE INPUT: true; the input reads as it did. -/
def fnExactSolveWithSpec : ChangeSpec := { name := "fnExactSolveWith", fn := fun _ => fun
  | [d1, d2, d3] => { results := [.lit (.bool true)], args := [d1, d2, d3] }
  | _ => none }
def fnExactSolveWithRow : OpenClaim := { program := "ytehedomjfpipkaa", sum := "90a8b2fec98b9f2970f3d13df9ebbbd096383f5be9695a4da2a59ba6cef34d24", func := "loop.example/g00605/laws.FnExactSolveWith", spec := "fnExactSolveWith", apart := false }
def FnExactSolveWithSaid : Prop := fnExactSolveWithRow.holds Try.pinned (OpenSpec.ofChange fnExactSolveWithSpec)

/-- ITS FALSE NEIGHBOUR: 'it returns false'. Refute it at one input. -/
def fnExactSolveWithWrong : ChangeSpec := { name := "fnExactSolveWith", fn := fun _ => fun
  | [d1, d2, d3] => { results := [.lit (.bool false)], args := [d1, d2, d3] }
  | _ => none }
def FnExactSolveWithWrongFalsely : Prop := fnExactSolveWithRow.holds Try.pinned (OpenSpec.ofChange fnExactSolveWithWrong)

/-- 'laws.FnExactFollowsFrom': WHATEVER THE INPUT: true; the input reads as it did. -/
def fnExactFollowsFromSpec : ChangeSpec := { name := "fnExactFollowsFrom", fn := fun _ => fun
  | [d1, d2, d3] => { results := [.lit (.bool true)], args := [d1, d2, d3] }
  | _ => none }
def fnExactFollowsFromRow : OpenClaim := { program := "ytehedomjfpipkaa", sum := "90a8b2fec98b9f2970f3d13df9ebbbd096383f5be9695a4da2a59ba6cef34d24", func := "loop.example/g00605/laws.FnExactFollowsFrom", spec := "fnExactFollowsFrom", apart := false }
def FnExactFollowsFromSaid : Prop := fnExactFollowsFromRow.holds Try.pinned (OpenSpec.ofChange fnExactFollowsFromSpec)

/-- ITS FALSE NEIGHBOUR: 'it returns false'. Refute it at one input. -/
def fnExactFollowsFromWrong : ChangeSpec := { name := "fnExactFollowsFrom", fn := fun _ => fun
  | [d1, d2, d3] => { results := [.lit (.bool false)], args := [d1, d2, d3] }
  | _ => none }
def FnExactFollowsFromWrongFalsely : Prop := fnExactFollowsFromRow.holds Try.pinned (OpenSpec.ofChange fnExactFollowsFromWrong)

/-- 'laws.FnExactPureIn': WHATEVER THE INPUT: true; the input reads as it did. -/
def fnExactPureInSpec : ChangeSpec := { name := "fnExactPureIn", fn := fun _ => fun
  | [d1, d2] => { results := [.lit (.bool true)], args := [d1, d2] }
  | _ => none }
def fnExactPureInRow : OpenClaim := { program := "ytehedomjfpipkaa", sum := "90a8b2fec98b9f2970f3d13df9ebbbd096383f5be9695a4da2a59ba6cef34d24", func := "loop.example/g00605/laws.FnExactPureIn", spec := "fnExactPureIn", apart := false }
def FnExactPureInSaid : Prop := fnExactPureInRow.holds Try.pinned (OpenSpec.ofChange fnExactPureInSpec)

/-- ITS FALSE NEIGHBOUR: 'it returns false'. Refute it at one input. -/
def fnExactPureInWrong : ChangeSpec := { name := "fnExactPureIn", fn := fun _ => fun
  | [d1, d2] => { results := [.lit (.bool false)], args := [d1, d2] }
  | _ => none }
def FnExactPureInWrongFalsely : Prop := fnExactPureInRow.holds Try.pinned (OpenSpec.ofChange fnExactPureInWrong)

/-- 'laws.FnExactSameModels': WHATEVER THE INPUT: true; the input reads as it did. -/
def fnExactSameModelsSpec : ChangeSpec := { name := "fnExactSameModels", fn := fun _ => fun
  | [d1, d2, d3] => { results := [.lit (.bool true)], args := [d1, d2, d3] }
  | _ => none }
def fnExactSameModelsRow : OpenClaim := { program := "ytehedomjfpipkaa", sum := "90a8b2fec98b9f2970f3d13df9ebbbd096383f5be9695a4da2a59ba6cef34d24", func := "loop.example/g00605/laws.FnExactSameModels", spec := "fnExactSameModels", apart := false }
def FnExactSameModelsSaid : Prop := fnExactSameModelsRow.holds Try.pinned (OpenSpec.ofChange fnExactSameModelsSpec)

/-- ITS FALSE NEIGHBOUR: 'it returns false'. Refute it at one input. -/
def fnExactSameModelsWrong : ChangeSpec := { name := "fnExactSameModels", fn := fun _ => fun
  | [d1, d2, d3] => { results := [.lit (.bool false)], args := [d1, d2, d3] }
  | _ => none }
def FnExactSameModelsWrongFalsely : Prop := fnExactSameModelsRow.holds Try.pinned (OpenSpec.ofChange fnExactSameModelsWrong)

/- THE SECOND FORM. 'bulk': how many values and letters a reading holds, each counted each time it is reached (what is shared counts as often as it is met; a slice's spare places count too). A statement '..UptoSaid' is the law's where the arguments, and the package variables that the reading takes, are together of bulk at most 1048576: NARROWER than '..Said'. Prove '..Said' where nothing that the law and all that it calls make is longer than what came in: it says more and counts as full. Else prove '..UptoSaid'. A law counts once. -/
mutual
def uptoBulk {H : Type} : DataW H → Nat
  | .lit (.string bytes) => bytes.length + 1
  | .lit _ => 1
  | .nil => 1
  | .ptr d => uptoBulk d + 1
  | .slice elems spare => uptoBulkAll elems + uptoBulkAll spare + 1
  | .agg parts => uptoBulkAll parts + 1
  | .iface _ d => uptoBulk d + 1
  | .map entries => uptoBulkEntries entries + 1
  | .held _ => 1
def uptoBulkAll {H : Type} : List (DataW H) → Nat
  | [] => 0
  | d :: r => uptoBulk d + uptoBulkAll r
def uptoBulkEntries {H : Type} : List (Lit × DataW H) → Nat
  | [] => 0
  | x :: r => uptoBulkEntry x + uptoBulkEntries r
def uptoBulkEntry {H : Type} : Lit × DataW H → Nat
  | (.string bytes, d) => bytes.length + uptoBulk d + 1
  | (_, d) => uptoBulk d + 1
 end
def uptoSmall : (H : Type) → List (DataW H) → Bool := fun _ ds => decide (uptoBulkAll ds ≤ 1048576)
def OpenSpec.upto (s : _root_.Go.ChangeSpec) : _root_.Go.OpenSpec := { _root_.Go.OpenSpec.ofChange s with cond := some uptoSmall }

/-- 'laws.FnSolved', WHERE WHAT IT READS IS OF BULK AT MOST 1048576: true; the input reads as it did. -/
def fnSolvedUptoRow : OpenClaim := { program := "ytehedomjfpipkaa", sum := "90a8b2fec98b9f2970f3d13df9ebbbd096383f5be9695a4da2a59ba6cef34d24", func := "loop.example/g00605/laws.FnSolved", spec := "fnSolved", apart := false, narrowed := true }
def FnSolvedUptoSaid : Prop := fnSolvedUptoRow.holds Try.pinned (OpenSpec.upto fnSolvedSpec)

/-- 'laws.FnFollows', WHERE WHAT IT READS IS OF BULK AT MOST 1048576: true; the input reads as it did. -/
def fnFollowsUptoRow : OpenClaim := { program := "ytehedomjfpipkaa", sum := "90a8b2fec98b9f2970f3d13df9ebbbd096383f5be9695a4da2a59ba6cef34d24", func := "loop.example/g00605/laws.FnFollows", spec := "fnFollows", apart := false, narrowed := true }
def FnFollowsUptoSaid : Prop := fnFollowsUptoRow.holds Try.pinned (OpenSpec.upto fnFollowsSpec)

/-- 'laws.FnExactSolve', WHERE WHAT IT READS IS OF BULK AT MOST 1048576: true; the input reads as it did. -/
def fnExactSolveUptoRow : OpenClaim := { program := "ytehedomjfpipkaa", sum := "90a8b2fec98b9f2970f3d13df9ebbbd096383f5be9695a4da2a59ba6cef34d24", func := "loop.example/g00605/laws.FnExactSolve", spec := "fnExactSolve", apart := false, narrowed := true }
def FnExactSolveUptoSaid : Prop := fnExactSolveUptoRow.holds Try.pinned (OpenSpec.upto fnExactSolveSpec)

/-- 'laws.FnExactDecideFrom', WHERE WHAT IT READS IS OF BULK AT MOST 1048576: true; the input reads as it did. -/
def fnExactDecideFromUptoRow : OpenClaim := { program := "ytehedomjfpipkaa", sum := "90a8b2fec98b9f2970f3d13df9ebbbd096383f5be9695a4da2a59ba6cef34d24", func := "loop.example/g00605/laws.FnExactDecideFrom", spec := "fnExactDecideFrom", apart := false, narrowed := true }
def FnExactDecideFromUptoSaid : Prop := fnExactDecideFromUptoRow.holds Try.pinned (OpenSpec.upto fnExactDecideFromSpec)

/-- 'laws.FnExactLearnFrom', WHERE WHAT IT READS IS OF BULK AT MOST 1048576: true; the input reads as it did. -/
def fnExactLearnFromUptoRow : OpenClaim := { program := "ytehedomjfpipkaa", sum := "90a8b2fec98b9f2970f3d13df9ebbbd096383f5be9695a4da2a59ba6cef34d24", func := "loop.example/g00605/laws.FnExactLearnFrom", spec := "fnExactLearnFrom", apart := false, narrowed := true }
def FnExactLearnFromUptoSaid : Prop := fnExactLearnFromUptoRow.holds Try.pinned (OpenSpec.upto fnExactLearnFromSpec)

/-- 'laws.FnExactSolveWith', WHERE WHAT IT READS IS OF BULK AT MOST 1048576: true; the input reads as it did. -/
def fnExactSolveWithUptoRow : OpenClaim := { program := "ytehedomjfpipkaa", sum := "90a8b2fec98b9f2970f3d13df9ebbbd096383f5be9695a4da2a59ba6cef34d24", func := "loop.example/g00605/laws.FnExactSolveWith", spec := "fnExactSolveWith", apart := false, narrowed := true }
def FnExactSolveWithUptoSaid : Prop := fnExactSolveWithUptoRow.holds Try.pinned (OpenSpec.upto fnExactSolveWithSpec)

/-- 'laws.FnExactFollowsFrom', WHERE WHAT IT READS IS OF BULK AT MOST 1048576: true; the input reads as it did. -/
def fnExactFollowsFromUptoRow : OpenClaim := { program := "ytehedomjfpipkaa", sum := "90a8b2fec98b9f2970f3d13df9ebbbd096383f5be9695a4da2a59ba6cef34d24", func := "loop.example/g00605/laws.FnExactFollowsFrom", spec := "fnExactFollowsFrom", apart := false, narrowed := true }
def FnExactFollowsFromUptoSaid : Prop := fnExactFollowsFromUptoRow.holds Try.pinned (OpenSpec.upto fnExactFollowsFromSpec)

/-- 'laws.FnExactPureIn', WHERE WHAT IT READS IS OF BULK AT MOST 1048576: true; the input reads as it did. -/
def fnExactPureInUptoRow : OpenClaim := { program := "ytehedomjfpipkaa", sum := "90a8b2fec98b9f2970f3d13df9ebbbd096383f5be9695a4da2a59ba6cef34d24", func := "loop.example/g00605/laws.FnExactPureIn", spec := "fnExactPureIn", apart := false, narrowed := true }
def FnExactPureInUptoSaid : Prop := fnExactPureInUptoRow.holds Try.pinned (OpenSpec.upto fnExactPureInSpec)

/-- 'laws.FnExactSameModels', WHERE WHAT IT READS IS OF BULK AT MOST 1048576: true; the input reads as it did. -/
def fnExactSameModelsUptoRow : OpenClaim := { program := "ytehedomjfpipkaa", sum := "90a8b2fec98b9f2970f3d13df9ebbbd096383f5be9695a4da2a59ba6cef34d24", func := "loop.example/g00605/laws.FnExactSameModels", spec := "fnExactSameModels", apart := false, narrowed := true }
def FnExactSameModelsUptoSaid : Prop := fnExactSameModelsUptoRow.holds Try.pinned (OpenSpec.upto fnExactSameModelsSpec)

end Rows
end Go.Proofs.Ytehedomjfpipkaa
