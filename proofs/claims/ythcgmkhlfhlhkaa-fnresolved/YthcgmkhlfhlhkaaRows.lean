/-
  No cell of these rows narrows 'for every input' (looked for: loops, veiled, ifaces, maps, wideKeys, modest, calm, conditions, laid).
  DERIVED. THE GIVEN ROWS OF THIS SEAT. 9 by the template 'for every input the law returns true; each argument reads behind the call as it read before'; 0 by the template 'total and deterministic' (their statements: YthcgmkhlfhlhkaaTotals.lean).
  GIVEN WITH THE SEED: the statements are not yours to turn. If you find one false, say at which input.
  Laid BY PROGRAM, IN A SANDBOX (cutbox-rows.mjs): the forced cells as the released guide's own fill.sh prints them over the translation ef9318d3339093fb… (all of the seat's roots in one cut). By AI agents, Wed Nov 11 2026. No macro, syntax, notation, axiom, sorry.
-/
import Derived.Test.YthcgmkhlfhlhkaaChecked
import GoSem.Claim
import GoSem.ClaimJoined
import GoSem.ClaimMapViews
import Derived.JoinedTies
import Derived.KernelRfl
namespace Go.Proofs.Ythcgmkhlfhlhkaa
/- THE CELL 'sum', in the pinned program and in every row, IS THE sha256 OF THE DUMP (.gsa) THAT YthcgmkhlfhlhkaaProg.lean LOADS. Nothing in Lean hashes anything: it is a label: what it is worth is what the hold of that sum in a sandbox is worth. -/
noncomputable def Try.pinned : Pinned := { name := "ythcgmkhlfhlhkaa", sum := "ef9318d3339093fb13b94df991859a2d3e945de9674fdc37918b33fb5302a40a", checked := Try.checked }
namespace Rows
def none {H : Type} : Left H := { results := [], args := [] }

/-- 'laws.FnAtOnce': WHATEVER THE INPUT: true; the input reads as it did. -/
def fnAtOnceSpec : ChangeSpec := { name := "fnAtOnce", fn := fun _ => fun
  | [d1, d2] => { results := [.lit (.bool true)], args := [d1, d2] }
  | _ => none }
def fnAtOnceRow : OpenClaim := { program := "ythcgmkhlfhlhkaa", sum := "ef9318d3339093fb13b94df991859a2d3e945de9674fdc37918b33fb5302a40a", func := "loop.example/g00605/laws.FnAtOnce", spec := "fnAtOnce", apart := false }
def FnAtOnceSaid : Prop := fnAtOnceRow.holds Try.pinned (OpenSpec.ofChange fnAtOnceSpec)

/-- ITS FALSE NEIGHBOUR: 'it returns false'. Refute it at one input. -/
def fnAtOnceWrong : ChangeSpec := { name := "fnAtOnce", fn := fun _ => fun
  | [d1, d2] => { results := [.lit (.bool false)], args := [d1, d2] }
  | _ => none }
def FnAtOnceWrongFalsely : Prop := fnAtOnceRow.holds Try.pinned (OpenSpec.ofChange fnAtOnceWrong)

/-- 'laws.FnResolved': WHATEVER THE INPUT: true; the input reads as it did. -/
def fnResolvedSpec : ChangeSpec := { name := "fnResolved", fn := fun _ => fun
  | [d1, d2] => { results := [.lit (.bool true)], args := [d1, d2] }
  | _ => none }
def fnResolvedRow : OpenClaim := { program := "ythcgmkhlfhlhkaa", sum := "ef9318d3339093fb13b94df991859a2d3e945de9674fdc37918b33fb5302a40a", func := "loop.example/g00605/laws.FnResolved", spec := "fnResolved", apart := false }
def FnResolvedSaid : Prop := fnResolvedRow.holds Try.pinned (OpenSpec.ofChange fnResolvedSpec)

/-- ITS FALSE NEIGHBOUR: 'it returns false'. Refute it at one input. -/
def fnResolvedWrong : ChangeSpec := { name := "fnResolved", fn := fun _ => fun
  | [d1, d2] => { results := [.lit (.bool false)], args := [d1, d2] }
  | _ => none }
def FnResolvedWrongFalsely : Prop := fnResolvedRow.holds Try.pinned (OpenSpec.ofChange fnResolvedWrong)

/-- 'laws.FnExactGoodClauses': WHATEVER THE INPUT: true; the input reads as it did. -/
def fnExactGoodClausesSpec : ChangeSpec := { name := "fnExactGoodClauses", fn := fun _ => fun
  | [d1, d2] => { results := [.lit (.bool true)], args := [d1, d2] }
  | _ => none }
def fnExactGoodClausesRow : OpenClaim := { program := "ythcgmkhlfhlhkaa", sum := "ef9318d3339093fb13b94df991859a2d3e945de9674fdc37918b33fb5302a40a", func := "loop.example/g00605/laws.FnExactGoodClauses", spec := "fnExactGoodClauses", apart := false }
def FnExactGoodClausesSaid : Prop := fnExactGoodClausesRow.holds Try.pinned (OpenSpec.ofChange fnExactGoodClausesSpec)

/-- ITS FALSE NEIGHBOUR: 'it returns false'. Refute it at one input. -/
def fnExactGoodClausesWrong : ChangeSpec := { name := "fnExactGoodClauses", fn := fun _ => fun
  | [d1, d2] => { results := [.lit (.bool false)], args := [d1, d2] }
  | _ => none }
def FnExactGoodClausesWrongFalsely : Prop := fnExactGoodClausesRow.holds Try.pinned (OpenSpec.ofChange fnExactGoodClausesWrong)

/-- 'laws.FnExactHoldsAll': WHATEVER THE INPUT: true; the input reads as it did. -/
def fnExactHoldsAllSpec : ChangeSpec := { name := "fnExactHoldsAll", fn := fun _ => fun
  | [d1, d2, d3] => { results := [.lit (.bool true)], args := [d1, d2, d3] }
  | _ => none }
def fnExactHoldsAllRow : OpenClaim := { program := "ythcgmkhlfhlhkaa", sum := "ef9318d3339093fb13b94df991859a2d3e945de9674fdc37918b33fb5302a40a", func := "loop.example/g00605/laws.FnExactHoldsAll", spec := "fnExactHoldsAll", apart := false }
def FnExactHoldsAllSaid : Prop := fnExactHoldsAllRow.holds Try.pinned (OpenSpec.ofChange fnExactHoldsAllSpec)

/-- ITS FALSE NEIGHBOUR: 'it returns false'. Refute it at one input. -/
def fnExactHoldsAllWrong : ChangeSpec := { name := "fnExactHoldsAll", fn := fun _ => fun
  | [d1, d2, d3] => { results := [.lit (.bool false)], args := [d1, d2, d3] }
  | _ => none }
def FnExactHoldsAllWrongFalsely : Prop := fnExactHoldsAllRow.holds Try.pinned (OpenSpec.ofChange fnExactHoldsAllWrong)

/-- 'laws.FnExactPropagate': WHATEVER THE INPUT: true; the input reads as it did. -/
def fnExactPropagateSpec : ChangeSpec := { name := "fnExactPropagate", fn := fun _ => fun
  | [d1, d2, d3] => { results := [.lit (.bool true)], args := [d1, d2, d3] }
  | _ => none }
def fnExactPropagateRow : OpenClaim := { program := "ythcgmkhlfhlhkaa", sum := "ef9318d3339093fb13b94df991859a2d3e945de9674fdc37918b33fb5302a40a", func := "loop.example/g00605/laws.FnExactPropagate", spec := "fnExactPropagate", apart := false }
def FnExactPropagateSaid : Prop := fnExactPropagateRow.holds Try.pinned (OpenSpec.ofChange fnExactPropagateSpec)

/-- ITS FALSE NEIGHBOUR: 'it returns false'. Refute it at one input. -/
def fnExactPropagateWrong : ChangeSpec := { name := "fnExactPropagate", fn := fun _ => fun
  | [d1, d2, d3] => { results := [.lit (.bool false)], args := [d1, d2, d3] }
  | _ => none }
def FnExactPropagateWrongFalsely : Prop := fnExactPropagateRow.holds Try.pinned (OpenSpec.ofChange fnExactPropagateWrong)

/-- 'laws.FnExactResolve': WHATEVER THE INPUT: true; the input reads as it did. -/
def fnExactResolveSpec : ChangeSpec := { name := "fnExactResolve", fn := fun _ => fun
  | [d1, d2, d3] => { results := [.lit (.bool true)], args := [d1, d2, d3] }
  | _ => none }
def fnExactResolveRow : OpenClaim := { program := "ythcgmkhlfhlhkaa", sum := "ef9318d3339093fb13b94df991859a2d3e945de9674fdc37918b33fb5302a40a", func := "loop.example/g00605/laws.FnExactResolve", spec := "fnExactResolve", apart := false }
def FnExactResolveSaid : Prop := fnExactResolveRow.holds Try.pinned (OpenSpec.ofChange fnExactResolveSpec)

/-- ITS FALSE NEIGHBOUR: 'it returns false'. Refute it at one input. -/
def fnExactResolveWrong : ChangeSpec := { name := "fnExactResolve", fn := fun _ => fun
  | [d1, d2, d3] => { results := [.lit (.bool false)], args := [d1, d2, d3] }
  | _ => none }
def FnExactResolveWrongFalsely : Prop := fnExactResolveRow.holds Try.pinned (OpenSpec.ofChange fnExactResolveWrong)

/-- 'laws.FnExactCleanClause': WHATEVER THE INPUT: true; the input reads as it did. -/
def fnExactCleanClauseSpec : ChangeSpec := { name := "fnExactCleanClause", fn := fun _ => fun
  | [d] => { results := [.lit (.bool true)], args := [d] }
  | _ => none }
def fnExactCleanClauseRow : OpenClaim := { program := "ythcgmkhlfhlhkaa", sum := "ef9318d3339093fb13b94df991859a2d3e945de9674fdc37918b33fb5302a40a", func := "loop.example/g00605/laws.FnExactCleanClause", spec := "fnExactCleanClause", apart := false }
def FnExactCleanClauseSaid : Prop := fnExactCleanClauseRow.holds Try.pinned (OpenSpec.ofChange fnExactCleanClauseSpec)

/-- ITS FALSE NEIGHBOUR: 'it returns false'. Refute it at one input. -/
def fnExactCleanClauseWrong : ChangeSpec := { name := "fnExactCleanClause", fn := fun _ => fun
  | [d] => { results := [.lit (.bool false)], args := [d] }
  | _ => none }
def FnExactCleanClauseWrongFalsely : Prop := fnExactCleanClauseRow.holds Try.pinned (OpenSpec.ofChange fnExactCleanClauseWrong)

/-- 'laws.FnExactCountModels': WHATEVER THE INPUT: true; the input reads as it did. -/
def fnExactCountModelsSpec : ChangeSpec := { name := "fnExactCountModels", fn := fun _ => fun
  | [d1, d2] => { results := [.lit (.bool true)], args := [d1, d2] }
  | _ => none }
def fnExactCountModelsRow : OpenClaim := { program := "ythcgmkhlfhlhkaa", sum := "ef9318d3339093fb13b94df991859a2d3e945de9674fdc37918b33fb5302a40a", func := "loop.example/g00605/laws.FnExactCountModels", spec := "fnExactCountModels", apart := false }
def FnExactCountModelsSaid : Prop := fnExactCountModelsRow.holds Try.pinned (OpenSpec.ofChange fnExactCountModelsSpec)

/-- ITS FALSE NEIGHBOUR: 'it returns false'. Refute it at one input. -/
def fnExactCountModelsWrong : ChangeSpec := { name := "fnExactCountModels", fn := fun _ => fun
  | [d1, d2] => { results := [.lit (.bool false)], args := [d1, d2] }
  | _ => none }
def FnExactCountModelsWrongFalsely : Prop := fnExactCountModelsRow.holds Try.pinned (OpenSpec.ofChange fnExactCountModelsWrong)

/-- 'laws.FnExactReduce': WHATEVER THE INPUT: true; the input reads as it did. -/
def fnExactReduceSpec : ChangeSpec := { name := "fnExactReduce", fn := fun _ => fun
  | [d1, d2, d3] => { results := [.lit (.bool true)], args := [d1, d2, d3] }
  | _ => none }
def fnExactReduceRow : OpenClaim := { program := "ythcgmkhlfhlhkaa", sum := "ef9318d3339093fb13b94df991859a2d3e945de9674fdc37918b33fb5302a40a", func := "loop.example/g00605/laws.FnExactReduce", spec := "fnExactReduce", apart := false }
def FnExactReduceSaid : Prop := fnExactReduceRow.holds Try.pinned (OpenSpec.ofChange fnExactReduceSpec)

/-- ITS FALSE NEIGHBOUR: 'it returns false'. Refute it at one input. -/
def fnExactReduceWrong : ChangeSpec := { name := "fnExactReduce", fn := fun _ => fun
  | [d1, d2, d3] => { results := [.lit (.bool false)], args := [d1, d2, d3] }
  | _ => none }
def FnExactReduceWrongFalsely : Prop := fnExactReduceRow.holds Try.pinned (OpenSpec.ofChange fnExactReduceWrong)

/- THE SECOND FORM. 'bulk': how many values and letters a reading holds, each counted each time it is reached (what is shared counts as often as it is met; a slice's spare places count too). A statement '..UptoSaid' is the law's where the arguments, and the package variables that the reading takes, are together of bulk at most 1048576: NARROWER than '..Said'. Prove '..Said' where nothing that the law and all that it calls make is longer than what came in: it says more and counts as full. Else prove '..UptoSaid'. A law counts once. -/
mutual
def uptoBulk {H : Type} : DataW H → Nat
  | .lit (.string bytes) => bytes.length + 1
  | .lit _ => 1
  | .nil => 1
  | .ptr d => uptoBulk d + 1
  | .slice elems spare => uptoBulkAll elems + uptoBulkAll spare + 1
  | .agg parts => uptoBulkAll parts + 1
  | .iface _ d => uptoBulk d + 1
  | .map entries => uptoBulkEntries entries + 1
  | .held _ => 1
def uptoBulkAll {H : Type} : List (DataW H) → Nat
  | [] => 0
  | d :: r => uptoBulk d + uptoBulkAll r
def uptoBulkEntries {H : Type} : List (Lit × DataW H) → Nat
  | [] => 0
  | x :: r => uptoBulkEntry x + uptoBulkEntries r
def uptoBulkEntry {H : Type} : Lit × DataW H → Nat
  | (.string bytes, d) => bytes.length + uptoBulk d + 1
  | (_, d) => uptoBulk d + 1
 end
def uptoSmall : (H : Type) → List (DataW H) → Bool := fun _ ds => decide (uptoBulkAll ds ≤ 1048576)
def OpenSpec.upto (s : _root_.Go.ChangeSpec) : _root_.Go.OpenSpec := { _root_.Go.OpenSpec.ofChange s with cond := some uptoSmall }

/-- 'laws.FnAtOnce', WHERE WHAT IT READS IS OF BULK AT MOST 1048576: true; the input reads as it did. -/
def fnAtOnceUptoRow : OpenClaim := { program := "ythcgmkhlfhlhkaa", sum := "ef9318d3339093fb13b94df991859a2d3e945de9674fdc37918b33fb5302a40a", func := "loop.example/g00605/laws.FnAtOnce", spec := "fnAtOnce", apart := false, narrowed := true }
def FnAtOnceUptoSaid : Prop := fnAtOnceUptoRow.holds Try.pinned (OpenSpec.upto fnAtOnceSpec)

/-- 'laws.FnResolved', WHERE WHAT IT READS IS OF BULK AT MOST 1048576: true; the input reads as it did. -/
def fnResolvedUptoRow : OpenClaim := { program := "ythcgmkhlfhlhkaa", sum := "ef9318d3339093fb13b94df991859a2d3e945de9674fdc37918b33fb5302a40a", func := "loop.example/g00605/laws.FnResolved", spec := "fnResolved", apart := false, narrowed := true }
def FnResolvedUptoSaid : Prop := fnResolvedUptoRow.holds Try.pinned (OpenSpec.upto fnResolvedSpec)

/-- 'laws.FnExactGoodClauses', WHERE WHAT IT READS IS OF BULK AT MOST 1048576: true; the input reads as it did. -/
def fnExactGoodClausesUptoRow : OpenClaim := { program := "ythcgmkhlfhlhkaa", sum := "ef9318d3339093fb13b94df991859a2d3e945de9674fdc37918b33fb5302a40a", func := "loop.example/g00605/laws.FnExactGoodClauses", spec := "fnExactGoodClauses", apart := false, narrowed := true }
def FnExactGoodClausesUptoSaid : Prop := fnExactGoodClausesUptoRow.holds Try.pinned (OpenSpec.upto fnExactGoodClausesSpec)

/-- 'laws.FnExactHoldsAll', WHERE WHAT IT READS IS OF BULK AT MOST 1048576: true; the input reads as it did. -/
def fnExactHoldsAllUptoRow : OpenClaim := { program := "ythcgmkhlfhlhkaa", sum := "ef9318d3339093fb13b94df991859a2d3e945de9674fdc37918b33fb5302a40a", func := "loop.example/g00605/laws.FnExactHoldsAll", spec := "fnExactHoldsAll", apart := false, narrowed := true }
def FnExactHoldsAllUptoSaid : Prop := fnExactHoldsAllUptoRow.holds Try.pinned (OpenSpec.upto fnExactHoldsAllSpec)

/-- 'laws.FnExactPropagate', WHERE WHAT IT READS IS OF BULK AT MOST 1048576: true; the input reads as it did. -/
def fnExactPropagateUptoRow : OpenClaim := { program := "ythcgmkhlfhlhkaa", sum := "ef9318d3339093fb13b94df991859a2d3e945de9674fdc37918b33fb5302a40a", func := "loop.example/g00605/laws.FnExactPropagate", spec := "fnExactPropagate", apart := false, narrowed := true }
def FnExactPropagateUptoSaid : Prop := fnExactPropagateUptoRow.holds Try.pinned (OpenSpec.upto fnExactPropagateSpec)

/-- 'laws.FnExactResolve', WHERE WHAT IT READS IS OF BULK AT MOST 1048576: true; the input reads as it did. -/
def fnExactResolveUptoRow : OpenClaim := { program := "ythcgmkhlfhlhkaa", sum := "ef9318d3339093fb13b94df991859a2d3e945de9674fdc37918b33fb5302a40a", func := "loop.example/g00605/laws.FnExactResolve", spec := "fnExactResolve", apart := false, narrowed := true }
def FnExactResolveUptoSaid : Prop := fnExactResolveUptoRow.holds Try.pinned (OpenSpec.upto fnExactResolveSpec)

/-- 'laws.FnExactCleanClause', WHERE WHAT IT READS IS OF BULK AT MOST 1048576: true; the input reads as it did. -/
def fnExactCleanClauseUptoRow : OpenClaim := { program := "ythcgmkhlfhlhkaa", sum := "ef9318d3339093fb13b94df991859a2d3e945de9674fdc37918b33fb5302a40a", func := "loop.example/g00605/laws.FnExactCleanClause", spec := "fnExactCleanClause", apart := false, narrowed := true }
def FnExactCleanClauseUptoSaid : Prop := fnExactCleanClauseUptoRow.holds Try.pinned (OpenSpec.upto fnExactCleanClauseSpec)

/-- 'laws.FnExactCountModels', WHERE WHAT IT READS IS OF BULK AT MOST 1048576: true; the input reads as it did. -/
def fnExactCountModelsUptoRow : OpenClaim := { program := "ythcgmkhlfhlhkaa", sum := "ef9318d3339093fb13b94df991859a2d3e945de9674fdc37918b33fb5302a40a", func := "loop.example/g00605/laws.FnExactCountModels", spec := "fnExactCountModels", apart := false, narrowed := true }
def FnExactCountModelsUptoSaid : Prop := fnExactCountModelsUptoRow.holds Try.pinned (OpenSpec.upto fnExactCountModelsSpec)

/-- 'laws.FnExactReduce', WHERE WHAT IT READS IS OF BULK AT MOST 1048576: true; the input reads as it did. -/
def fnExactReduceUptoRow : OpenClaim := { program := "ythcgmkhlfhlhkaa", sum := "ef9318d3339093fb13b94df991859a2d3e945de9674fdc37918b33fb5302a40a", func := "loop.example/g00605/laws.FnExactReduce", spec := "fnExactReduce", apart := false, narrowed := true }
def FnExactReduceUptoSaid : Prop := fnExactReduceUptoRow.holds Try.pinned (OpenSpec.upto fnExactReduceSpec)

end Rows
end Go.Proofs.Ythcgmkhlfhlhkaa
