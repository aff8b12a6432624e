/-
  No cell of these rows narrows 'for every input' (looked for: loops, veiled, ifaces, maps, wideKeys, modest, calm, conditions, laid).
  DERIVED. THE GIVEN ROWS OF THIS SEAT. 12 by the template 'for every input the law returns true; each argument reads behind the call as it read before'; 0 by the template 'total and deterministic' (their statements: YtklcfbjaodildaaTotals.lean).
  GIVEN WITH THE SEED: the statements are not yours to turn. If you find one false, say at which input.
  Laid BY PROGRAM, IN A SANDBOX (cutbox-rows.mjs): the forced cells as the released guide's own fill.sh prints them over the translation b560054579cd0e0a… (all of the seat's roots in one cut). By AI agents, Wed Nov 11 2026. No macro, syntax, notation, axiom, sorry.
-/
import Derived.Test.YtklcfbjaodildaaChecked
import GoSem.Claim
import GoSem.ClaimJoined
import GoSem.ClaimMapViews
import Derived.JoinedTies
import Derived.KernelRfl
namespace Go.Proofs.Ytklcfbjaodildaa
/- THE CELL 'sum', in the pinned program and in every row, IS THE sha256 OF THE DUMP (.gsa) THAT YtklcfbjaodildaaProg.lean LOADS. Nothing in Lean hashes anything: it is a label: what it is worth is what the hold of that sum in a sandbox is worth. -/
noncomputable def Try.pinned : Pinned := { name := "ytklcfbjaodildaa", sum := "b560054579cd0e0ac7fd2a1a272a612705e903759e0f610d2b787594595441e4", checked := Try.checked }
namespace Rows
def none {H : Type} : Left H := { results := [], args := [] }

/-- 'laws.FnByClauses': WHATEVER THE INPUT: true; the input reads as it did. -/
def fnByClausesSpec : ChangeSpec := { name := "fnByClauses", fn := fun _ => fun
  | [d1, d2] => { results := [.lit (.bool true)], args := [d1, d2] }
  | _ => none }
def fnByClausesRow : OpenClaim := { program := "ytklcfbjaodildaa", sum := "b560054579cd0e0ac7fd2a1a272a612705e903759e0f610d2b787594595441e4", func := "loop.example/g00605/laws.FnByClauses", spec := "fnByClauses", recurses := true, plainKeys := false, apart := false }
def FnByClausesSaid : Prop := fnByClausesRow.holds Try.pinned (OpenSpec.ofChange fnByClausesSpec)

/-- ITS FALSE NEIGHBOUR: 'it returns false'. Refute it at one input. -/
def fnByClausesWrong : ChangeSpec := { name := "fnByClauses", fn := fun _ => fun
  | [d1, d2] => { results := [.lit (.bool false)], args := [d1, d2] }
  | _ => none }
def FnByClausesWrongFalsely : Prop := fnByClausesRow.holds Try.pinned (OpenSpec.ofChange fnByClausesWrong)

/-- 'laws.FnTseitin': WHATEVER THE INPUT: true; the input reads as it did. -/
def fnTseitinSpec : ChangeSpec := { name := "fnTseitin", fn := fun _ => fun
  | [d1, d2] => { results := [.lit (.bool true)], args := [d1, d2] }
  | _ => none }
def fnTseitinRow : OpenClaim := { program := "ytklcfbjaodildaa", sum := "b560054579cd0e0ac7fd2a1a272a612705e903759e0f610d2b787594595441e4", func := "loop.example/g00605/laws.FnTseitin", spec := "fnTseitin", unfollowed := true, recurses := true, plainKeys := false, apart := false }
def FnTseitinSaid : Prop := fnTseitinRow.holds Try.pinned (OpenSpec.ofChange fnTseitinSpec)

/-- ITS FALSE NEIGHBOUR: 'it returns false'. Refute it at one input. -/
def fnTseitinWrong : ChangeSpec := { name := "fnTseitin", fn := fun _ => fun
  | [d1, d2] => { results := [.lit (.bool false)], args := [d1, d2] }
  | _ => none }
def FnTseitinWrongFalsely : Prop := fnTseitinRow.holds Try.pinned (OpenSpec.ofChange fnTseitinWrong)

/-- 'laws.FnGates': WHATEVER THE INPUT: true; the input reads as it did. -/
def fnGatesSpec : ChangeSpec := { name := "fnGates", fn := fun _ => fun
  | [d1, d2] => { results := [.lit (.bool true)], args := [d1, d2] }
  | _ => none }
def fnGatesRow : OpenClaim := { program := "ytklcfbjaodildaa", sum := "b560054579cd0e0ac7fd2a1a272a612705e903759e0f610d2b787594595441e4", func := "loop.example/g00605/laws.FnGates", spec := "fnGates", unfollowed := true, recurses := true, plainKeys := false, apart := false }
def FnGatesSaid : Prop := fnGatesRow.holds Try.pinned (OpenSpec.ofChange fnGatesSpec)

/-- ITS FALSE NEIGHBOUR: 'it returns false'. Refute it at one input. -/
def fnGatesWrong : ChangeSpec := { name := "fnGates", fn := fun _ => fun
  | [d1, d2] => { results := [.lit (.bool false)], args := [d1, d2] }
  | _ => none }
def FnGatesWrongFalsely : Prop := fnGatesRow.holds Try.pinned (OpenSpec.ofChange fnGatesWrong)

/-- 'laws.FnExactBothOf': WHATEVER THE INPUT: true; the input reads as it did. -/
def fnExactBothOfSpec : ChangeSpec := { name := "fnExactBothOf", fn := fun _ => fun
  | [d1, d2] => { results := [.lit (.bool true)], args := [d1, d2] }
  | _ => none }
def fnExactBothOfRow : OpenClaim := { program := "ytklcfbjaodildaa", sum := "b560054579cd0e0ac7fd2a1a272a612705e903759e0f610d2b787594595441e4", func := "loop.example/g00605/laws.FnExactBothOf", spec := "fnExactBothOf", recurses := true, plainKeys := false, apart := false }
def FnExactBothOfSaid : Prop := fnExactBothOfRow.holds Try.pinned (OpenSpec.ofChange fnExactBothOfSpec)

/-- ITS FALSE NEIGHBOUR: 'it returns false'. Refute it at one input. -/
def fnExactBothOfWrong : ChangeSpec := { name := "fnExactBothOf", fn := fun _ => fun
  | [d1, d2] => { results := [.lit (.bool false)], args := [d1, d2] }
  | _ => none }
def FnExactBothOfWrongFalsely : Prop := fnExactBothOfRow.holds Try.pinned (OpenSpec.ofChange fnExactBothOfWrong)

/-- 'laws.FnExactGoodGates': WHATEVER THE INPUT: true; the input reads as it did. -/
def fnExactGoodGatesSpec : ChangeSpec := { name := "fnExactGoodGates", fn := fun _ => fun
  | [d] => { results := [.lit (.bool true)], args := [d] }
  | _ => none }
def fnExactGoodGatesRow : OpenClaim := { program := "ytklcfbjaodildaa", sum := "b560054579cd0e0ac7fd2a1a272a612705e903759e0f610d2b787594595441e4", func := "loop.example/g00605/laws.FnExactGoodGates", spec := "fnExactGoodGates", plainKeys := false, apart := false }
def FnExactGoodGatesSaid : Prop := fnExactGoodGatesRow.holds Try.pinned (OpenSpec.ofChange fnExactGoodGatesSpec)

/-- ITS FALSE NEIGHBOUR: 'it returns false'. Refute it at one input. -/
def fnExactGoodGatesWrong : ChangeSpec := { name := "fnExactGoodGates", fn := fun _ => fun
  | [d] => { results := [.lit (.bool false)], args := [d] }
  | _ => none }
def FnExactGoodGatesWrongFalsely : Prop := fnExactGoodGatesRow.holds Try.pinned (OpenSpec.ofChange fnExactGoodGatesWrong)

/-- 'laws.FnExactEvalGates': WHATEVER THE INPUT: true; the input reads as it did. -/
def fnExactEvalGatesSpec : ChangeSpec := { name := "fnExactEvalGates", fn := fun _ => fun
  | [d1, d2] => { results := [.lit (.bool true)], args := [d1, d2] }
  | _ => none }
def fnExactEvalGatesRow : OpenClaim := { program := "ytklcfbjaodildaa", sum := "b560054579cd0e0ac7fd2a1a272a612705e903759e0f610d2b787594595441e4", func := "loop.example/g00605/laws.FnExactEvalGates", spec := "fnExactEvalGates", unfollowed := true, recurses := true, plainKeys := false, apart := false }
def FnExactEvalGatesSaid : Prop := fnExactEvalGatesRow.holds Try.pinned (OpenSpec.ofChange fnExactEvalGatesSpec)

/-- ITS FALSE NEIGHBOUR: 'it returns false'. Refute it at one input. -/
def fnExactEvalGatesWrong : ChangeSpec := { name := "fnExactEvalGates", fn := fun _ => fun
  | [d1, d2] => { results := [.lit (.bool false)], args := [d1, d2] }
  | _ => none }
def FnExactEvalGatesWrongFalsely : Prop := fnExactEvalGatesRow.holds Try.pinned (OpenSpec.ofChange fnExactEvalGatesWrong)

/-- 'laws.FnExactInputsOf': WHATEVER THE INPUT: true; the input reads as it did. -/
def fnExactInputsOfSpec : ChangeSpec := { name := "fnExactInputsOf", fn := fun _ => fun
  | [d] => { results := [.lit (.bool true)], args := [d] }
  | _ => none }
def fnExactInputsOfRow : OpenClaim := { program := "ytklcfbjaodildaa", sum := "b560054579cd0e0ac7fd2a1a272a612705e903759e0f610d2b787594595441e4", func := "loop.example/g00605/laws.FnExactInputsOf", spec := "fnExactInputsOf", plainKeys := false, apart := false }
def FnExactInputsOfSaid : Prop := fnExactInputsOfRow.holds Try.pinned (OpenSpec.ofChange fnExactInputsOfSpec)

/-- ITS FALSE NEIGHBOUR: 'it returns false'. Refute it at one input. -/
def fnExactInputsOfWrong : ChangeSpec := { name := "fnExactInputsOf", fn := fun _ => fun
  | [d] => { results := [.lit (.bool false)], args := [d] }
  | _ => none }
def FnExactInputsOfWrongFalsely : Prop := fnExactInputsOfRow.holds Try.pinned (OpenSpec.ofChange fnExactInputsOfWrong)

/-- 'laws.FnExactGateClauses': WHATEVER THE INPUT: true; the input reads as it did. -/
def fnExactGateClausesSpec : ChangeSpec := { name := "fnExactGateClauses", fn := fun _ => fun
  | [d1, d2] => { results := [.lit (.bool true)], args := [d1, d2] }
  | _ => none }
def fnExactGateClausesRow : OpenClaim := { program := "ytklcfbjaodildaa", sum := "b560054579cd0e0ac7fd2a1a272a612705e903759e0f610d2b787594595441e4", func := "loop.example/g00605/laws.FnExactGateClauses", spec := "fnExactGateClauses", plainKeys := false, apart := false }
def FnExactGateClausesSaid : Prop := fnExactGateClausesRow.holds Try.pinned (OpenSpec.ofChange fnExactGateClausesSpec)

/-- ITS FALSE NEIGHBOUR: 'it returns false'. Refute it at one input. -/
def fnExactGateClausesWrong : ChangeSpec := { name := "fnExactGateClauses", fn := fun _ => fun
  | [d1, d2] => { results := [.lit (.bool false)], args := [d1, d2] }
  | _ => none }
def FnExactGateClausesWrongFalsely : Prop := fnExactGateClausesRow.holds Try.pinned (OpenSpec.ofChange fnExactGateClausesWrong)

/-- 'laws.FnExactClausesOf': WHATEVER THE INPUT: true; the input reads as it did. -/
def fnExactClausesOfSpec : ChangeSpec := { name := "fnExactClausesOf", fn := fun _ => fun
  | [d] => { results := [.lit (.bool true)], args := [d] }
  | _ => none }
def fnExactClausesOfRow : OpenClaim := { program := "ytklcfbjaodildaa", sum := "b560054579cd0e0ac7fd2a1a272a612705e903759e0f610d2b787594595441e4", func := "loop.example/g00605/laws.FnExactClausesOf", spec := "fnExactClausesOf", plainKeys := false, apart := false }
def FnExactClausesOfSaid : Prop := fnExactClausesOfRow.holds Try.pinned (OpenSpec.ofChange fnExactClausesOfSpec)

/-- ITS FALSE NEIGHBOUR: 'it returns false'. Refute it at one input. -/
def fnExactClausesOfWrong : ChangeSpec := { name := "fnExactClausesOf", fn := fun _ => fun
  | [d] => { results := [.lit (.bool false)], args := [d] }
  | _ => none }
def FnExactClausesOfWrongFalsely : Prop := fnExactClausesOfRow.holds Try.pinned (OpenSpec.ofChange fnExactClausesOfWrong)

/-- 'laws.FnExactInputsBy': WHATEVER THE INPUT: true; the input reads as it did. -/
def fnExactInputsBySpec : ChangeSpec := { name := "fnExactInputsBy", fn := fun _ => fun
  | [d1, d2] => { results := [.lit (.bool true)], args := [d1, d2] }
  | _ => none }
def fnExactInputsByRow : OpenClaim := { program := "ytklcfbjaodildaa", sum := "b560054579cd0e0ac7fd2a1a272a612705e903759e0f610d2b787594595441e4", func := "loop.example/g00605/laws.FnExactInputsBy", spec := "fnExactInputsBy", plainKeys := false, apart := false }
def FnExactInputsBySaid : Prop := fnExactInputsByRow.holds Try.pinned (OpenSpec.ofChange fnExactInputsBySpec)

/-- ITS FALSE NEIGHBOUR: 'it returns false'. Refute it at one input. -/
def fnExactInputsByWrong : ChangeSpec := { name := "fnExactInputsBy", fn := fun _ => fun
  | [d1, d2] => { results := [.lit (.bool false)], args := [d1, d2] }
  | _ => none }
def FnExactInputsByWrongFalsely : Prop := fnExactInputsByRow.holds Try.pinned (OpenSpec.ofChange fnExactInputsByWrong)

/-- 'laws.FnExactCanBe': WHATEVER THE INPUT: true; the input reads as it did. -/
def fnExactCanBeSpec : ChangeSpec := { name := "fnExactCanBe", fn := fun _ => fun
  | [d] => { results := [.lit (.bool true)], args := [d] }
  | _ => none }
def fnExactCanBeRow : OpenClaim := { program := "ytklcfbjaodildaa", sum := "b560054579cd0e0ac7fd2a1a272a612705e903759e0f610d2b787594595441e4", func := "loop.example/g00605/laws.FnExactCanBe", spec := "fnExactCanBe", unfollowed := true, recurses := true, plainKeys := false, apart := false }
def FnExactCanBeSaid : Prop := fnExactCanBeRow.holds Try.pinned (OpenSpec.ofChange fnExactCanBeSpec)

/-- ITS FALSE NEIGHBOUR: 'it returns false'. Refute it at one input. -/
def fnExactCanBeWrong : ChangeSpec := { name := "fnExactCanBe", fn := fun _ => fun
  | [d] => { results := [.lit (.bool false)], args := [d] }
  | _ => none }
def FnExactCanBeWrongFalsely : Prop := fnExactCanBeRow.holds Try.pinned (OpenSpec.ofChange fnExactCanBeWrong)

/-- 'laws.FnExactAlwaysSame': WHATEVER THE INPUT: true; the input reads as it did. -/
def fnExactAlwaysSameSpec : ChangeSpec := { name := "fnExactAlwaysSame", fn := fun _ => fun
  | [d1, d2] => { results := [.lit (.bool true)], args := [d1, d2] }
  | _ => none }
def fnExactAlwaysSameRow : OpenClaim := { program := "ytklcfbjaodildaa", sum := "b560054579cd0e0ac7fd2a1a272a612705e903759e0f610d2b787594595441e4", func := "loop.example/g00605/laws.FnExactAlwaysSame", spec := "fnExactAlwaysSame", unfollowed := true, recurses := true, plainKeys := false, apart := false }
def FnExactAlwaysSameSaid : Prop := fnExactAlwaysSameRow.holds Try.pinned (OpenSpec.ofChange fnExactAlwaysSameSpec)

/-- ITS FALSE NEIGHBOUR: 'it returns false'. Refute it at one input. -/
def fnExactAlwaysSameWrong : ChangeSpec := { name := "fnExactAlwaysSame", fn := fun _ => fun
  | [d1, d2] => { results := [.lit (.bool false)], args := [d1, d2] }
  | _ => none }
def FnExactAlwaysSameWrongFalsely : Prop := fnExactAlwaysSameRow.holds Try.pinned (OpenSpec.ofChange fnExactAlwaysSameWrong)

/- THE SECOND FORM. 'bulk': how many values and letters a reading holds, each counted each time it is reached (what is shared counts as often as it is met; a slice's spare places count too). A statement '..UptoSaid' is the law's where the arguments, and the package variables that the reading takes, are together of bulk at most 1048576: NARROWER than '..Said'. Prove '..Said' where nothing that the law and all that it calls make is longer than what came in: it says more and counts as full. Else prove '..UptoSaid'. A law counts once. -/
mutual
def uptoBulk {H : Type} : DataW H → Nat
  | .lit (.string bytes) => bytes.length + 1
  | .lit _ => 1
  | .nil => 1
  | .ptr d => uptoBulk d + 1
  | .slice elems spare => uptoBulkAll elems + uptoBulkAll spare + 1
  | .agg parts => uptoBulkAll parts + 1
  | .iface _ d => uptoBulk d + 1
  | .map entries => uptoBulkEntries entries + 1
  | .held _ => 1
def uptoBulkAll {H : Type} : List (DataW H) → Nat
  | [] => 0
  | d :: r => uptoBulk d + uptoBulkAll r
def uptoBulkEntries {H : Type} : List (Lit × DataW H) → Nat
  | [] => 0
  | x :: r => uptoBulkEntry x + uptoBulkEntries r
def uptoBulkEntry {H : Type} : Lit × DataW H → Nat
  | (.string bytes, d) => bytes.length + uptoBulk d + 1
  | (_, d) => uptoBulk d + 1
 end
def uptoSmall : (H : Type) → List (DataW H) → Bool := fun _ ds => decide (uptoBulkAll ds ≤ 1048576)
def OpenSpec.upto (s : _root_.Go.ChangeSpec) : _root_.Go.OpenSpec := { _root_.Go.OpenSpec.ofChange s with cond := some uptoSmall }

/-- 'laws.FnByClauses', WHERE WHAT IT READS IS OF BULK AT MOST 1048576: true; the input reads as it did. -/
def fnByClausesUptoRow : OpenClaim := { program := "ytklcfbjaodildaa", sum := "b560054579cd0e0ac7fd2a1a272a612705e903759e0f610d2b787594595441e4", func := "loop.example/g00605/laws.FnByClauses", spec := "fnByClauses", recurses := true, plainKeys := false, apart := false, narrowed := true }
def FnByClausesUptoSaid : Prop := fnByClausesUptoRow.holds Try.pinned (OpenSpec.upto fnByClausesSpec)

/-- 'laws.FnTseitin', WHERE WHAT IT READS IS OF BULK AT MOST 1048576: true; the input reads as it did. -/
def fnTseitinUptoRow : OpenClaim := { program := "ytklcfbjaodildaa", sum := "b560054579cd0e0ac7fd2a1a272a612705e903759e0f610d2b787594595441e4", func := "loop.example/g00605/laws.FnTseitin", spec := "fnTseitin", unfollowed := true, recurses := true, plainKeys := false, apart := false, narrowed := true }
def FnTseitinUptoSaid : Prop := fnTseitinUptoRow.holds Try.pinned (OpenSpec.upto fnTseitinSpec)

/-- 'laws.FnGates', WHERE WHAT IT READS IS OF BULK AT MOST 1048576: true; the input reads as it did. -/
def fnGatesUptoRow : OpenClaim := { program := "ytklcfbjaodildaa", sum := "b560054579cd0e0ac7fd2a1a272a612705e903759e0f610d2b787594595441e4", func := "loop.example/g00605/laws.FnGates", spec := "fnGates", unfollowed := true, recurses := true, plainKeys := false, apart := false, narrowed := true }
def FnGatesUptoSaid : Prop := fnGatesUptoRow.holds Try.pinned (OpenSpec.upto fnGatesSpec)

/-- 'laws.FnExactBothOf', WHERE WHAT IT READS IS OF BULK AT MOST 1048576: true; the input reads as it did. -/
def fnExactBothOfUptoRow : OpenClaim := { program := "ytklcfbjaodildaa", sum := "b560054579cd0e0ac7fd2a1a272a612705e903759e0f610d2b787594595441e4", func := "loop.example/g00605/laws.FnExactBothOf", spec := "fnExactBothOf", recurses := true, plainKeys := false, apart := false, narrowed := true }
def FnExactBothOfUptoSaid : Prop := fnExactBothOfUptoRow.holds Try.pinned (OpenSpec.upto fnExactBothOfSpec)

/-- 'laws.FnExactGoodGates', WHERE WHAT IT READS IS OF BULK AT MOST 1048576: true; the input reads as it did. -/
def fnExactGoodGatesUptoRow : OpenClaim := { program := "ytklcfbjaodildaa", sum := "b560054579cd0e0ac7fd2a1a272a612705e903759e0f610d2b787594595441e4", func := "loop.example/g00605/laws.FnExactGoodGates", spec := "fnExactGoodGates", plainKeys := false, apart := false, narrowed := true }
def FnExactGoodGatesUptoSaid : Prop := fnExactGoodGatesUptoRow.holds Try.pinned (OpenSpec.upto fnExactGoodGatesSpec)

/-- 'laws.FnExactEvalGates', WHERE WHAT IT READS IS OF BULK AT MOST 1048576: true; the input reads as it did. -/
def fnExactEvalGatesUptoRow : OpenClaim := { program := "ytklcfbjaodildaa", sum := "b560054579cd0e0ac7fd2a1a272a612705e903759e0f610d2b787594595441e4", func := "loop.example/g00605/laws.FnExactEvalGates", spec := "fnExactEvalGates", unfollowed := true, recurses := true, plainKeys := false, apart := false, narrowed := true }
def FnExactEvalGatesUptoSaid : Prop := fnExactEvalGatesUptoRow.holds Try.pinned (OpenSpec.upto fnExactEvalGatesSpec)

/-- 'laws.FnExactInputsOf', WHERE WHAT IT READS IS OF BULK AT MOST 1048576: true; the input reads as it did. -/
def fnExactInputsOfUptoRow : OpenClaim := { program := "ytklcfbjaodildaa", sum := "b560054579cd0e0ac7fd2a1a272a612705e903759e0f610d2b787594595441e4", func := "loop.example/g00605/laws.FnExactInputsOf", spec := "fnExactInputsOf", plainKeys := false, apart := false, narrowed := true }
def FnExactInputsOfUptoSaid : Prop := fnExactInputsOfUptoRow.holds Try.pinned (OpenSpec.upto fnExactInputsOfSpec)

/-- 'laws.FnExactGateClauses', WHERE WHAT IT READS IS OF BULK AT MOST 1048576: true; the input reads as it did. -/
def fnExactGateClausesUptoRow : OpenClaim := { program := "ytklcfbjaodildaa", sum := "b560054579cd0e0ac7fd2a1a272a612705e903759e0f610d2b787594595441e4", func := "loop.example/g00605/laws.FnExactGateClauses", spec := "fnExactGateClauses", plainKeys := false, apart := false, narrowed := true }
def FnExactGateClausesUptoSaid : Prop := fnExactGateClausesUptoRow.holds Try.pinned (OpenSpec.upto fnExactGateClausesSpec)

/-- 'laws.FnExactClausesOf', WHERE WHAT IT READS IS OF BULK AT MOST 1048576: true; the input reads as it did. -/
def fnExactClausesOfUptoRow : OpenClaim := { program := "ytklcfbjaodildaa", sum := "b560054579cd0e0ac7fd2a1a272a612705e903759e0f610d2b787594595441e4", func := "loop.example/g00605/laws.FnExactClausesOf", spec := "fnExactClausesOf", plainKeys := false, apart := false, narrowed := true }
def FnExactClausesOfUptoSaid : Prop := fnExactClausesOfUptoRow.holds Try.pinned (OpenSpec.upto fnExactClausesOfSpec)

/-- 'laws.FnExactInputsBy', WHERE WHAT IT READS IS OF BULK AT MOST 1048576: true; the input reads as it did. -/
def fnExactInputsByUptoRow : OpenClaim := { program := "ytklcfbjaodildaa", sum := "b560054579cd0e0ac7fd2a1a272a612705e903759e0f610d2b787594595441e4", func := "loop.example/g00605/laws.FnExactInputsBy", spec := "fnExactInputsBy", plainKeys := false, apart := false, narrowed := true }
def FnExactInputsByUptoSaid : Prop := fnExactInputsByUptoRow.holds Try.pinned (OpenSpec.upto fnExactInputsBySpec)

/-- 'laws.FnExactCanBe', WHERE WHAT IT READS IS OF BULK AT MOST 1048576: true; the input reads as it did. -/
def fnExactCanBeUptoRow : OpenClaim := { program := "ytklcfbjaodildaa", sum := "b560054579cd0e0ac7fd2a1a272a612705e903759e0f610d2b787594595441e4", func := "loop.example/g00605/laws.FnExactCanBe", spec := "fnExactCanBe", unfollowed := true, recurses := true, plainKeys := false, apart := false, narrowed := true }
def FnExactCanBeUptoSaid : Prop := fnExactCanBeUptoRow.holds Try.pinned (OpenSpec.upto fnExactCanBeSpec)

/-- 'laws.FnExactAlwaysSame', WHERE WHAT IT READS IS OF BULK AT MOST 1048576: true; the input reads as it did. -/
def fnExactAlwaysSameUptoRow : OpenClaim := { program := "ytklcfbjaodildaa", sum := "b560054579cd0e0ac7fd2a1a272a612705e903759e0f610d2b787594595441e4", func := "loop.example/g00605/laws.FnExactAlwaysSame", spec := "fnExactAlwaysSame", unfollowed := true, recurses := true, plainKeys := false, apart := false, narrowed := true }
def FnExactAlwaysSameUptoSaid : Prop := fnExactAlwaysSameUptoRow.holds Try.pinned (OpenSpec.upto fnExactAlwaysSameSpec)

end Rows
end Go.Proofs.Ytklcfbjaodildaa
