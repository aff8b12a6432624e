/-
  No cell of these rows narrows 'for every input' (looked for: loops, veiled, ifaces, maps, wideKeys, modest, calm, conditions, laid).
  DERIVED. THE GIVEN ROWS OF THIS SEAT. 5 by the template 'for every input the law returns true; each argument reads behind the call as it read before'; 0 by the template 'total and deterministic' (their statements: YtmfganodnlnjcaaTotals.lean).
  GIVEN WITH THE SEED: the statements are not yours to turn. If you find one false, say at which input.
  Laid BY PROGRAM, IN A SANDBOX (cutbox-rows.mjs): the forced cells as the released guide's own fill.sh prints them over the translation a53d5b580cb4f662… (all of the seat's roots in one cut). By AI agents, Wed Nov 11 2026. No macro, syntax, notation, axiom, sorry.
-/
import Derived.Test.YtmfganodnlnjcaaChecked
import GoSem.Claim
import GoSem.ClaimJoined
import GoSem.ClaimMapViews
import Derived.JoinedTies
import Derived.KernelRfl
namespace Go.Proofs.Ytmfganodnlnjcaa
/- THE CELL 'sum', in the pinned program and in every row, IS THE sha256 OF THE DUMP (.gsa) THAT YtmfganodnlnjcaaProg.lean LOADS. Nothing in Lean hashes anything: it is a label: what it is worth is what the hold of that sum in a sandbox is worth. -/
noncomputable def Try.pinned : Pinned := { name := "ytmfganodnlnjcaa", sum := "a53d5b580cb4f66293014d9341180bc40d3010b33bfadb57fc2ec7d11dc09e58", checked := Try.checked }
namespace Rows
def none {H : Type} : Left H := { results := [], args := [] }

/-- 'laws.FnExactGoodKnown': WHATEVER THE INPUT: true; the input reads as it did. -/
def fnExactGoodKnownSpec : ChangeSpec := { name := "fnExactGoodKnown", fn := fun _ => fun
  | [d] => { results := [.lit (.bool true)], args := [d] }
  | _ => none }
def fnExactGoodKnownRow : OpenClaim := { program := "ytmfganodnlnjcaa", sum := "a53d5b580cb4f66293014d9341180bc40d3010b33bfadb57fc2ec7d11dc09e58", func := "loop.example/g00605/laws.FnExactGoodKnown", spec := "fnExactGoodKnown", apart := false }
def FnExactGoodKnownSaid : Prop := fnExactGoodKnownRow.holds Try.pinned (OpenSpec.ofChange fnExactGoodKnownSpec)

/-- ITS FALSE NEIGHBOUR: 'it returns false'. Refute it at one input. -/
def fnExactGoodKnownWrong : ChangeSpec := { name := "fnExactGoodKnown", fn := fun _ => fun
  | [d] => { results := [.lit (.bool false)], args := [d] }
  | _ => none }
def FnExactGoodKnownWrongFalsely : Prop := fnExactGoodKnownRow.holds Try.pinned (OpenSpec.ofChange fnExactGoodKnownWrong)

/-- 'laws.FnExactMayBe': WHATEVER THE INPUT: true; the input reads as it did. -/
def fnExactMayBeSpec : ChangeSpec := { name := "fnExactMayBe", fn := fun _ => fun
  | [d1, d2] => { results := [.lit (.bool true)], args := [d1, d2] }
  | _ => none }
def fnExactMayBeRow : OpenClaim := { program := "ytmfganodnlnjcaa", sum := "a53d5b580cb4f66293014d9341180bc40d3010b33bfadb57fc2ec7d11dc09e58", func := "loop.example/g00605/laws.FnExactMayBe", spec := "fnExactMayBe", apart := false }
def FnExactMayBeSaid : Prop := fnExactMayBeRow.holds Try.pinned (OpenSpec.ofChange fnExactMayBeSpec)

/-- ITS FALSE NEIGHBOUR: 'it returns false'. Refute it at one input. -/
def fnExactMayBeWrong : ChangeSpec := { name := "fnExactMayBe", fn := fun _ => fun
  | [d1, d2] => { results := [.lit (.bool false)], args := [d1, d2] }
  | _ => none }
def FnExactMayBeWrongFalsely : Prop := fnExactMayBeRow.holds Try.pinned (OpenSpec.ofChange fnExactMayBeWrong)

/-- 'laws.FnExactJoinKnown': WHATEVER THE INPUT: true; the input reads as it did. -/
def fnExactJoinKnownSpec : ChangeSpec := { name := "fnExactJoinKnown", fn := fun _ => fun
  | [d1, d2] => { results := [.lit (.bool true)], args := [d1, d2] }
  | _ => none }
def fnExactJoinKnownRow : OpenClaim := { program := "ytmfganodnlnjcaa", sum := "a53d5b580cb4f66293014d9341180bc40d3010b33bfadb57fc2ec7d11dc09e58", func := "loop.example/g00605/laws.FnExactJoinKnown", spec := "fnExactJoinKnown", unfollowed := true, recurses := true, apart := false }
def FnExactJoinKnownSaid : Prop := fnExactJoinKnownRow.holds Try.pinned (OpenSpec.ofChange fnExactJoinKnownSpec)

/-- ITS FALSE NEIGHBOUR: 'it returns false'. Refute it at one input. -/
def fnExactJoinKnownWrong : ChangeSpec := { name := "fnExactJoinKnown", fn := fun _ => fun
  | [d1, d2] => { results := [.lit (.bool false)], args := [d1, d2] }
  | _ => none }
def FnExactJoinKnownWrongFalsely : Prop := fnExactJoinKnownRow.holds Try.pinned (OpenSpec.ofChange fnExactJoinKnownWrong)

/-- 'laws.FnExactMeetKnown': WHATEVER THE INPUT: true; the input reads as it did. -/
def fnExactMeetKnownSpec : ChangeSpec := { name := "fnExactMeetKnown", fn := fun _ => fun
  | [d1, d2] => { results := [.lit (.bool true)], args := [d1, d2] }
  | _ => none }
def fnExactMeetKnownRow : OpenClaim := { program := "ytmfganodnlnjcaa", sum := "a53d5b580cb4f66293014d9341180bc40d3010b33bfadb57fc2ec7d11dc09e58", func := "loop.example/g00605/laws.FnExactMeetKnown", spec := "fnExactMeetKnown", unfollowed := true, recurses := true, apart := false }
def FnExactMeetKnownSaid : Prop := fnExactMeetKnownRow.holds Try.pinned (OpenSpec.ofChange fnExactMeetKnownSpec)

/-- ITS FALSE NEIGHBOUR: 'it returns false'. Refute it at one input. -/
def fnExactMeetKnownWrong : ChangeSpec := { name := "fnExactMeetKnown", fn := fun _ => fun
  | [d1, d2] => { results := [.lit (.bool false)], args := [d1, d2] }
  | _ => none }
def FnExactMeetKnownWrongFalsely : Prop := fnExactMeetKnownRow.holds Try.pinned (OpenSpec.ofChange fnExactMeetKnownWrong)

/-- 'laws.FnExactKnownOf': WHATEVER THE INPUT: true; the input reads as it did. -/
def fnExactKnownOfSpec : ChangeSpec := { name := "fnExactKnownOf", fn := fun _ => fun
  | [d] => { results := [.lit (.bool true)], args := [d] }
  | _ => none }
def fnExactKnownOfRow : OpenClaim := { program := "ytmfganodnlnjcaa", sum := "a53d5b580cb4f66293014d9341180bc40d3010b33bfadb57fc2ec7d11dc09e58", func := "loop.example/g00605/laws.FnExactKnownOf", spec := "fnExactKnownOf", apart := false }
def FnExactKnownOfSaid : Prop := fnExactKnownOfRow.holds Try.pinned (OpenSpec.ofChange fnExactKnownOfSpec)

/-- ITS FALSE NEIGHBOUR: 'it returns false'. Refute it at one input. -/
def fnExactKnownOfWrong : ChangeSpec := { name := "fnExactKnownOf", fn := fun _ => fun
  | [d] => { results := [.lit (.bool false)], args := [d] }
  | _ => none }
def FnExactKnownOfWrongFalsely : Prop := fnExactKnownOfRow.holds Try.pinned (OpenSpec.ofChange fnExactKnownOfWrong)

/- THE SECOND FORM. 'bulk': how many values and letters a reading holds, each counted each time it is reached (what is shared counts as often as it is met; a slice's spare places count too). A statement '..UptoSaid' is the law's where the arguments, and the package variables that the reading takes, are together of bulk at most 1048576: NARROWER than '..Said'. Prove '..Said' where nothing that the law and all that it calls make is longer than what came in: it says more and counts as full. Else prove '..UptoSaid'. A law counts once. -/
mutual
def uptoBulk {H : Type} : DataW H → Nat
  | .lit (.string bytes) => bytes.length + 1
  | .lit _ => 1
  | .nil => 1
  | .ptr d => uptoBulk d + 1
  | .slice elems spare => uptoBulkAll elems + uptoBulkAll spare + 1
  | .agg parts => uptoBulkAll parts + 1
  | .iface _ d => uptoBulk d + 1
  | .map entries => uptoBulkEntries entries + 1
  | .held _ => 1
def uptoBulkAll {H : Type} : List (DataW H) → Nat
  | [] => 0
  | d :: r => uptoBulk d + uptoBulkAll r
def uptoBulkEntries {H : Type} : List (Lit × DataW H) → Nat
  | [] => 0
  | x :: r => uptoBulkEntry x + uptoBulkEntries r
def uptoBulkEntry {H : Type} : Lit × DataW H → Nat
  | (.string bytes, d) => bytes.length + uptoBulk d + 1
  | (_, d) => uptoBulk d + 1
 end
def uptoSmall : (H : Type) → List (DataW H) → Bool := fun _ ds => decide (uptoBulkAll ds ≤ 1048576)
def OpenSpec.upto (s : _root_.Go.ChangeSpec) : _root_.Go.OpenSpec := { _root_.Go.OpenSpec.ofChange s with cond := some uptoSmall }

/-- 'laws.FnExactGoodKnown', WHERE WHAT IT READS IS OF BULK AT MOST 1048576: true; the input reads as it did. -/
def fnExactGoodKnownUptoRow : OpenClaim := { program := "ytmfganodnlnjcaa", sum := "a53d5b580cb4f66293014d9341180bc40d3010b33bfadb57fc2ec7d11dc09e58", func := "loop.example/g00605/laws.FnExactGoodKnown", spec := "fnExactGoodKnown", apart := false, narrowed := true }
def FnExactGoodKnownUptoSaid : Prop := fnExactGoodKnownUptoRow.holds Try.pinned (OpenSpec.upto fnExactGoodKnownSpec)

/-- 'laws.FnExactMayBe', WHERE WHAT IT READS IS OF BULK AT MOST 1048576: true; the input reads as it did. -/
def fnExactMayBeUptoRow : OpenClaim := { program := "ytmfganodnlnjcaa", sum := "a53d5b580cb4f66293014d9341180bc40d3010b33bfadb57fc2ec7d11dc09e58", func := "loop.example/g00605/laws.FnExactMayBe", spec := "fnExactMayBe", apart := false, narrowed := true }
def FnExactMayBeUptoSaid : Prop := fnExactMayBeUptoRow.holds Try.pinned (OpenSpec.upto fnExactMayBeSpec)

/-- 'laws.FnExactJoinKnown', WHERE WHAT IT READS IS OF BULK AT MOST 1048576: true; the input reads as it did. -/
def fnExactJoinKnownUptoRow : OpenClaim := { program := "ytmfganodnlnjcaa", sum := "a53d5b580cb4f66293014d9341180bc40d3010b33bfadb57fc2ec7d11dc09e58", func := "loop.example/g00605/laws.FnExactJoinKnown", spec := "fnExactJoinKnown", unfollowed := true, recurses := true, apart := false, narrowed := true }
def FnExactJoinKnownUptoSaid : Prop := fnExactJoinKnownUptoRow.holds Try.pinned (OpenSpec.upto fnExactJoinKnownSpec)

/-- 'laws.FnExactMeetKnown', WHERE WHAT IT READS IS OF BULK AT MOST 1048576: true; the input reads as it did. -/
def fnExactMeetKnownUptoRow : OpenClaim := { program := "ytmfganodnlnjcaa", sum := "a53d5b580cb4f66293014d9341180bc40d3010b33bfadb57fc2ec7d11dc09e58", func := "loop.example/g00605/laws.FnExactMeetKnown", spec := "fnExactMeetKnown", unfollowed := true, recurses := true, apart := false, narrowed := true }
def FnExactMeetKnownUptoSaid : Prop := fnExactMeetKnownUptoRow.holds Try.pinned (OpenSpec.upto fnExactMeetKnownSpec)

/-- 'laws.FnExactKnownOf', WHERE WHAT IT READS IS OF BULK AT MOST 1048576: true; the input reads as it did. -/
def fnExactKnownOfUptoRow : OpenClaim := { program := "ytmfganodnlnjcaa", sum := "a53d5b580cb4f66293014d9341180bc40d3010b33bfadb57fc2ec7d11dc09e58", func := "loop.example/g00605/laws.FnExactKnownOf", spec := "fnExactKnownOf", apart := false, narrowed := true }
def FnExactKnownOfUptoSaid : Prop := fnExactKnownOfUptoRow.holds Try.pinned (OpenSpec.upto fnExactKnownOfSpec)

end Rows
end Go.Proofs.Ytmfganodnlnjcaa
