/-
  No cell of these rows narrows 'for every input' (looked for: loops, veiled, ifaces, maps, wideKeys, modest, calm, conditions, laid).
  DERIVED. THE GIVEN ROWS OF THIS SEAT. 10 by the template 'for every input the law returns true; each argument reads behind the call as it read before'; 0 by the template 'total and deterministic' (their statements: YtbmmajdacebncaaTotals.lean).
  GIVEN WITH THE SEED: the statements are not yours to turn. If you find one false, say at which input.
  Laid BY PROGRAM, IN A SANDBOX (cutbox-rows.mjs): the forced cells as the released guide's own fill.sh prints them over the translation bc90a7dce4656a75… (all of the seat's roots in one cut). By AI agents, Wed Nov 11 2026. No macro, syntax, notation, axiom, sorry.
-/
import Derived.Test.YtbmmajdacebncaaChecked
import GoSem.Claim
import GoSem.ClaimJoined
import GoSem.ClaimMapViews
import Derived.JoinedTies
import Derived.KernelRfl
namespace Go.Proofs.Ytbmmajdacebncaa
/- THE CELL 'sum', in the pinned program and in every row, IS THE sha256 OF THE DUMP (.gsa) THAT YtbmmajdacebncaaProg.lean LOADS. Nothing in Lean hashes anything: it is a label: what it is worth is what the hold of that sum in a sandbox is worth. -/
noncomputable def Try.pinned : Pinned := { name := "ytbmmajdacebncaa", sum := "bc90a7dce4656a757fe896430c4d99a85addf8063050527e576cb75f84d8875b", checked := Try.checked }
namespace Rows
def none {H : Type} : Left H := { results := [], args := [] }

/-- 'laws.FnLaidOut': WHATEVER THE INPUT: true; the input reads as it did. -/
def fnLaidOutSpec : ChangeSpec := { name := "fnLaidOut", fn := fun _ => fun
  | [d1, d2] => { results := [.lit (.bool true)], args := [d1, d2] }
  | _ => none }
def fnLaidOutRow : OpenClaim := { program := "ytbmmajdacebncaa", sum := "bc90a7dce4656a757fe896430c4d99a85addf8063050527e576cb75f84d8875b", func := "loop.example/g00605/laws.FnLaidOut", spec := "fnLaidOut", apart := false }
def FnLaidOutSaid : Prop := fnLaidOutRow.holds Try.pinned (OpenSpec.ofChange fnLaidOutSpec)

/-- ITS FALSE NEIGHBOUR: 'it returns false'. Refute it at one input. -/
def fnLaidOutWrong : ChangeSpec := { name := "fnLaidOut", fn := fun _ => fun
  | [d1, d2] => { results := [.lit (.bool false)], args := [d1, d2] }
  | _ => none }
def FnLaidOutWrongFalsely : Prop := fnLaidOutRow.holds Try.pinned (OpenSpec.ofChange fnLaidOutWrong)

/-- 'laws.FnEnough': WHATEVER THE INPUT: true; the input reads as it did. -/
def fnEnoughSpec : ChangeSpec := { name := "fnEnough", fn := fun _ => fun
  | [d1, d2] => { results := [.lit (.bool true)], args := [d1, d2] }
  | _ => none }
def fnEnoughRow : OpenClaim := { program := "ytbmmajdacebncaa", sum := "bc90a7dce4656a757fe896430c4d99a85addf8063050527e576cb75f84d8875b", func := "loop.example/g00605/laws.FnEnough", spec := "fnEnough", apart := false }
def FnEnoughSaid : Prop := fnEnoughRow.holds Try.pinned (OpenSpec.ofChange fnEnoughSpec)

/-- ITS FALSE NEIGHBOUR: 'it returns false'. Refute it at one input. -/
def fnEnoughWrong : ChangeSpec := { name := "fnEnough", fn := fun _ => fun
  | [d1, d2] => { results := [.lit (.bool false)], args := [d1, d2] }
  | _ => none }
def FnEnoughWrongFalsely : Prop := fnEnoughRow.holds Try.pinned (OpenSpec.ofChange fnEnoughWrong)

/-- 'laws.FnExactGoodArcs': WHATEVER THE INPUT: true; the input reads as it did. -/
def fnExactGoodArcsSpec : ChangeSpec := { name := "fnExactGoodArcs", fn := fun _ => fun
  | [d1, d2] => { results := [.lit (.bool true)], args := [d1, d2] }
  | _ => none }
def fnExactGoodArcsRow : OpenClaim := { program := "ytbmmajdacebncaa", sum := "bc90a7dce4656a757fe896430c4d99a85addf8063050527e576cb75f84d8875b", func := "loop.example/g00605/laws.FnExactGoodArcs", spec := "fnExactGoodArcs", apart := false }
def FnExactGoodArcsSaid : Prop := fnExactGoodArcsRow.holds Try.pinned (OpenSpec.ofChange fnExactGoodArcsSpec)

/-- ITS FALSE NEIGHBOUR: 'it returns false'. Refute it at one input. -/
def fnExactGoodArcsWrong : ChangeSpec := { name := "fnExactGoodArcs", fn := fun _ => fun
  | [d1, d2] => { results := [.lit (.bool false)], args := [d1, d2] }
  | _ => none }
def FnExactGoodArcsWrongFalsely : Prop := fnExactGoodArcsRow.holds Try.pinned (OpenSpec.ofChange fnExactGoodArcsWrong)

/-- 'laws.FnExactLayOut': WHATEVER THE INPUT: true; the input reads as it did. -/
def fnExactLayOutSpec : ChangeSpec := { name := "fnExactLayOut", fn := fun _ => fun
  | [d1, d2, d3] => { results := [.lit (.bool true)], args := [d1, d2, d3] }
  | _ => none }
def fnExactLayOutRow : OpenClaim := { program := "ytbmmajdacebncaa", sum := "bc90a7dce4656a757fe896430c4d99a85addf8063050527e576cb75f84d8875b", func := "loop.example/g00605/laws.FnExactLayOut", spec := "fnExactLayOut", apart := false }
def FnExactLayOutSaid : Prop := fnExactLayOutRow.holds Try.pinned (OpenSpec.ofChange fnExactLayOutSpec)

/-- ITS FALSE NEIGHBOUR: 'it returns false'. Refute it at one input. -/
def fnExactLayOutWrong : ChangeSpec := { name := "fnExactLayOut", fn := fun _ => fun
  | [d1, d2, d3] => { results := [.lit (.bool false)], args := [d1, d2, d3] }
  | _ => none }
def FnExactLayOutWrongFalsely : Prop := fnExactLayOutRow.holds Try.pinned (OpenSpec.ofChange fnExactLayOutWrong)

/-- 'laws.FnExactIsWalk': WHATEVER THE INPUT: true; the input reads as it did. -/
def fnExactIsWalkSpec : ChangeSpec := { name := "fnExactIsWalk", fn := fun _ => fun
  | [d1, d2, d3] => { results := [.lit (.bool true)], args := [d1, d2, d3] }
  | _ => none }
def fnExactIsWalkRow : OpenClaim := { program := "ytbmmajdacebncaa", sum := "bc90a7dce4656a757fe896430c4d99a85addf8063050527e576cb75f84d8875b", func := "loop.example/g00605/laws.FnExactIsWalk", spec := "fnExactIsWalk", apart := false }
def FnExactIsWalkSaid : Prop := fnExactIsWalkRow.holds Try.pinned (OpenSpec.ofChange fnExactIsWalkSpec)

/-- ITS FALSE NEIGHBOUR: 'it returns false'. Refute it at one input. -/
def fnExactIsWalkWrong : ChangeSpec := { name := "fnExactIsWalk", fn := fun _ => fun
  | [d1, d2, d3] => { results := [.lit (.bool false)], args := [d1, d2, d3] }
  | _ => none }
def FnExactIsWalkWrongFalsely : Prop := fnExactIsWalkRow.holds Try.pinned (OpenSpec.ofChange fnExactIsWalkWrong)

/-- 'laws.FnExactLaidWalk': WHATEVER THE INPUT: true; the input reads as it did. -/
def fnExactLaidWalkSpec : ChangeSpec := { name := "fnExactLaidWalk", fn := fun _ => fun
  | [d1, d2] => { results := [.lit (.bool true)], args := [d1, d2] }
  | _ => none }
def fnExactLaidWalkRow : OpenClaim := { program := "ytbmmajdacebncaa", sum := "bc90a7dce4656a757fe896430c4d99a85addf8063050527e576cb75f84d8875b", func := "loop.example/g00605/laws.FnExactLaidWalk", spec := "fnExactLaidWalk", apart := false }
def FnExactLaidWalkSaid : Prop := fnExactLaidWalkRow.holds Try.pinned (OpenSpec.ofChange fnExactLaidWalkSpec)

/-- ITS FALSE NEIGHBOUR: 'it returns false'. Refute it at one input. -/
def fnExactLaidWalkWrong : ChangeSpec := { name := "fnExactLaidWalk", fn := fun _ => fun
  | [d1, d2] => { results := [.lit (.bool false)], args := [d1, d2] }
  | _ => none }
def FnExactLaidWalkWrongFalsely : Prop := fnExactLaidWalkRow.holds Try.pinned (OpenSpec.ofChange fnExactLaidWalkWrong)

/-- 'laws.FnExactBackArcs': WHATEVER THE INPUT: true; the input reads as it did. -/
def fnExactBackArcsSpec : ChangeSpec := { name := "fnExactBackArcs", fn := fun _ => fun
  | [d1, d2] => { results := [.lit (.bool true)], args := [d1, d2] }
  | _ => none }
def fnExactBackArcsRow : OpenClaim := { program := "ytbmmajdacebncaa", sum := "bc90a7dce4656a757fe896430c4d99a85addf8063050527e576cb75f84d8875b", func := "loop.example/g00605/laws.FnExactBackArcs", spec := "fnExactBackArcs", apart := false }
def FnExactBackArcsSaid : Prop := fnExactBackArcsRow.holds Try.pinned (OpenSpec.ofChange fnExactBackArcsSpec)

/-- ITS FALSE NEIGHBOUR: 'it returns false'. Refute it at one input. -/
def fnExactBackArcsWrong : ChangeSpec := { name := "fnExactBackArcs", fn := fun _ => fun
  | [d1, d2] => { results := [.lit (.bool false)], args := [d1, d2] }
  | _ => none }
def FnExactBackArcsWrongFalsely : Prop := fnExactBackArcsRow.holds Try.pinned (OpenSpec.ofChange fnExactBackArcsWrong)

/-- 'laws.FnExactReachWithin': WHATEVER THE INPUT: true; the input reads as it did. -/
def fnExactReachWithinSpec : ChangeSpec := { name := "fnExactReachWithin", fn := fun _ => fun
  | [d1, d2, d3, d4] => { results := [.lit (.bool true)], args := [d1, d2, d3, d4] }
  | _ => none }
def fnExactReachWithinRow : OpenClaim := { program := "ytbmmajdacebncaa", sum := "bc90a7dce4656a757fe896430c4d99a85addf8063050527e576cb75f84d8875b", func := "loop.example/g00605/laws.FnExactReachWithin", spec := "fnExactReachWithin", apart := false }
def FnExactReachWithinSaid : Prop := fnExactReachWithinRow.holds Try.pinned (OpenSpec.ofChange fnExactReachWithinSpec)

/-- ITS FALSE NEIGHBOUR: 'it returns false'. Refute it at one input. -/
def fnExactReachWithinWrong : ChangeSpec := { name := "fnExactReachWithin", fn := fun _ => fun
  | [d1, d2, d3, d4] => { results := [.lit (.bool false)], args := [d1, d2, d3, d4] }
  | _ => none }
def FnExactReachWithinWrongFalsely : Prop := fnExactReachWithinRow.holds Try.pinned (OpenSpec.ofChange fnExactReachWithinWrong)

/-- 'laws.FnExactEnoughFor': WHATEVER THE INPUT: true; the input reads as it did. -/
def fnExactEnoughForSpec : ChangeSpec := { name := "fnExactEnoughFor", fn := fun _ => fun
  | [d1, d2, d3] => { results := [.lit (.bool true)], args := [d1, d2, d3] }
  | _ => none }
def fnExactEnoughForRow : OpenClaim := { program := "ytbmmajdacebncaa", sum := "bc90a7dce4656a757fe896430c4d99a85addf8063050527e576cb75f84d8875b", func := "loop.example/g00605/laws.FnExactEnoughFor", spec := "fnExactEnoughFor", apart := false }
def FnExactEnoughForSaid : Prop := fnExactEnoughForRow.holds Try.pinned (OpenSpec.ofChange fnExactEnoughForSpec)

/-- ITS FALSE NEIGHBOUR: 'it returns false'. Refute it at one input. -/
def fnExactEnoughForWrong : ChangeSpec := { name := "fnExactEnoughFor", fn := fun _ => fun
  | [d1, d2, d3] => { results := [.lit (.bool false)], args := [d1, d2, d3] }
  | _ => none }
def FnExactEnoughForWrongFalsely : Prop := fnExactEnoughForRow.holds Try.pinned (OpenSpec.ofChange fnExactEnoughForWrong)

/-- 'laws.FnExactWalksOf': WHATEVER THE INPUT: true; the input reads as it did. -/
def fnExactWalksOfSpec : ChangeSpec := { name := "fnExactWalksOf", fn := fun _ => fun
  | [d1, d2, d3, d4, d5] => { results := [.lit (.bool true)], args := [d1, d2, d3, d4, d5] }
  | _ => none }
def fnExactWalksOfRow : OpenClaim := { program := "ytbmmajdacebncaa", sum := "bc90a7dce4656a757fe896430c4d99a85addf8063050527e576cb75f84d8875b", func := "loop.example/g00605/laws.FnExactWalksOf", spec := "fnExactWalksOf", apart := false }
def FnExactWalksOfSaid : Prop := fnExactWalksOfRow.holds Try.pinned (OpenSpec.ofChange fnExactWalksOfSpec)

/-- ITS FALSE NEIGHBOUR: 'it returns false'. Refute it at one input. -/
def fnExactWalksOfWrong : ChangeSpec := { name := "fnExactWalksOf", fn := fun _ => fun
  | [d1, d2, d3, d4, d5] => { results := [.lit (.bool false)], args := [d1, d2, d3, d4, d5] }
  | _ => none }
def FnExactWalksOfWrongFalsely : Prop := fnExactWalksOfRow.holds Try.pinned (OpenSpec.ofChange fnExactWalksOfWrong)

/- THE SECOND FORM. 'bulk': how many values and letters a reading holds, each counted each time it is reached (what is shared counts as often as it is met; a slice's spare places count too). A statement '..UptoSaid' is the law's where the arguments, and the package variables that the reading takes, are together of bulk at most 1048576: NARROWER than '..Said'. Prove '..Said' where nothing that the law and all that it calls make is longer than what came in: it says more and counts as full. Else prove '..UptoSaid'. A law counts once. -/
mutual
def uptoBulk {H : Type} : DataW H → Nat
  | .lit (.string bytes) => bytes.length + 1
  | .lit _ => 1
  | .nil => 1
  | .ptr d => uptoBulk d + 1
  | .slice elems spare => uptoBulkAll elems + uptoBulkAll spare + 1
  | .agg parts => uptoBulkAll parts + 1
  | .iface _ d => uptoBulk d + 1
  | .map entries => uptoBulkEntries entries + 1
  | .held _ => 1
def uptoBulkAll {H : Type} : List (DataW H) → Nat
  | [] => 0
  | d :: r => uptoBulk d + uptoBulkAll r
def uptoBulkEntries {H : Type} : List (Lit × DataW H) → Nat
  | [] => 0
  | x :: r => uptoBulkEntry x + uptoBulkEntries r
def uptoBulkEntry {H : Type} : Lit × DataW H → Nat
  | (.string bytes, d) => bytes.length + uptoBulk d + 1
  | (_, d) => uptoBulk d + 1
 end
def uptoSmall : (H : Type) → List (DataW H) → Bool := fun _ ds => decide (uptoBulkAll ds ≤ 1048576)
def OpenSpec.upto (s : _root_.Go.ChangeSpec) : _root_.Go.OpenSpec := { _root_.Go.OpenSpec.ofChange s with cond := some uptoSmall }

/-- 'laws.FnLaidOut', WHERE WHAT IT READS IS OF BULK AT MOST 1048576: true; the input reads as it did. -/
def fnLaidOutUptoRow : OpenClaim := { program := "ytbmmajdacebncaa", sum := "bc90a7dce4656a757fe896430c4d99a85addf8063050527e576cb75f84d8875b", func := "loop.example/g00605/laws.FnLaidOut", spec := "fnLaidOut", apart := false, narrowed := true }
def FnLaidOutUptoSaid : Prop := fnLaidOutUptoRow.holds Try.pinned (OpenSpec.upto fnLaidOutSpec)

/-- 'laws.FnEnough', WHERE WHAT IT READS IS OF BULK AT MOST 1048576: true; the input reads as it did. -/
def fnEnoughUptoRow : OpenClaim := { program := "ytbmmajdacebncaa", sum := "bc90a7dce4656a757fe896430c4d99a85addf8063050527e576cb75f84d8875b", func := "loop.example/g00605/laws.FnEnough", spec := "fnEnough", apart := false, narrowed := true }
def FnEnoughUptoSaid : Prop := fnEnoughUptoRow.holds Try.pinned (OpenSpec.upto fnEnoughSpec)

/-- 'laws.FnExactGoodArcs', WHERE WHAT IT READS IS OF BULK AT MOST 1048576: true; the input reads as it did. -/
def fnExactGoodArcsUptoRow : OpenClaim := { program := "ytbmmajdacebncaa", sum := "bc90a7dce4656a757fe896430c4d99a85addf8063050527e576cb75f84d8875b", func := "loop.example/g00605/laws.FnExactGoodArcs", spec := "fnExactGoodArcs", apart := false, narrowed := true }
def FnExactGoodArcsUptoSaid : Prop := fnExactGoodArcsUptoRow.holds Try.pinned (OpenSpec.upto fnExactGoodArcsSpec)

/-- 'laws.FnExactLayOut', WHERE WHAT IT READS IS OF BULK AT MOST 1048576: true; the input reads as it did. -/
def fnExactLayOutUptoRow : OpenClaim := { program := "ytbmmajdacebncaa", sum := "bc90a7dce4656a757fe896430c4d99a85addf8063050527e576cb75f84d8875b", func := "loop.example/g00605/laws.FnExactLayOut", spec := "fnExactLayOut", apart := false, narrowed := true }
def FnExactLayOutUptoSaid : Prop := fnExactLayOutUptoRow.holds Try.pinned (OpenSpec.upto fnExactLayOutSpec)

/-- 'laws.FnExactIsWalk', WHERE WHAT IT READS IS OF BULK AT MOST 1048576: true; the input reads as it did. -/
def fnExactIsWalkUptoRow : OpenClaim := { program := "ytbmmajdacebncaa", sum := "bc90a7dce4656a757fe896430c4d99a85addf8063050527e576cb75f84d8875b", func := "loop.example/g00605/laws.FnExactIsWalk", spec := "fnExactIsWalk", apart := false, narrowed := true }
def FnExactIsWalkUptoSaid : Prop := fnExactIsWalkUptoRow.holds Try.pinned (OpenSpec.upto fnExactIsWalkSpec)

/-- 'laws.FnExactLaidWalk', WHERE WHAT IT READS IS OF BULK AT MOST 1048576: true; the input reads as it did. -/
def fnExactLaidWalkUptoRow : OpenClaim := { program := "ytbmmajdacebncaa", sum := "bc90a7dce4656a757fe896430c4d99a85addf8063050527e576cb75f84d8875b", func := "loop.example/g00605/laws.FnExactLaidWalk", spec := "fnExactLaidWalk", apart := false, narrowed := true }
def FnExactLaidWalkUptoSaid : Prop := fnExactLaidWalkUptoRow.holds Try.pinned (OpenSpec.upto fnExactLaidWalkSpec)

/-- 'laws.FnExactBackArcs', WHERE WHAT IT READS IS OF BULK AT MOST 1048576: true; the input reads as it did. -/
def fnExactBackArcsUptoRow : OpenClaim := { program := "ytbmmajdacebncaa", sum := "bc90a7dce4656a757fe896430c4d99a85addf8063050527e576cb75f84d8875b", func := "loop.example/g00605/laws.FnExactBackArcs", spec := "fnExactBackArcs", apart := false, narrowed := true }
def FnExactBackArcsUptoSaid : Prop := fnExactBackArcsUptoRow.holds Try.pinned (OpenSpec.upto fnExactBackArcsSpec)

/-- 'laws.FnExactReachWithin', WHERE WHAT IT READS IS OF BULK AT MOST 1048576: true; the input reads as it did. -/
def fnExactReachWithinUptoRow : OpenClaim := { program := "ytbmmajdacebncaa", sum := "bc90a7dce4656a757fe896430c4d99a85addf8063050527e576cb75f84d8875b", func := "loop.example/g00605/laws.FnExactReachWithin", spec := "fnExactReachWithin", apart := false, narrowed := true }
def FnExactReachWithinUptoSaid : Prop := fnExactReachWithinUptoRow.holds Try.pinned (OpenSpec.upto fnExactReachWithinSpec)

/-- 'laws.FnExactEnoughFor', WHERE WHAT IT READS IS OF BULK AT MOST 1048576: true; the input reads as it did. -/
def fnExactEnoughForUptoRow : OpenClaim := { program := "ytbmmajdacebncaa", sum := "bc90a7dce4656a757fe896430c4d99a85addf8063050527e576cb75f84d8875b", func := "loop.example/g00605/laws.FnExactEnoughFor", spec := "fnExactEnoughFor", apart := false, narrowed := true }
def FnExactEnoughForUptoSaid : Prop := fnExactEnoughForUptoRow.holds Try.pinned (OpenSpec.upto fnExactEnoughForSpec)

/-- 'laws.FnExactWalksOf', WHERE WHAT IT READS IS OF BULK AT MOST 1048576: true; the input reads as it did. -/
def fnExactWalksOfUptoRow : OpenClaim := { program := "ytbmmajdacebncaa", sum := "bc90a7dce4656a757fe896430c4d99a85addf8063050527e576cb75f84d8875b", func := "loop.example/g00605/laws.FnExactWalksOf", spec := "fnExactWalksOf", apart := false, narrowed := true }
def FnExactWalksOfUptoSaid : Prop := fnExactWalksOfUptoRow.holds Try.pinned (OpenSpec.upto fnExactWalksOfSpec)

end Rows
end Go.Proofs.Ytbmmajdacebncaa
