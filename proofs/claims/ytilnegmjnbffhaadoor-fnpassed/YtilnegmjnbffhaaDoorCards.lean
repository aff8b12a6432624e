/-
  DERIVED. GIVEN WITH THE SEED: THE CARDS: each row of YtilnegmjnbffhaaDoorRows.lean that lists a variable, with what it lists TIED to the program's text (the seventh form; the later family's looks); each row that meets fmt, with fmt's text TOLD by the authors' own Lean function (tested against real Go, not proved from fmt's source: count such statements apart). THE CARD IS WHAT COUNTS. Prove the row's statement (the work); the ties are given (YtilnegmjnbffhaaDoorTie.lean); close each card by the builder's one call (the guide's Derived/Test/ToyasCard.lean, 'card_holds'). Laid BY PROGRAM, IN A SANDBOX (cutbox-door.mjs). By AI agents, Wed Nov 11 2026. No macro, syntax, notation, axiom, sorry.
-/
import Derived.Test.YtilnegmjnbffhaaDoorRows
import GoSem.ClaimSeven
namespace Go.Proofs.YtilnegmjnbffhaaDoor
namespace Rows

/-- THE TIED CARD OF 'laws.FnPassed'. -/
def fnPassedCard : Claim7 := { stood := { row := fnPassedRow, standIns := [], harness := (true, "244cca228d9e1915a0e6f22f27f78fbec42a6d88e7d137b8d6d3bec55fb85faf"), looks := true }, kinds := [], alts := [], laidByText := true, laidKinds := [.data], laidTests := true, laidLooks := .later }
def FnPassedCardSaid : Prop := Claim7.holds Tryd.pinned (.plain (OpenSpec.ofChange fnPassedSpec)) fnPassedCard

/-- THE SECOND FORM's CARD OF 'laws.FnPassed'. -/
def fnPassedUptoCard : Claim7 := { stood := { row := fnPassedUptoRow, standIns := [], harness := (true, "244cca228d9e1915a0e6f22f27f78fbec42a6d88e7d137b8d6d3bec55fb85faf"), looks := true }, kinds := [], alts := [], laidByText := true, laidKinds := [.data], laidTests := true, laidLooks := .later }
def FnPassedUptoCardSaid : Prop := Claim7.holds Tryd.pinned (.plain (OpenSpec.upto fnPassedSpec)) fnPassedUptoCard
end Rows
end Go.Proofs.YtilnegmjnbffhaaDoor
