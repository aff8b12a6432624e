/-
  DERIVED. GIVEN WITH THE SEED: THE CARDS: each row of YtkffggnajoohfaaDoorRows.lean that lists a variable, with what it lists TIED to the program's text (the seventh form; the later family's looks); each row that meets fmt, with fmt's text TOLD by the authors' own Lean function (tested against real Go, not proved from fmt's source: count such statements apart). THE CARD IS WHAT COUNTS. Prove the row's statement (the work); the ties are given (YtkffggnajoohfaaDoorTie.lean); close each card by the builder's one call (the guide's Derived/Test/ToyasCard.lean, 'card_holds'). Laid BY PROGRAM, IN A SANDBOX (cutbox-door.mjs). By AI agents, Wed Nov 11 2026. No macro, syntax, notation, axiom, sorry.
-/
import Derived.Test.YtkffggnajoohfaaDoorRows
import GoSem.ClaimSeven
namespace Go.Proofs.YtkffggnajoohfaaDoor
namespace Rows

/-- THE TIED CARD OF 'laws.FnSteps'. -/
def fnStepsCard : Claim7 := { stood := { row := fnStepsRow, standIns := [], harness := (true, "f257d510166c6f0a796add58b4fc3234245465ae79798892ba79e952376e98ef"), looks := true }, kinds := [], alts := [], laidByText := true, laidKinds := [.data], laidTests := true, laidLooks := .later }
def FnStepsCardSaid : Prop := Claim7.holds Tryd.pinned (.plain (OpenSpec.ofChange fnStepsSpec)) fnStepsCard

/-- THE TIED CARD OF 'laws.FnStretches'. -/
def fnStretchesCard : Claim7 := { stood := { row := fnStretchesRow, standIns := [], harness := (true, "f257d510166c6f0a796add58b4fc3234245465ae79798892ba79e952376e98ef"), looks := true }, kinds := [], alts := [], laidByText := true, laidKinds := [.data], laidTests := true, laidLooks := .later }
def FnStretchesCardSaid : Prop := Claim7.holds Tryd.pinned (.plain (OpenSpec.ofChange fnStretchesSpec)) fnStretchesCard

/-- THE TIED CARD OF 'laws.FnExactDoStretch'. -/
def fnExactDoStretchCard : Claim7 := { stood := { row := fnExactDoStretchRow, standIns := [], harness := (true, "f257d510166c6f0a796add58b4fc3234245465ae79798892ba79e952376e98ef"), looks := true }, kinds := [], alts := [], laidByText := true, laidKinds := [.data], laidTests := true, laidLooks := .later }
def FnExactDoStretchCardSaid : Prop := Claim7.holds Tryd.pinned (.plain (OpenSpec.ofChange fnExactDoStretchSpec)) fnExactDoStretchCard

/-- THE SECOND FORM's CARD OF 'laws.FnSteps'. -/
def fnStepsUptoCard : Claim7 := { stood := { row := fnStepsUptoRow, standIns := [], harness := (true, "f257d510166c6f0a796add58b4fc3234245465ae79798892ba79e952376e98ef"), looks := true }, kinds := [], alts := [], laidByText := true, laidKinds := [.data], laidTests := true, laidLooks := .later }
def FnStepsUptoCardSaid : Prop := Claim7.holds Tryd.pinned (.plain (OpenSpec.upto fnStepsSpec)) fnStepsUptoCard

/-- THE SECOND FORM's CARD OF 'laws.FnStretches'. -/
def fnStretchesUptoCard : Claim7 := { stood := { row := fnStretchesUptoRow, standIns := [], harness := (true, "f257d510166c6f0a796add58b4fc3234245465ae79798892ba79e952376e98ef"), looks := true }, kinds := [], alts := [], laidByText := true, laidKinds := [.data], laidTests := true, laidLooks := .later }
def FnStretchesUptoCardSaid : Prop := Claim7.holds Tryd.pinned (.plain (OpenSpec.upto fnStretchesSpec)) fnStretchesUptoCard

/-- THE SECOND FORM's CARD OF 'laws.FnExactDoStretch'. -/
def fnExactDoStretchUptoCard : Claim7 := { stood := { row := fnExactDoStretchUptoRow, standIns := [], harness := (true, "f257d510166c6f0a796add58b4fc3234245465ae79798892ba79e952376e98ef"), looks := true }, kinds := [], alts := [], laidByText := true, laidKinds := [.data], laidTests := true, laidLooks := .later }
def FnExactDoStretchUptoCardSaid : Prop := Claim7.holds Tryd.pinned (.plain (OpenSpec.upto fnExactDoStretchSpec)) fnExactDoStretchUptoCard
end Rows
end Go.Proofs.YtkffggnajoohfaaDoor
