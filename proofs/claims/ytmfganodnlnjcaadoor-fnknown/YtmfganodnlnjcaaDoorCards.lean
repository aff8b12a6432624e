/-
  DERIVED. GIVEN WITH THE SEED: THE CARDS: each row of YtmfganodnlnjcaaDoorRows.lean that lists a variable, with what it lists TIED to the program's text (the seventh form; the later family's looks); each row that meets fmt, with fmt's text TOLD by the authors' own Lean function (tested against real Go, not proved from fmt's source: count such statements apart). THE CARD IS WHAT COUNTS. Prove the row's statement (the work); the ties are given (YtmfganodnlnjcaaDoorTie.lean); close each card by the builder's one call (the guide's Derived/Test/ToyasCard.lean, 'card_holds'). Laid BY PROGRAM, IN A SANDBOX (cutbox-door.mjs). By AI agents, Wed Nov 11 2026. No macro, syntax, notation, axiom, sorry.
-/
import Derived.Test.YtmfganodnlnjcaaDoorRows
import GoSem.ClaimSeven
namespace Go.Proofs.YtmfganodnlnjcaaDoor
namespace Rows

/-- THE TIED CARD OF 'laws.FnKnown'. -/
def fnKnownCard : Claim7 := { stood := { row := fnKnownRow, standIns := [], harness := (true, "02ac26bf3e5391ff2d9f0af3505df1713bf89de834ab76e0c8b2fb7eedafdcd7"), looks := false }, kinds := [], alts := [], laidByText := true, laidKinds := [.data, .data], laidTests := true, laidLooks := .later }
def FnKnownCardSaid : Prop := Claim7.holds Tryd.pinned (.plain (OpenSpec.ofChange fnKnownSpec)) fnKnownCard

/-- THE TIED CARD OF 'laws.FnBits'. -/
def fnBitsCard : Claim7 := { stood := { row := fnBitsRow, standIns := [], harness := (true, "02ac26bf3e5391ff2d9f0af3505df1713bf89de834ab76e0c8b2fb7eedafdcd7"), looks := false }, kinds := [], alts := [], laidByText := true, laidKinds := [.data], laidTests := true, laidLooks := .later }
def FnBitsCardSaid : Prop := Claim7.holds Tryd.pinned (.plain (OpenSpec.ofChange fnBitsSpec)) fnBitsCard

/-- THE TIED CARD OF 'laws.FnExactDoKnown'. -/
def fnExactDoKnownCard : Claim7 := { stood := { row := fnExactDoKnownRow, standIns := [], harness := (true, "02ac26bf3e5391ff2d9f0af3505df1713bf89de834ab76e0c8b2fb7eedafdcd7"), looks := false }, kinds := [], alts := [], laidByText := true, laidKinds := [.data], laidTests := true, laidLooks := .later }
def FnExactDoKnownCardSaid : Prop := Claim7.holds Tryd.pinned (.plain (OpenSpec.ofChange fnExactDoKnownSpec)) fnExactDoKnownCard

/-- THE TIED CARD OF 'laws.FnExactNumberAt'. -/
def fnExactNumberAtCard : Claim7 := { stood := { row := fnExactNumberAtRow, standIns := [], harness := (true, "02ac26bf3e5391ff2d9f0af3505df1713bf89de834ab76e0c8b2fb7eedafdcd7"), looks := false }, kinds := [], alts := [], laidByText := true, laidKinds := [.data], laidTests := true, laidLooks := .later }
def FnExactNumberAtCardSaid : Prop := Claim7.holds Tryd.pinned (.plain (OpenSpec.ofChange fnExactNumberAtSpec)) fnExactNumberAtCard

/-- THE TIED CARD OF 'laws.FnExactWaysOf'. -/
def fnExactWaysOfCard : Claim7 := { stood := { row := fnExactWaysOfRow, standIns := [], harness := (true, "02ac26bf3e5391ff2d9f0af3505df1713bf89de834ab76e0c8b2fb7eedafdcd7"), looks := false }, kinds := [], alts := [], laidByText := true, laidKinds := [.data], laidTests := true, laidLooks := .later }
def FnExactWaysOfCardSaid : Prop := Claim7.holds Tryd.pinned (.plain (OpenSpec.ofChange fnExactWaysOfSpec)) fnExactWaysOfCard

/-- THE SECOND FORM's CARD OF 'laws.FnKnown'. -/
def fnKnownUptoCard : Claim7 := { stood := { row := fnKnownUptoRow, standIns := [], harness := (true, "02ac26bf3e5391ff2d9f0af3505df1713bf89de834ab76e0c8b2fb7eedafdcd7"), looks := false }, kinds := [], alts := [], laidByText := true, laidKinds := [.data, .data], laidTests := true, laidLooks := .later }
def FnKnownUptoCardSaid : Prop := Claim7.holds Tryd.pinned (.plain (OpenSpec.upto fnKnownSpec)) fnKnownUptoCard

/-- THE SECOND FORM's CARD OF 'laws.FnBits'. -/
def fnBitsUptoCard : Claim7 := { stood := { row := fnBitsUptoRow, standIns := [], harness := (true, "02ac26bf3e5391ff2d9f0af3505df1713bf89de834ab76e0c8b2fb7eedafdcd7"), looks := false }, kinds := [], alts := [], laidByText := true, laidKinds := [.data], laidTests := true, laidLooks := .later }
def FnBitsUptoCardSaid : Prop := Claim7.holds Tryd.pinned (.plain (OpenSpec.upto fnBitsSpec)) fnBitsUptoCard

/-- THE SECOND FORM's CARD OF 'laws.FnExactDoKnown'. -/
def fnExactDoKnownUptoCard : Claim7 := { stood := { row := fnExactDoKnownUptoRow, standIns := [], harness := (true, "02ac26bf3e5391ff2d9f0af3505df1713bf89de834ab76e0c8b2fb7eedafdcd7"), looks := false }, kinds := [], alts := [], laidByText := true, laidKinds := [.data], laidTests := true, laidLooks := .later }
def FnExactDoKnownUptoCardSaid : Prop := Claim7.holds Tryd.pinned (.plain (OpenSpec.upto fnExactDoKnownSpec)) fnExactDoKnownUptoCard

/-- THE SECOND FORM's CARD OF 'laws.FnExactNumberAt'. -/
def fnExactNumberAtUptoCard : Claim7 := { stood := { row := fnExactNumberAtUptoRow, standIns := [], harness := (true, "02ac26bf3e5391ff2d9f0af3505df1713bf89de834ab76e0c8b2fb7eedafdcd7"), looks := false }, kinds := [], alts := [], laidByText := true, laidKinds := [.data], laidTests := true, laidLooks := .later }
def FnExactNumberAtUptoCardSaid : Prop := Claim7.holds Tryd.pinned (.plain (OpenSpec.upto fnExactNumberAtSpec)) fnExactNumberAtUptoCard

/-- THE SECOND FORM's CARD OF 'laws.FnExactWaysOf'. -/
def fnExactWaysOfUptoCard : Claim7 := { stood := { row := fnExactWaysOfUptoRow, standIns := [], harness := (true, "02ac26bf3e5391ff2d9f0af3505df1713bf89de834ab76e0c8b2fb7eedafdcd7"), looks := false }, kinds := [], alts := [], laidByText := true, laidKinds := [.data], laidTests := true, laidLooks := .later }
def FnExactWaysOfUptoCardSaid : Prop := Claim7.holds Tryd.pinned (.plain (OpenSpec.upto fnExactWaysOfSpec)) fnExactWaysOfUptoCard
end Rows
end Go.Proofs.YtmfganodnlnjcaaDoor
