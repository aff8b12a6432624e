/-
  DERIVED. GIVEN WITH THE SEED: THE CARDS: each row of YtcacceapdjkgeaaDoorRows.lean that lists a variable, with what it lists TIED to the program's text (the seventh form; the later family's looks); each row that meets fmt, with fmt's text TOLD by the authors' own Lean function (tested against real Go, not proved from fmt's source: count such statements apart). THE CARD IS WHAT COUNTS. Prove the row's statement (the work); the ties are given (YtcacceapdjkgeaaDoorTie.lean); close each card by the builder's one call (the guide's Derived/Test/ToyasCard.lean, 'card_holds'). Laid BY PROGRAM, IN A SANDBOX (cutbox-door.mjs). By AI agents, Wed Nov 11 2026. No macro, syntax, notation, axiom, sorry.
-/
import Derived.Test.YtcacceapdjkgeaaDoorRows
import GoSem.ClaimSeven
namespace Go.Proofs.YtcacceapdjkgeaaDoor
namespace Rows

/-- THE TIED CARD OF 'laws.FnWords'. -/
def fnWordsCard : Claim7 := { stood := { row := fnWordsRow, standIns := [], harness := (true, "0ad5af517c12293665e403013df491e9b0184bb38406cbda7a3678d4f74c7e46"), looks := false }, kinds := [], alts := [], laidByText := true, laidKinds := [.data, .data], laidTests := true, laidLooks := .later }
def FnWordsCardSaid : Prop := Claim7.holds Tryd.pinned (.plain (OpenSpec.ofChange fnWordsSpec)) fnWordsCard

/-- THE TIED CARD OF 'laws.FnExactDoOp'. -/
def fnExactDoOpCard : Claim7 := { stood := { row := fnExactDoOpRow, standIns := [], harness := (true, "0ad5af517c12293665e403013df491e9b0184bb38406cbda7a3678d4f74c7e46"), looks := false }, kinds := [], alts := [], laidByText := true, laidKinds := [.data], laidTests := true, laidLooks := .later }
def FnExactDoOpCardSaid : Prop := Claim7.holds Tryd.pinned (.plain (OpenSpec.ofChange fnExactDoOpSpec)) fnExactDoOpCard

/-- THE TIED CARD OF 'laws.FnExactCountBits'. -/
def fnExactCountBitsCard : Claim7 := { stood := { row := fnExactCountBitsRow, standIns := [], harness := (true, "0ad5af517c12293665e403013df491e9b0184bb38406cbda7a3678d4f74c7e46"), looks := false }, kinds := [], alts := [], laidByText := true, laidKinds := [.data], laidTests := true, laidLooks := .later }
def FnExactCountBitsCardSaid : Prop := Claim7.holds Tryd.pinned (.plain (OpenSpec.ofChange fnExactCountBitsSpec)) fnExactCountBitsCard

/-- THE SECOND FORM's CARD OF 'laws.FnWords'. -/
def fnWordsUptoCard : Claim7 := { stood := { row := fnWordsUptoRow, standIns := [], harness := (true, "0ad5af517c12293665e403013df491e9b0184bb38406cbda7a3678d4f74c7e46"), looks := false }, kinds := [], alts := [], laidByText := true, laidKinds := [.data, .data], laidTests := true, laidLooks := .later }
def FnWordsUptoCardSaid : Prop := Claim7.holds Tryd.pinned (.plain (OpenSpec.upto fnWordsSpec)) fnWordsUptoCard

/-- THE SECOND FORM's CARD OF 'laws.FnExactDoOp'. -/
def fnExactDoOpUptoCard : Claim7 := { stood := { row := fnExactDoOpUptoRow, standIns := [], harness := (true, "0ad5af517c12293665e403013df491e9b0184bb38406cbda7a3678d4f74c7e46"), looks := false }, kinds := [], alts := [], laidByText := true, laidKinds := [.data], laidTests := true, laidLooks := .later }
def FnExactDoOpUptoCardSaid : Prop := Claim7.holds Tryd.pinned (.plain (OpenSpec.upto fnExactDoOpSpec)) fnExactDoOpUptoCard

/-- THE SECOND FORM's CARD OF 'laws.FnExactCountBits'. -/
def fnExactCountBitsUptoCard : Claim7 := { stood := { row := fnExactCountBitsUptoRow, standIns := [], harness := (true, "0ad5af517c12293665e403013df491e9b0184bb38406cbda7a3678d4f74c7e46"), looks := false }, kinds := [], alts := [], laidByText := true, laidKinds := [.data], laidTests := true, laidLooks := .later }
def FnExactCountBitsUptoCardSaid : Prop := Claim7.holds Tryd.pinned (.plain (OpenSpec.upto fnExactCountBitsSpec)) fnExactCountBitsUptoCard
end Rows
end Go.Proofs.YtcacceapdjkgeaaDoor
