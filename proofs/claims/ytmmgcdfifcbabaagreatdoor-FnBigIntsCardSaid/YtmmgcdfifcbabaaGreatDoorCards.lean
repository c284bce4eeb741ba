/-
  DERIVED. GIVEN WITH THE SEED: THE CARDS: each row of YtmmgcdfifcbabaaGreatDoorRows.lean that lists a variable, with what it lists TIED to the program's text (the seventh form; the later family's looks); each row that meets fmt, with fmt's text TOLD by the authors' own Lean function (tested against real Go, not proved from fmt's source: count such statements apart). THE CARD IS WHAT COUNTS. Prove the row's statement (the work); the ties are given (YtmmgcdfifcbabaaGreatDoorTie.lean); close each card by the builder's one call (the guide's Derived/Test/ToyasCard.lean, 'card_holds'). Laid BY PROGRAM, IN A SANDBOX (cutbox-door.mjs). By AI agents, Wed Nov 11 2026. No macro, syntax, notation, axiom, sorry.
-/
import Derived.Test.YtmmgcdfifcbabaaGreatDoorRows
import GoSem.ClaimSeven
namespace Go.Proofs.YtmmgcdfifcbabaaGreatDoor
namespace Rows

/-- THE TIED CARD OF 'laws.FnBigInts'. -/
def fnBigIntsCard : Claim7 := { stood := { row := fnBigIntsRow, standIns := [], harness := (true, "880b4a5a713f9eda1313abb64ea4b6789ae45f2e92d11bf0ab1ff11b63890b8a"), looks := true }, kinds := [], alts := [], laidByText := true, laidKinds := [.data, .data, .data, .sentinel, .sentinel], laidTests := true, laidLooks := .later }
def FnBigIntsCardSaid : Prop := Claim7.holds Tryz.pinned (.plain (OpenSpec.ofChange fnBigIntsSpec)) fnBigIntsCard

/-- THE SECOND FORM's CARD OF 'laws.FnBigInts'. -/
def fnBigIntsUptoCard : Claim7 := { stood := { row := fnBigIntsUptoRow, standIns := [], harness := (true, "880b4a5a713f9eda1313abb64ea4b6789ae45f2e92d11bf0ab1ff11b63890b8a"), looks := true }, kinds := [], alts := [], laidByText := true, laidKinds := [.data, .data, .data, .sentinel, .sentinel], laidTests := true, laidLooks := .later }
def FnBigIntsUptoCardSaid : Prop := Claim7.holds Tryz.pinned (.plain (OpenSpec.upto fnBigIntsSpec)) fnBigIntsUptoCard
end Rows
end Go.Proofs.YtmmgcdfifcbabaaGreatDoor
