/-
  DERIVED. GIVEN WITH THE SEED: THE CARDS: each row of YtpcllhdfalebbaaGreatDoorRows.lean that lists a variable, with what it lists TIED to the program's text (the seventh form; the later family's looks); each row that meets fmt, with fmt's text TOLD by the authors' own Lean function (tested against real Go, not proved from fmt's source: count such statements apart). THE CARD IS WHAT COUNTS. Prove the row's statement (the work); the ties are given (YtpcllhdfalebbaaGreatDoorTie.lean); close each card by the builder's one call (the guide's Derived/Test/ToyasCard.lean, 'card_holds'). Laid BY PROGRAM, IN A SANDBOX (cutbox-door.mjs). By AI agents, Wed Nov 11 2026. No macro, syntax, notation, axiom, sorry.
-/
import Derived.Test.YtpcllhdfalebbaaGreatDoorRows
import GoSem.ClaimSeven
namespace Go.Proofs.YtpcllhdfalebbaaGreatDoor
namespace Rows

/-- THE TIED CARD OF 'triviumlaw09.RatioParses'. -/
def ratioParsesCard : Claim7 := { stood := { row := ratioParsesRow, standIns := [], harness := (true, "2c337dfca39d737ad4bc26be09ea9d0e5718ef97c7b846df125e37be86f80721"), looks := false }, kinds := [], alts := [], laidByText := true, laidKinds := [.data, .pinned], laidTests := true, laidLooks := .later }
def RatioParsesCardSaid : Prop := Claim7.holds Tryz.pinned (.plain (OpenSpec.ofChange ratioParsesSpec)) ratioParsesCard

/-- THE TIED CARD OF 'triviumlaw09.RatioPrints'. -/
def ratioPrintsCard : Claim7 := { stood := { row := ratioPrintsRow, standIns := [], harness := (true, "2c337dfca39d737ad4bc26be09ea9d0e5718ef97c7b846df125e37be86f80721"), looks := false }, kinds := [], alts := [], laidByText := true, laidKinds := [.data, .pinned], laidTests := true, laidLooks := .later }
def RatioPrintsCardSaid : Prop := Claim7.holds Tryz.pinned (.plain (OpenSpec.ofChange ratioPrintsSpec)) ratioPrintsCard

/-- THE TIED CARD OF 'triviumlaw09.RatioBack'. -/
def ratioBackCard : Claim7 := { stood := { row := ratioBackRow, standIns := [], harness := (true, "2c337dfca39d737ad4bc26be09ea9d0e5718ef97c7b846df125e37be86f80721"), looks := false }, kinds := [], alts := [], laidByText := true, laidKinds := [.data, .pinned], laidTests := true, laidLooks := .later }
def RatioBackCardSaid : Prop := Claim7.holds Tryz.pinned (.plain (OpenSpec.ofChange ratioBackSpec)) ratioBackCard

/-- THE SECOND FORM's CARD OF 'triviumlaw09.RatioParses'. -/
def ratioParsesUptoCard : Claim7 := { stood := { row := ratioParsesUptoRow, standIns := [], harness := (true, "2c337dfca39d737ad4bc26be09ea9d0e5718ef97c7b846df125e37be86f80721"), looks := false }, kinds := [], alts := [], laidByText := true, laidKinds := [.data, .pinned], laidTests := true, laidLooks := .later }
def RatioParsesUptoCardSaid : Prop := Claim7.holds Tryz.pinned (.plain (OpenSpec.upto ratioParsesSpec)) ratioParsesUptoCard

/-- THE SECOND FORM's CARD OF 'triviumlaw09.RatioPrints'. -/
def ratioPrintsUptoCard : Claim7 := { stood := { row := ratioPrintsUptoRow, standIns := [], harness := (true, "2c337dfca39d737ad4bc26be09ea9d0e5718ef97c7b846df125e37be86f80721"), looks := false }, kinds := [], alts := [], laidByText := true, laidKinds := [.data, .pinned], laidTests := true, laidLooks := .later }
def RatioPrintsUptoCardSaid : Prop := Claim7.holds Tryz.pinned (.plain (OpenSpec.upto ratioPrintsSpec)) ratioPrintsUptoCard

/-- THE SECOND FORM's CARD OF 'triviumlaw09.RatioBack'. -/
def ratioBackUptoCard : Claim7 := { stood := { row := ratioBackUptoRow, standIns := [], harness := (true, "2c337dfca39d737ad4bc26be09ea9d0e5718ef97c7b846df125e37be86f80721"), looks := false }, kinds := [], alts := [], laidByText := true, laidKinds := [.data, .pinned], laidTests := true, laidLooks := .later }
def RatioBackUptoCardSaid : Prop := Claim7.holds Tryz.pinned (.plain (OpenSpec.upto ratioBackSpec)) ratioBackUptoCard
end Rows
end Go.Proofs.YtpcllhdfalebbaaGreatDoor
