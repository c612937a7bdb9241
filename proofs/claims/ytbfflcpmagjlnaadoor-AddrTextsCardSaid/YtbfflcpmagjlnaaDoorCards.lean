/-
  DERIVED. GIVEN WITH THE SEED: THE CARDS: each row of YtbfflcpmagjlnaaDoorRows.lean that lists a variable, with what it lists TIED to the program's text (the seventh form; the later family's looks); each row that meets fmt, with fmt's text TOLD by the authors' own Lean function (tested against real Go, not proved from fmt's source: count such statements apart). THE CARD IS WHAT COUNTS. Prove the row's statement (the work); the ties are given (YtbfflcpmagjlnaaDoorTie.lean); close each card by the builder's one call (the guide's Derived/Test/ToyasCard.lean, 'card_holds'). Laid BY PROGRAM, IN A SANDBOX (cutbox-door.mjs). By AI agents, Wed Nov 11 2026. No macro, syntax, notation, axiom, sorry.
-/
import Derived.Test.YtbfflcpmagjlnaaDoorRows
import GoSem.ClaimSeven
namespace Go.Proofs.YtbfflcpmagjlnaaDoor
namespace Rows

/-- THE TIED CARD OF 'triviumlaw18.AddrTexts'. -/
def addrTextsCard : Claim7 := { stood := { row := addrTextsRow, standIns := [], harness := (true, "4df7fa99f95fcc366045f0f88b5d4df02ece289b8cfd61addabf6b7b250b4a15"), looks := false }, kinds := [], alts := [], laidByText := true, laidKinds := [.data, .data, .data], laidTests := true, laidLooks := .later }
def AddrTextsCardSaid : Prop := Claim7.holds Tryd.pinned (.plain (OpenSpec.ofChange addrTextsSpec)) addrTextsCard

/-- THE TIED CARD OF 'triviumlaw18.AddrHas'. -/
def addrHasCard : Claim7 := { stood := { row := addrHasRow, standIns := [], harness := (true, "4df7fa99f95fcc366045f0f88b5d4df02ece289b8cfd61addabf6b7b250b4a15"), looks := false }, kinds := [], alts := [], laidByText := true, laidKinds := [.data, .data, .data], laidTests := true, laidLooks := .later }
def AddrHasCardSaid : Prop := Claim7.holds Tryd.pinned (.plain (OpenSpec.ofChange addrHasSpec)) addrHasCard

/-- THE TIED CARD OF 'triviumlaw18.AddrBack'. -/
def addrBackCard : Claim7 := { stood := { row := addrBackRow, standIns := [], harness := (true, "4df7fa99f95fcc366045f0f88b5d4df02ece289b8cfd61addabf6b7b250b4a15"), looks := false }, kinds := [], alts := [], laidByText := true, laidKinds := [.data, .data, .data], laidTests := true, laidLooks := .later }
def AddrBackCardSaid : Prop := Claim7.holds Tryd.pinned (.plain (OpenSpec.ofChange addrBackSpec)) addrBackCard

/-- THE TIED CARD OF 'triviumlaw18.AddrRange'. -/
def addrRangeCard : Claim7 := { stood := { row := addrRangeRow, standIns := [], harness := (true, "4df7fa99f95fcc366045f0f88b5d4df02ece289b8cfd61addabf6b7b250b4a15"), looks := false }, kinds := [], alts := [], laidByText := true, laidKinds := [.data, .data, .data], laidTests := true, laidLooks := .later }
def AddrRangeCardSaid : Prop := Claim7.holds Tryd.pinned (.plain (OpenSpec.ofChange addrRangeSpec)) addrRangeCard

/-- THE SECOND FORM's CARD OF 'triviumlaw18.AddrTexts'. -/
def addrTextsUptoCard : Claim7 := { stood := { row := addrTextsUptoRow, standIns := [], harness := (true, "4df7fa99f95fcc366045f0f88b5d4df02ece289b8cfd61addabf6b7b250b4a15"), looks := false }, kinds := [], alts := [], laidByText := true, laidKinds := [.data, .data, .data], laidTests := true, laidLooks := .later }
def AddrTextsUptoCardSaid : Prop := Claim7.holds Tryd.pinned (.plain (OpenSpec.upto addrTextsSpec)) addrTextsUptoCard

/-- THE SECOND FORM's CARD OF 'triviumlaw18.AddrHas'. -/
def addrHasUptoCard : Claim7 := { stood := { row := addrHasUptoRow, standIns := [], harness := (true, "4df7fa99f95fcc366045f0f88b5d4df02ece289b8cfd61addabf6b7b250b4a15"), looks := false }, kinds := [], alts := [], laidByText := true, laidKinds := [.data, .data, .data], laidTests := true, laidLooks := .later }
def AddrHasUptoCardSaid : Prop := Claim7.holds Tryd.pinned (.plain (OpenSpec.upto addrHasSpec)) addrHasUptoCard

/-- THE SECOND FORM's CARD OF 'triviumlaw18.AddrBack'. -/
def addrBackUptoCard : Claim7 := { stood := { row := addrBackUptoRow, standIns := [], harness := (true, "4df7fa99f95fcc366045f0f88b5d4df02ece289b8cfd61addabf6b7b250b4a15"), looks := false }, kinds := [], alts := [], laidByText := true, laidKinds := [.data, .data, .data], laidTests := true, laidLooks := .later }
def AddrBackUptoCardSaid : Prop := Claim7.holds Tryd.pinned (.plain (OpenSpec.upto addrBackSpec)) addrBackUptoCard

/-- THE SECOND FORM's CARD OF 'triviumlaw18.AddrRange'. -/
def addrRangeUptoCard : Claim7 := { stood := { row := addrRangeUptoRow, standIns := [], harness := (true, "4df7fa99f95fcc366045f0f88b5d4df02ece289b8cfd61addabf6b7b250b4a15"), looks := false }, kinds := [], alts := [], laidByText := true, laidKinds := [.data, .data, .data], laidTests := true, laidLooks := .later }
def AddrRangeUptoCardSaid : Prop := Claim7.holds Tryd.pinned (.plain (OpenSpec.upto addrRangeSpec)) addrRangeUptoCard
end Rows
end Go.Proofs.YtbfflcpmagjlnaaDoor
