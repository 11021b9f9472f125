/-
  DERIVED. GIVEN WITH THE SEED: THE CARDS: each row of YtplmfmpbkjnbaaaGreatDoorRows.lean that lists a variable, with what it lists TIED to the program's text (the seventh form; the later family's looks); each row that meets fmt, with fmt's text TOLD by the authors' own Lean function (tested against real Go, not proved from fmt's source: count such statements apart). THE CARD IS WHAT COUNTS. Prove the row's statement (the work); the ties are given (YtplmfmpbkjnbaaaGreatDoorTie.lean); close each card by the builder's one call (the guide's Derived/Test/ToyasCard.lean, 'card_holds'). Laid BY PROGRAM, IN A SANDBOX (cutbox-door.mjs). By AI agents, Wed Nov 11 2026. No macro, syntax, notation, axiom, sorry.
-/
import Derived.Test.YtplmfmpbkjnbaaaGreatDoorRows
import GoSem.ClaimSeven
namespace Go.Proofs.YtplmfmpbkjnbaaaGreatDoor
namespace Rows

/-- THE TIED CARD OF 'carlinglaw16.CommitPlans'. -/
def commitPlansCard : Claim7 := { stood := { row := commitPlansRow, standIns := [], harness := (true, "766d0d9dcc6f1d961800599c6b44ada791361db382611f6f5827d18edc6b7364"), looks := false }, kinds := [], alts := [], laidByText := true, laidKinds := [.data, .data, .data, .data], laidTests := true, laidLooks := .later }
def CommitPlansCardSaid : Prop := Claim7.holds Tryz.pinned (.plain (OpenSpec.ofChange commitPlansSpec)) commitPlansCard

/-- THE TIED CARD OF 'carlinglaw16.CommitLays'. -/
def commitLaysCard : Claim7 := { stood := { row := commitLaysRow, standIns := [], harness := (true, "766d0d9dcc6f1d961800599c6b44ada791361db382611f6f5827d18edc6b7364"), looks := false }, kinds := [], alts := [], laidByText := true, laidKinds := [.data, .data, .data, .data], laidTests := true, laidLooks := .later }
def CommitLaysCardSaid : Prop := Claim7.holds Tryz.pinned (.plain (OpenSpec.ofChange commitLaysSpec)) commitLaysCard

/-- THE TIED CARD OF 'carlinglaw17.EagerPlays'. -/
def eagerPlaysCard : Claim7 := { stood := { row := eagerPlaysRow, standIns := [], harness := (true, "766d0d9dcc6f1d961800599c6b44ada791361db382611f6f5827d18edc6b7364"), looks := false }, kinds := [], alts := [], laidByText := true, laidKinds := [.data, .data, .data, .data], laidTests := true, laidLooks := .later }
def EagerPlaysCardSaid : Prop := Claim7.holds Tryz.pinned (.plain (OpenSpec.ofChange eagerPlaysSpec)) eagerPlaysCard

/-- THE TIED CARD OF 'carlinglaw17.EagerMounts'. -/
def eagerMountsCard : Claim7 := { stood := { row := eagerMountsRow, standIns := [], harness := (true, "766d0d9dcc6f1d961800599c6b44ada791361db382611f6f5827d18edc6b7364"), looks := false }, kinds := [], alts := [], laidByText := true, laidKinds := [.data, .data, .data, .data], laidTests := true, laidLooks := .later }
def EagerMountsCardSaid : Prop := Claim7.holds Tryz.pinned (.plain (OpenSpec.ofChange eagerMountsSpec)) eagerMountsCard

/-- THE TIED CARD OF 'carlinglaw17.EagerAnew'. -/
def eagerAnewCard : Claim7 := { stood := { row := eagerAnewRow, standIns := [], harness := (true, "766d0d9dcc6f1d961800599c6b44ada791361db382611f6f5827d18edc6b7364"), looks := false }, kinds := [], alts := [], laidByText := true, laidKinds := [.data, .data, .data, .data], laidTests := true, laidLooks := .later }
def EagerAnewCardSaid : Prop := Claim7.holds Tryz.pinned (.plain (OpenSpec.ofChange eagerAnewSpec)) eagerAnewCard

/-- THE SECOND FORM's CARD OF 'carlinglaw16.CommitPlans'. -/
def commitPlansUptoCard : Claim7 := { stood := { row := commitPlansUptoRow, standIns := [], harness := (true, "766d0d9dcc6f1d961800599c6b44ada791361db382611f6f5827d18edc6b7364"), looks := false }, kinds := [], alts := [], laidByText := true, laidKinds := [.data, .data, .data, .data], laidTests := true, laidLooks := .later }
def CommitPlansUptoCardSaid : Prop := Claim7.holds Tryz.pinned (.plain (OpenSpec.upto commitPlansSpec)) commitPlansUptoCard

/-- THE SECOND FORM's CARD OF 'carlinglaw16.CommitLays'. -/
def commitLaysUptoCard : Claim7 := { stood := { row := commitLaysUptoRow, standIns := [], harness := (true, "766d0d9dcc6f1d961800599c6b44ada791361db382611f6f5827d18edc6b7364"), looks := false }, kinds := [], alts := [], laidByText := true, laidKinds := [.data, .data, .data, .data], laidTests := true, laidLooks := .later }
def CommitLaysUptoCardSaid : Prop := Claim7.holds Tryz.pinned (.plain (OpenSpec.upto commitLaysSpec)) commitLaysUptoCard

/-- THE SECOND FORM's CARD OF 'carlinglaw17.EagerPlays'. -/
def eagerPlaysUptoCard : Claim7 := { stood := { row := eagerPlaysUptoRow, standIns := [], harness := (true, "766d0d9dcc6f1d961800599c6b44ada791361db382611f6f5827d18edc6b7364"), looks := false }, kinds := [], alts := [], laidByText := true, laidKinds := [.data, .data, .data, .data], laidTests := true, laidLooks := .later }
def EagerPlaysUptoCardSaid : Prop := Claim7.holds Tryz.pinned (.plain (OpenSpec.upto eagerPlaysSpec)) eagerPlaysUptoCard

/-- THE SECOND FORM's CARD OF 'carlinglaw17.EagerMounts'. -/
def eagerMountsUptoCard : Claim7 := { stood := { row := eagerMountsUptoRow, standIns := [], harness := (true, "766d0d9dcc6f1d961800599c6b44ada791361db382611f6f5827d18edc6b7364"), looks := false }, kinds := [], alts := [], laidByText := true, laidKinds := [.data, .data, .data, .data], laidTests := true, laidLooks := .later }
def EagerMountsUptoCardSaid : Prop := Claim7.holds Tryz.pinned (.plain (OpenSpec.upto eagerMountsSpec)) eagerMountsUptoCard

/-- THE SECOND FORM's CARD OF 'carlinglaw17.EagerAnew'. -/
def eagerAnewUptoCard : Claim7 := { stood := { row := eagerAnewUptoRow, standIns := [], harness := (true, "766d0d9dcc6f1d961800599c6b44ada791361db382611f6f5827d18edc6b7364"), looks := false }, kinds := [], alts := [], laidByText := true, laidKinds := [.data, .data, .data, .data], laidTests := true, laidLooks := .later }
def EagerAnewUptoCardSaid : Prop := Claim7.holds Tryz.pinned (.plain (OpenSpec.upto eagerAnewSpec)) eagerAnewUptoCard
end Rows
end Go.Proofs.YtplmfmpbkjnbaaaGreatDoor
