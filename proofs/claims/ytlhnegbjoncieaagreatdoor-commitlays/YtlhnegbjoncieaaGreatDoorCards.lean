/-
  DERIVED. GIVEN WITH THE SEED: THE CARDS: each row of YtlhnegbjoncieaaGreatDoorRows.lean that lists a variable, with what it lists TIED to the program's text (the seventh form; the later family's looks); each row that meets fmt, with fmt's text TOLD by the authors' own Lean function (tested against real Go, not proved from fmt's source: count such statements apart). THE CARD IS WHAT COUNTS. Prove the row's statement (the work); the ties are given (YtlhnegbjoncieaaGreatDoorTie.lean); close each card by the builder's one call (the guide's Derived/Test/ToyasCard.lean, 'card_holds'). Laid BY PROGRAM, IN A SANDBOX (cutbox-door.mjs). By AI agents, Wed Nov 11 2026. No macro, syntax, notation, axiom, sorry.
-/
import Derived.Test.YtlhnegbjoncieaaGreatDoorRows
import GoSem.ClaimSeven
namespace Go.Proofs.YtlhnegbjoncieaaGreatDoor
namespace Rows

/-- THE TIED CARD OF 'carlinglaw16.CommitLays'. -/
def commitLaysCard : Claim7 := { stood := { row := commitLaysRow, standIns := [], harness := (true, "1a436904d553c50b4162bc9571b396a2eb8a7634f1180c6b451cef33cb40c89f"), looks := false }, kinds := [], alts := [], laidByText := true, laidKinds := [.data, .data, .data, .data], laidTests := true, laidLooks := .later }
def CommitLaysCardSaid : Prop := Claim7.holds Tryz.pinned (.plain (OpenSpec.ofChange commitLaysSpec)) commitLaysCard

/-- THE TIED CARD OF 'carlinglaw17.EagerPlays'. -/
def eagerPlaysCard : Claim7 := { stood := { row := eagerPlaysRow, standIns := [], harness := (true, "1a436904d553c50b4162bc9571b396a2eb8a7634f1180c6b451cef33cb40c89f"), looks := false }, kinds := [], alts := [], laidByText := true, laidKinds := [.data, .data, .data, .data], laidTests := true, laidLooks := .later }
def EagerPlaysCardSaid : Prop := Claim7.holds Tryz.pinned (.plain (OpenSpec.ofChange eagerPlaysSpec)) eagerPlaysCard

/-- THE TIED CARD OF 'carlinglaw17.EagerMounts'. -/
def eagerMountsCard : Claim7 := { stood := { row := eagerMountsRow, standIns := [], harness := (true, "1a436904d553c50b4162bc9571b396a2eb8a7634f1180c6b451cef33cb40c89f"), looks := false }, kinds := [], alts := [], laidByText := true, laidKinds := [.data, .data, .data, .data], laidTests := true, laidLooks := .later }
def EagerMountsCardSaid : Prop := Claim7.holds Tryz.pinned (.plain (OpenSpec.ofChange eagerMountsSpec)) eagerMountsCard

/-- THE TIED CARD OF 'carlinglaw17.EagerAnew'. -/
def eagerAnewCard : Claim7 := { stood := { row := eagerAnewRow, standIns := [], harness := (true, "1a436904d553c50b4162bc9571b396a2eb8a7634f1180c6b451cef33cb40c89f"), looks := false }, kinds := [], alts := [], laidByText := true, laidKinds := [.data, .data, .data, .data], laidTests := true, laidLooks := .later }
def EagerAnewCardSaid : Prop := Claim7.holds Tryz.pinned (.plain (OpenSpec.ofChange eagerAnewSpec)) eagerAnewCard

/-- THE SECOND FORM's CARD OF 'carlinglaw16.CommitLays'. -/
def commitLaysUptoCard : Claim7 := { stood := { row := commitLaysUptoRow, standIns := [], harness := (true, "1a436904d553c50b4162bc9571b396a2eb8a7634f1180c6b451cef33cb40c89f"), looks := false }, kinds := [], alts := [], laidByText := true, laidKinds := [.data, .data, .data, .data], laidTests := true, laidLooks := .later }
def CommitLaysUptoCardSaid : Prop := Claim7.holds Tryz.pinned (.plain (OpenSpec.upto commitLaysSpec)) commitLaysUptoCard

/-- THE SECOND FORM's CARD OF 'carlinglaw17.EagerPlays'. -/
def eagerPlaysUptoCard : Claim7 := { stood := { row := eagerPlaysUptoRow, standIns := [], harness := (true, "1a436904d553c50b4162bc9571b396a2eb8a7634f1180c6b451cef33cb40c89f"), looks := false }, kinds := [], alts := [], laidByText := true, laidKinds := [.data, .data, .data, .data], laidTests := true, laidLooks := .later }
def EagerPlaysUptoCardSaid : Prop := Claim7.holds Tryz.pinned (.plain (OpenSpec.upto eagerPlaysSpec)) eagerPlaysUptoCard

/-- THE SECOND FORM's CARD OF 'carlinglaw17.EagerMounts'. -/
def eagerMountsUptoCard : Claim7 := { stood := { row := eagerMountsUptoRow, standIns := [], harness := (true, "1a436904d553c50b4162bc9571b396a2eb8a7634f1180c6b451cef33cb40c89f"), looks := false }, kinds := [], alts := [], laidByText := true, laidKinds := [.data, .data, .data, .data], laidTests := true, laidLooks := .later }
def EagerMountsUptoCardSaid : Prop := Claim7.holds Tryz.pinned (.plain (OpenSpec.upto eagerMountsSpec)) eagerMountsUptoCard

/-- THE SECOND FORM's CARD OF 'carlinglaw17.EagerAnew'. -/
def eagerAnewUptoCard : Claim7 := { stood := { row := eagerAnewUptoRow, standIns := [], harness := (true, "1a436904d553c50b4162bc9571b396a2eb8a7634f1180c6b451cef33cb40c89f"), looks := false }, kinds := [], alts := [], laidByText := true, laidKinds := [.data, .data, .data, .data], laidTests := true, laidLooks := .later }
def EagerAnewUptoCardSaid : Prop := Claim7.holds Tryz.pinned (.plain (OpenSpec.upto eagerAnewSpec)) eagerAnewUptoCard
end Rows
end Go.Proofs.YtlhnegbjoncieaaGreatDoor
