/-
  DERIVED. GIVEN WITH THE SEED: THE CARDS: each row of YtajdpbbbocnfiaaDoorRows.lean that lists a variable, with what it lists TIED to the program's text (the seventh form; the later family's looks); each row that meets fmt, with fmt's text TOLD by the authors' own Lean function (tested against real Go, not proved from fmt's source: count such statements apart). THE CARD IS WHAT COUNTS. Prove the row's statement (the work); the ties are given (YtajdpbbbocnfiaaDoorTie.lean); close each card by the builder's one call (the guide's Derived/Test/ToyasCard.lean, 'card_holds'). Laid BY PROGRAM, IN A SANDBOX (cutbox-door.mjs). By AI agents, Wed Nov 11 2026. No macro, syntax, notation, axiom, sorry.
-/
import Derived.Test.YtajdpbbbocnfiaaDoorRows
import GoSem.ClaimSeven
namespace Go.Proofs.YtajdpbbbocnfiaaDoor
namespace Rows

/-- THE TIED CARD OF 'carlinglaw14.TreeBack'. -/
def treeBackCard : Claim7 := { stood := { row := treeBackRow, standIns := [], harness := (true, "f4c658c8cd823d8b9bd4a7eadf5e367f504f0cb4ff085d5e2b7a549b0f83bc89"), looks := false }, kinds := [], alts := [], laidByText := true, laidKinds := [.data, .data, .data, .data], laidTests := true, laidLooks := .later }
def TreeBackCardSaid : Prop := Claim7.holds Tryd.pinned (.plain (OpenSpec.ofChange treeBackSpec)) treeBackCard

/-- THE TIED CARD OF 'carlinglaw14.TreeAgree'. -/
def treeAgreeCard : Claim7 := { stood := { row := treeAgreeRow, standIns := [], harness := (true, "f4c658c8cd823d8b9bd4a7eadf5e367f504f0cb4ff085d5e2b7a549b0f83bc89"), looks := false }, kinds := [], alts := [], laidByText := true, laidKinds := [.data, .data, .data, .data], laidTests := true, laidLooks := .later }
def TreeAgreeCardSaid : Prop := Claim7.holds Tryd.pinned (.plain (OpenSpec.ofChange treeAgreeSpec)) treeAgreeCard

/-- THE SECOND FORM's CARD OF 'carlinglaw14.TreeBack'. -/
def treeBackUptoCard : Claim7 := { stood := { row := treeBackUptoRow, standIns := [], harness := (true, "f4c658c8cd823d8b9bd4a7eadf5e367f504f0cb4ff085d5e2b7a549b0f83bc89"), looks := false }, kinds := [], alts := [], laidByText := true, laidKinds := [.data, .data, .data, .data], laidTests := true, laidLooks := .later }
def TreeBackUptoCardSaid : Prop := Claim7.holds Tryd.pinned (.plain (OpenSpec.upto treeBackSpec)) treeBackUptoCard

/-- THE SECOND FORM's CARD OF 'carlinglaw14.TreeAgree'. -/
def treeAgreeUptoCard : Claim7 := { stood := { row := treeAgreeUptoRow, standIns := [], harness := (true, "f4c658c8cd823d8b9bd4a7eadf5e367f504f0cb4ff085d5e2b7a549b0f83bc89"), looks := false }, kinds := [], alts := [], laidByText := true, laidKinds := [.data, .data, .data, .data], laidTests := true, laidLooks := .later }
def TreeAgreeUptoCardSaid : Prop := Claim7.holds Tryd.pinned (.plain (OpenSpec.upto treeAgreeSpec)) treeAgreeUptoCard
end Rows
end Go.Proofs.YtajdpbbbocnfiaaDoor
