/-
  DERIVED. GIVEN WITH THE SEED: THE CARDS: each row of YtmfgimkopddcgaaDoorRows.lean that lists a variable, with what it lists TIED to the program's text (the seventh form; the later family's looks); each row that meets fmt, with fmt's text TOLD by the authors' own Lean function (tested against real Go, not proved from fmt's source: count such statements apart). THE CARD IS WHAT COUNTS. Prove the row's statement (the work); the ties are given (YtmfgimkopddcgaaDoorTie.lean); close each card by the builder's one call (the guide's Derived/Test/ToyasCard.lean, 'card_holds'). Laid BY PROGRAM, IN A SANDBOX (cutbox-door.mjs). By AI agents, Wed Nov 11 2026. No macro, syntax, notation, axiom, sorry.
-/
import Derived.Test.YtmfgimkopddcgaaDoorRows
import GoSem.ClaimSeven
namespace Go.Proofs.YtmfgimkopddcgaaDoor
namespace Rows

/-- THE TIED CARD OF 'carlinglaw09.SealHides'. -/
def sealHidesCard : Claim7 := { stood := { row := sealHidesRow, standIns := [], harness := (true, "7c2a96d1b893a63d5f7b31ce1bc3e010c6a1c609f653f8130d4722b647222005"), looks := false }, kinds := [], alts := [], laidByText := true, laidKinds := [.data, .data, .data, .data], laidTests := true, laidLooks := .later }
def SealHidesCardSaid : Prop := Claim7.holds Tryd.pinned (.plain (OpenSpec.ofChange sealHidesSpec)) sealHidesCard

/-- THE TIED CARD OF 'carlinglaw09.SealOpens'. -/
def sealOpensCard : Claim7 := { stood := { row := sealOpensRow, standIns := [], harness := (true, "7c2a96d1b893a63d5f7b31ce1bc3e010c6a1c609f653f8130d4722b647222005"), looks := false }, kinds := [], alts := [], laidByText := true, laidKinds := [.data, .data, .data, .data], laidTests := true, laidLooks := .later }
def SealOpensCardSaid : Prop := Claim7.holds Tryd.pinned (.plain (OpenSpec.ofChange sealOpensSpec)) sealOpensCard

/-- THE TIED CARD OF 'carlinglaw09.SealRefs'. -/
def sealRefsCard : Claim7 := { stood := { row := sealRefsRow, standIns := [], harness := (true, "7c2a96d1b893a63d5f7b31ce1bc3e010c6a1c609f653f8130d4722b647222005"), looks := false }, kinds := [], alts := [], laidByText := true, laidKinds := [.data, .data, .data, .data], laidTests := true, laidLooks := .later }
def SealRefsCardSaid : Prop := Claim7.holds Tryd.pinned (.plain (OpenSpec.ofChange sealRefsSpec)) sealRefsCard

/-- THE TIED CARD OF 'carlinglaw09.SealBack'. -/
def sealBackCard : Claim7 := { stood := { row := sealBackRow, standIns := [], harness := (true, "7c2a96d1b893a63d5f7b31ce1bc3e010c6a1c609f653f8130d4722b647222005"), looks := false }, kinds := [], alts := [], laidByText := true, laidKinds := [.data, .data, .data, .data], laidTests := true, laidLooks := .later }
def SealBackCardSaid : Prop := Claim7.holds Tryd.pinned (.plain (OpenSpec.ofChange sealBackSpec)) sealBackCard

/-- THE TIED CARD OF 'carlinglaw09.SealKept'. -/
def sealKeptCard : Claim7 := { stood := { row := sealKeptRow, standIns := [], harness := (true, "7c2a96d1b893a63d5f7b31ce1bc3e010c6a1c609f653f8130d4722b647222005"), looks := false }, kinds := [], alts := [], laidByText := true, laidKinds := [.data, .data, .data, .data], laidTests := true, laidLooks := .later }
def SealKeptCardSaid : Prop := Claim7.holds Tryd.pinned (.plain (OpenSpec.ofChange sealKeptSpec)) sealKeptCard

/-- THE TIED CARD OF 'carlinglaw09.SealClashes'. -/
def sealClashesCard : Claim7 := { stood := { row := sealClashesRow, standIns := [], harness := (true, "7c2a96d1b893a63d5f7b31ce1bc3e010c6a1c609f653f8130d4722b647222005"), looks := false }, kinds := [], alts := [], laidByText := true, laidKinds := [.data, .data, .data, .data], laidTests := true, laidLooks := .later }
def SealClashesCardSaid : Prop := Claim7.holds Tryd.pinned (.plain (OpenSpec.ofChange sealClashesSpec)) sealClashesCard

/-- THE SECOND FORM's CARD OF 'carlinglaw09.SealHides'. -/
def sealHidesUptoCard : Claim7 := { stood := { row := sealHidesUptoRow, standIns := [], harness := (true, "7c2a96d1b893a63d5f7b31ce1bc3e010c6a1c609f653f8130d4722b647222005"), looks := false }, kinds := [], alts := [], laidByText := true, laidKinds := [.data, .data, .data, .data], laidTests := true, laidLooks := .later }
def SealHidesUptoCardSaid : Prop := Claim7.holds Tryd.pinned (.plain (OpenSpec.upto sealHidesSpec)) sealHidesUptoCard

/-- THE SECOND FORM's CARD OF 'carlinglaw09.SealOpens'. -/
def sealOpensUptoCard : Claim7 := { stood := { row := sealOpensUptoRow, standIns := [], harness := (true, "7c2a96d1b893a63d5f7b31ce1bc3e010c6a1c609f653f8130d4722b647222005"), looks := false }, kinds := [], alts := [], laidByText := true, laidKinds := [.data, .data, .data, .data], laidTests := true, laidLooks := .later }
def SealOpensUptoCardSaid : Prop := Claim7.holds Tryd.pinned (.plain (OpenSpec.upto sealOpensSpec)) sealOpensUptoCard

/-- THE SECOND FORM's CARD OF 'carlinglaw09.SealRefs'. -/
def sealRefsUptoCard : Claim7 := { stood := { row := sealRefsUptoRow, standIns := [], harness := (true, "7c2a96d1b893a63d5f7b31ce1bc3e010c6a1c609f653f8130d4722b647222005"), looks := false }, kinds := [], alts := [], laidByText := true, laidKinds := [.data, .data, .data, .data], laidTests := true, laidLooks := .later }
def SealRefsUptoCardSaid : Prop := Claim7.holds Tryd.pinned (.plain (OpenSpec.upto sealRefsSpec)) sealRefsUptoCard

/-- THE SECOND FORM's CARD OF 'carlinglaw09.SealBack'. -/
def sealBackUptoCard : Claim7 := { stood := { row := sealBackUptoRow, standIns := [], harness := (true, "7c2a96d1b893a63d5f7b31ce1bc3e010c6a1c609f653f8130d4722b647222005"), looks := false }, kinds := [], alts := [], laidByText := true, laidKinds := [.data, .data, .data, .data], laidTests := true, laidLooks := .later }
def SealBackUptoCardSaid : Prop := Claim7.holds Tryd.pinned (.plain (OpenSpec.upto sealBackSpec)) sealBackUptoCard

/-- THE SECOND FORM's CARD OF 'carlinglaw09.SealKept'. -/
def sealKeptUptoCard : Claim7 := { stood := { row := sealKeptUptoRow, standIns := [], harness := (true, "7c2a96d1b893a63d5f7b31ce1bc3e010c6a1c609f653f8130d4722b647222005"), looks := false }, kinds := [], alts := [], laidByText := true, laidKinds := [.data, .data, .data, .data], laidTests := true, laidLooks := .later }
def SealKeptUptoCardSaid : Prop := Claim7.holds Tryd.pinned (.plain (OpenSpec.upto sealKeptSpec)) sealKeptUptoCard

/-- THE SECOND FORM's CARD OF 'carlinglaw09.SealClashes'. -/
def sealClashesUptoCard : Claim7 := { stood := { row := sealClashesUptoRow, standIns := [], harness := (true, "7c2a96d1b893a63d5f7b31ce1bc3e010c6a1c609f653f8130d4722b647222005"), looks := false }, kinds := [], alts := [], laidByText := true, laidKinds := [.data, .data, .data, .data], laidTests := true, laidLooks := .later }
def SealClashesUptoCardSaid : Prop := Claim7.holds Tryd.pinned (.plain (OpenSpec.upto sealClashesSpec)) sealClashesUptoCard
end Rows
end Go.Proofs.YtmfgimkopddcgaaDoor
