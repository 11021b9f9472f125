/-
  DERIVED. GIVEN WITH THE SEED: THE CARDS: each row of YtikfhabcjjoloaaDoorRows.lean that lists a variable, with what it lists TIED to the program's text (the seventh form; the later family's looks); each row that meets fmt, with fmt's text TOLD by the authors' own Lean function (tested against real Go, not proved from fmt's source: count such statements apart). THE CARD IS WHAT COUNTS. Prove the row's statement (the work); the ties are given (YtikfhabcjjoloaaDoorTie.lean); close each card by the builder's one call (the guide's Derived/Test/ToyasCard.lean, 'card_holds'). Laid BY PROGRAM, IN A SANDBOX (cutbox-door.mjs). By AI agents, Wed Nov 11 2026. No macro, syntax, notation, axiom, sorry.
-/
import Derived.Test.YtikfhabcjjoloaaDoorRows
import GoSem.ClaimSeven
namespace Go.Proofs.YtikfhabcjjoloaaDoor
namespace Rows

/-- THE TIED CARD OF 'carlinglaw04.CipherBlocks'. -/
def cipherBlocksCard : Claim7 := { stood := { row := cipherBlocksRow, standIns := [], harness := (true, "3b9229a69f19177e96f3acae78ece5e3c62241e215cb27806a8c031b132f934e"), looks := false }, kinds := [], alts := [], laidByText := true, laidKinds := [.data, .data], laidTests := true, laidLooks := .later }
def CipherBlocksCardSaid : Prop := Claim7.holds Tryd.pinned (.plain (OpenSpec.ofChange cipherBlocksSpec)) cipherBlocksCard

/-- THE TIED CARD OF 'carlinglaw04.CipherTurns'. -/
def cipherTurnsCard : Claim7 := { stood := { row := cipherTurnsRow, standIns := [], harness := (true, "3b9229a69f19177e96f3acae78ece5e3c62241e215cb27806a8c031b132f934e"), looks := false }, kinds := [], alts := [], laidByText := true, laidKinds := [.data, .data], laidTests := true, laidLooks := .later }
def CipherTurnsCardSaid : Prop := Claim7.holds Tryd.pinned (.plain (OpenSpec.ofChange cipherTurnsSpec)) cipherTurnsCard

/-- THE TIED CARD OF 'carlinglaw04.CipherBack'. -/
def cipherBackCard : Claim7 := { stood := { row := cipherBackRow, standIns := [], harness := (true, "3b9229a69f19177e96f3acae78ece5e3c62241e215cb27806a8c031b132f934e"), looks := false }, kinds := [], alts := [], laidByText := true, laidKinds := [.data, .data], laidTests := true, laidLooks := .later }
def CipherBackCardSaid : Prop := Claim7.holds Tryd.pinned (.plain (OpenSpec.ofChange cipherBackSpec)) cipherBackCard

/-- THE TIED CARD OF 'carlinglaw04.CipherOne'. -/
def cipherOneCard : Claim7 := { stood := { row := cipherOneRow, standIns := [], harness := (true, "3b9229a69f19177e96f3acae78ece5e3c62241e215cb27806a8c031b132f934e"), looks := false }, kinds := [], alts := [], laidByText := true, laidKinds := [.data, .data], laidTests := true, laidLooks := .later }
def CipherOneCardSaid : Prop := Claim7.holds Tryd.pinned (.plain (OpenSpec.ofChange cipherOneSpec)) cipherOneCard

/-- THE SECOND FORM's CARD OF 'carlinglaw04.CipherBlocks'. -/
def cipherBlocksUptoCard : Claim7 := { stood := { row := cipherBlocksUptoRow, standIns := [], harness := (true, "3b9229a69f19177e96f3acae78ece5e3c62241e215cb27806a8c031b132f934e"), looks := false }, kinds := [], alts := [], laidByText := true, laidKinds := [.data, .data], laidTests := true, laidLooks := .later }
def CipherBlocksUptoCardSaid : Prop := Claim7.holds Tryd.pinned (.plain (OpenSpec.upto cipherBlocksSpec)) cipherBlocksUptoCard

/-- THE SECOND FORM's CARD OF 'carlinglaw04.CipherTurns'. -/
def cipherTurnsUptoCard : Claim7 := { stood := { row := cipherTurnsUptoRow, standIns := [], harness := (true, "3b9229a69f19177e96f3acae78ece5e3c62241e215cb27806a8c031b132f934e"), looks := false }, kinds := [], alts := [], laidByText := true, laidKinds := [.data, .data], laidTests := true, laidLooks := .later }
def CipherTurnsUptoCardSaid : Prop := Claim7.holds Tryd.pinned (.plain (OpenSpec.upto cipherTurnsSpec)) cipherTurnsUptoCard

/-- THE SECOND FORM's CARD OF 'carlinglaw04.CipherBack'. -/
def cipherBackUptoCard : Claim7 := { stood := { row := cipherBackUptoRow, standIns := [], harness := (true, "3b9229a69f19177e96f3acae78ece5e3c62241e215cb27806a8c031b132f934e"), looks := false }, kinds := [], alts := [], laidByText := true, laidKinds := [.data, .data], laidTests := true, laidLooks := .later }
def CipherBackUptoCardSaid : Prop := Claim7.holds Tryd.pinned (.plain (OpenSpec.upto cipherBackSpec)) cipherBackUptoCard

/-- THE SECOND FORM's CARD OF 'carlinglaw04.CipherOne'. -/
def cipherOneUptoCard : Claim7 := { stood := { row := cipherOneUptoRow, standIns := [], harness := (true, "3b9229a69f19177e96f3acae78ece5e3c62241e215cb27806a8c031b132f934e"), looks := false }, kinds := [], alts := [], laidByText := true, laidKinds := [.data, .data], laidTests := true, laidLooks := .later }
def CipherOneUptoCardSaid : Prop := Claim7.holds Tryd.pinned (.plain (OpenSpec.upto cipherOneSpec)) cipherOneUptoCard
end Rows
end Go.Proofs.YtikfhabcjjoloaaDoor
