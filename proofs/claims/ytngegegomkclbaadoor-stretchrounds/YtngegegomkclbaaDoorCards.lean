/-
  DERIVED. GIVEN WITH THE SEED: THE CARDS: each row of YtngegegomkclbaaDoorRows.lean that lists a variable, with what it lists TIED to the program's text (the seventh form; the later family's looks); each row that meets fmt, with fmt's text TOLD by the authors' own Lean function (tested against real Go, not proved from fmt's source: count such statements apart). THE CARD IS WHAT COUNTS. Prove the row's statement (the work); the ties are given (YtngegegomkclbaaDoorTie.lean); close each card by the builder's one call (the guide's Derived/Test/ToyasCard.lean, 'card_holds'). Laid BY PROGRAM, IN A SANDBOX (cutbox-door.mjs). By AI agents, Wed Nov 11 2026. No macro, syntax, notation, axiom, sorry.
-/
import Derived.Test.YtngegegomkclbaaDoorRows
import GoSem.ClaimSeven
namespace Go.Proofs.YtngegegomkclbaaDoor
namespace Rows

/-- THE TIED CARD OF 'carlinglaw01.ShaSums'. -/
def shaSumsCard : Claim7 := { stood := { row := shaSumsRow, standIns := [], harness := (true, "bfca6eebe94f24fd619bc590c3e0aa207cb5209c442fdaf55c8b895e21c53d31"), looks := false }, kinds := [], alts := [], laidByText := true, laidKinds := [.data, .data], laidTests := true, laidLooks := .later }
def ShaSumsCardSaid : Prop := Claim7.holds Tryd.pinned (.plain (OpenSpec.ofChange shaSumsSpec)) shaSumsCard

/-- THE TIED CARD OF 'carlinglaw02.MacSums'. -/
def macSumsCard : Claim7 := { stood := { row := macSumsRow, standIns := [], harness := (true, "bfca6eebe94f24fd619bc590c3e0aa207cb5209c442fdaf55c8b895e21c53d31"), looks := false }, kinds := [], alts := [], laidByText := true, laidKinds := [.data, .data], laidTests := true, laidLooks := .later }
def MacSumsCardSaid : Prop := Claim7.holds Tryd.pinned (.plain (OpenSpec.ofChange macSumsSpec)) macSumsCard

/-- THE TIED CARD OF 'carlinglaw03.StretchKeys'. -/
def stretchKeysCard : Claim7 := { stood := { row := stretchKeysRow, standIns := [], harness := (true, "bfca6eebe94f24fd619bc590c3e0aa207cb5209c442fdaf55c8b895e21c53d31"), looks := false }, kinds := [], alts := [], laidByText := true, laidKinds := [.data, .data], laidTests := true, laidLooks := .later }
def StretchKeysCardSaid : Prop := Claim7.holds Tryd.pinned (.plain (OpenSpec.ofChange stretchKeysSpec)) stretchKeysCard

/-- THE TIED CARD OF 'carlinglaw03.StretchBlocks'. -/
def stretchBlocksCard : Claim7 := { stood := { row := stretchBlocksRow, standIns := [], harness := (true, "bfca6eebe94f24fd619bc590c3e0aa207cb5209c442fdaf55c8b895e21c53d31"), looks := false }, kinds := [], alts := [], laidByText := true, laidKinds := [.data, .data], laidTests := true, laidLooks := .later }
def StretchBlocksCardSaid : Prop := Claim7.holds Tryd.pinned (.plain (OpenSpec.ofChange stretchBlocksSpec)) stretchBlocksCard

/-- THE TIED CARD OF 'carlinglaw03.StretchBegins'. -/
def stretchBeginsCard : Claim7 := { stood := { row := stretchBeginsRow, standIns := [], harness := (true, "bfca6eebe94f24fd619bc590c3e0aa207cb5209c442fdaf55c8b895e21c53d31"), looks := false }, kinds := [], alts := [], laidByText := true, laidKinds := [.data, .data], laidTests := true, laidLooks := .later }
def StretchBeginsCardSaid : Prop := Claim7.holds Tryd.pinned (.plain (OpenSpec.ofChange stretchBeginsSpec)) stretchBeginsCard

/-- THE TIED CARD OF 'carlinglaw03.StretchRounds'. -/
def stretchRoundsCard : Claim7 := { stood := { row := stretchRoundsRow, standIns := [], harness := (true, "bfca6eebe94f24fd619bc590c3e0aa207cb5209c442fdaf55c8b895e21c53d31"), looks := false }, kinds := [], alts := [], laidByText := true, laidKinds := [.data, .data], laidTests := true, laidLooks := .later }
def StretchRoundsCardSaid : Prop := Claim7.holds Tryd.pinned (.plain (OpenSpec.ofChange stretchRoundsSpec)) stretchRoundsCard

/-- THE SECOND FORM's CARD OF 'carlinglaw01.ShaSums'. -/
def shaSumsUptoCard : Claim7 := { stood := { row := shaSumsUptoRow, standIns := [], harness := (true, "bfca6eebe94f24fd619bc590c3e0aa207cb5209c442fdaf55c8b895e21c53d31"), looks := false }, kinds := [], alts := [], laidByText := true, laidKinds := [.data, .data], laidTests := true, laidLooks := .later }
def ShaSumsUptoCardSaid : Prop := Claim7.holds Tryd.pinned (.plain (OpenSpec.upto shaSumsSpec)) shaSumsUptoCard

/-- THE SECOND FORM's CARD OF 'carlinglaw02.MacSums'. -/
def macSumsUptoCard : Claim7 := { stood := { row := macSumsUptoRow, standIns := [], harness := (true, "bfca6eebe94f24fd619bc590c3e0aa207cb5209c442fdaf55c8b895e21c53d31"), looks := false }, kinds := [], alts := [], laidByText := true, laidKinds := [.data, .data], laidTests := true, laidLooks := .later }
def MacSumsUptoCardSaid : Prop := Claim7.holds Tryd.pinned (.plain (OpenSpec.upto macSumsSpec)) macSumsUptoCard

/-- THE SECOND FORM's CARD OF 'carlinglaw03.StretchKeys'. -/
def stretchKeysUptoCard : Claim7 := { stood := { row := stretchKeysUptoRow, standIns := [], harness := (true, "bfca6eebe94f24fd619bc590c3e0aa207cb5209c442fdaf55c8b895e21c53d31"), looks := false }, kinds := [], alts := [], laidByText := true, laidKinds := [.data, .data], laidTests := true, laidLooks := .later }
def StretchKeysUptoCardSaid : Prop := Claim7.holds Tryd.pinned (.plain (OpenSpec.upto stretchKeysSpec)) stretchKeysUptoCard

/-- THE SECOND FORM's CARD OF 'carlinglaw03.StretchBlocks'. -/
def stretchBlocksUptoCard : Claim7 := { stood := { row := stretchBlocksUptoRow, standIns := [], harness := (true, "bfca6eebe94f24fd619bc590c3e0aa207cb5209c442fdaf55c8b895e21c53d31"), looks := false }, kinds := [], alts := [], laidByText := true, laidKinds := [.data, .data], laidTests := true, laidLooks := .later }
def StretchBlocksUptoCardSaid : Prop := Claim7.holds Tryd.pinned (.plain (OpenSpec.upto stretchBlocksSpec)) stretchBlocksUptoCard

/-- THE SECOND FORM's CARD OF 'carlinglaw03.StretchBegins'. -/
def stretchBeginsUptoCard : Claim7 := { stood := { row := stretchBeginsUptoRow, standIns := [], harness := (true, "bfca6eebe94f24fd619bc590c3e0aa207cb5209c442fdaf55c8b895e21c53d31"), looks := false }, kinds := [], alts := [], laidByText := true, laidKinds := [.data, .data], laidTests := true, laidLooks := .later }
def StretchBeginsUptoCardSaid : Prop := Claim7.holds Tryd.pinned (.plain (OpenSpec.upto stretchBeginsSpec)) stretchBeginsUptoCard

/-- THE SECOND FORM's CARD OF 'carlinglaw03.StretchRounds'. -/
def stretchRoundsUptoCard : Claim7 := { stood := { row := stretchRoundsUptoRow, standIns := [], harness := (true, "bfca6eebe94f24fd619bc590c3e0aa207cb5209c442fdaf55c8b895e21c53d31"), looks := false }, kinds := [], alts := [], laidByText := true, laidKinds := [.data, .data], laidTests := true, laidLooks := .later }
def StretchRoundsUptoCardSaid : Prop := Claim7.holds Tryd.pinned (.plain (OpenSpec.upto stretchRoundsSpec)) stretchRoundsUptoCard
end Rows
end Go.Proofs.YtngegegomkclbaaDoor
