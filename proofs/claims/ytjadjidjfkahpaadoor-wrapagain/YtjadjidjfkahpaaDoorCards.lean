/-
  DERIVED. GIVEN WITH THE SEED: THE CARDS: each row of YtjadjidjfkahpaaDoorRows.lean that lists a variable, with what it lists TIED to the program's text (the seventh form; the later family's looks); each row that meets fmt, with fmt's text TOLD by the authors' own Lean function (tested against real Go, not proved from fmt's source: count such statements apart). THE CARD IS WHAT COUNTS. Prove the row's statement (the work); the ties are given (YtjadjidjfkahpaaDoorTie.lean); close each card by the builder's one call (the guide's Derived/Test/ToyasCard.lean, 'card_holds'). Laid BY PROGRAM, IN A SANDBOX (cutbox-door.mjs). By AI agents, Wed Nov 11 2026. No macro, syntax, notation, axiom, sorry.
-/
import Derived.Test.YtjadjidjfkahpaaDoorRows
import GoSem.ClaimSeven
namespace Go.Proofs.YtjadjidjfkahpaaDoor
namespace Rows

/-- THE TIED CARD OF 'carlinglaw10.WrapWraps'. -/
def wrapWrapsCard : Claim7 := { stood := { row := wrapWrapsRow, standIns := [], harness := (true, "d15ed49c945cdda1a63bdd2c4de9b075d998fb24ed9b53c32513ae68ac5f53dd"), looks := false }, kinds := [], alts := [], laidByText := true, laidKinds := [.data, .data, .data, .data], laidTests := true, laidLooks := .later }
def WrapWrapsCardSaid : Prop := Claim7.holds Tryd.pinned (.plain (OpenSpec.ofChange wrapWrapsSpec)) wrapWrapsCard

/-- THE TIED CARD OF 'carlinglaw10.WrapUnwraps'. -/
def wrapUnwrapsCard : Claim7 := { stood := { row := wrapUnwrapsRow, standIns := [], harness := (true, "d15ed49c945cdda1a63bdd2c4de9b075d998fb24ed9b53c32513ae68ac5f53dd"), looks := false }, kinds := [], alts := [], laidByText := true, laidKinds := [.data, .data, .data, .data], laidTests := true, laidLooks := .later }
def WrapUnwrapsCardSaid : Prop := Claim7.holds Tryd.pinned (.plain (OpenSpec.ofChange wrapUnwrapsSpec)) wrapUnwrapsCard

/-- THE TIED CARD OF 'carlinglaw10.WrapBack'. -/
def wrapBackCard : Claim7 := { stood := { row := wrapBackRow, standIns := [], harness := (true, "d15ed49c945cdda1a63bdd2c4de9b075d998fb24ed9b53c32513ae68ac5f53dd"), looks := false }, kinds := [], alts := [], laidByText := true, laidKinds := [.data, .data, .data, .data], laidTests := true, laidLooks := .later }
def WrapBackCardSaid : Prop := Claim7.holds Tryd.pinned (.plain (OpenSpec.ofChange wrapBackSpec)) wrapBackCard

/-- THE TIED CARD OF 'carlinglaw10.WrapAgain'. -/
def wrapAgainCard : Claim7 := { stood := { row := wrapAgainRow, standIns := [], harness := (true, "d15ed49c945cdda1a63bdd2c4de9b075d998fb24ed9b53c32513ae68ac5f53dd"), looks := false }, kinds := [], alts := [], laidByText := true, laidKinds := [.data, .data, .data, .data], laidTests := true, laidLooks := .later }
def WrapAgainCardSaid : Prop := Claim7.holds Tryd.pinned (.plain (OpenSpec.ofChange wrapAgainSpec)) wrapAgainCard

/-- THE SECOND FORM's CARD OF 'carlinglaw10.WrapWraps'. -/
def wrapWrapsUptoCard : Claim7 := { stood := { row := wrapWrapsUptoRow, standIns := [], harness := (true, "d15ed49c945cdda1a63bdd2c4de9b075d998fb24ed9b53c32513ae68ac5f53dd"), looks := false }, kinds := [], alts := [], laidByText := true, laidKinds := [.data, .data, .data, .data], laidTests := true, laidLooks := .later }
def WrapWrapsUptoCardSaid : Prop := Claim7.holds Tryd.pinned (.plain (OpenSpec.upto wrapWrapsSpec)) wrapWrapsUptoCard

/-- THE SECOND FORM's CARD OF 'carlinglaw10.WrapUnwraps'. -/
def wrapUnwrapsUptoCard : Claim7 := { stood := { row := wrapUnwrapsUptoRow, standIns := [], harness := (true, "d15ed49c945cdda1a63bdd2c4de9b075d998fb24ed9b53c32513ae68ac5f53dd"), looks := false }, kinds := [], alts := [], laidByText := true, laidKinds := [.data, .data, .data, .data], laidTests := true, laidLooks := .later }
def WrapUnwrapsUptoCardSaid : Prop := Claim7.holds Tryd.pinned (.plain (OpenSpec.upto wrapUnwrapsSpec)) wrapUnwrapsUptoCard

/-- THE SECOND FORM's CARD OF 'carlinglaw10.WrapBack'. -/
def wrapBackUptoCard : Claim7 := { stood := { row := wrapBackUptoRow, standIns := [], harness := (true, "d15ed49c945cdda1a63bdd2c4de9b075d998fb24ed9b53c32513ae68ac5f53dd"), looks := false }, kinds := [], alts := [], laidByText := true, laidKinds := [.data, .data, .data, .data], laidTests := true, laidLooks := .later }
def WrapBackUptoCardSaid : Prop := Claim7.holds Tryd.pinned (.plain (OpenSpec.upto wrapBackSpec)) wrapBackUptoCard

/-- THE SECOND FORM's CARD OF 'carlinglaw10.WrapAgain'. -/
def wrapAgainUptoCard : Claim7 := { stood := { row := wrapAgainUptoRow, standIns := [], harness := (true, "d15ed49c945cdda1a63bdd2c4de9b075d998fb24ed9b53c32513ae68ac5f53dd"), looks := false }, kinds := [], alts := [], laidByText := true, laidKinds := [.data, .data, .data, .data], laidTests := true, laidLooks := .later }
def WrapAgainUptoCardSaid : Prop := Claim7.holds Tryd.pinned (.plain (OpenSpec.upto wrapAgainSpec)) wrapAgainUptoCard
end Rows
end Go.Proofs.YtjadjidjfkahpaaDoor
