/-
  DERIVED. GIVEN WITH THE SEED: THE CARDS: each row of YtddjdaocdfkgeaaGreatDoorRows.lean that lists a variable, with what it lists TIED to the program's text (the seventh form; the later family's looks); each row that meets fmt, with fmt's text TOLD by the authors' own Lean function (tested against real Go, not proved from fmt's source: count such statements apart). THE CARD IS WHAT COUNTS. Prove the row's statement (the work); the ties are given (YtddjdaocdfkgeaaGreatDoorTie.lean); close each card by the builder's one call (the guide's Derived/Test/ToyasCard.lean, 'card_holds'). Laid BY PROGRAM, IN A SANDBOX (cutbox-door.mjs). By AI agents, Wed Nov 11 2026. No macro, syntax, notation, axiom, sorry.
-/
import Derived.Test.YtddjdaocdfkgeaaGreatDoorRows
import GoSem.ClaimSeven
namespace Go.Proofs.YtddjdaocdfkgeaaGreatDoor
namespace Rows

/-- THE TIED CARD OF 'carlinglaw14.TreeFetches'. -/
def treeFetchesCard : Claim7 := { stood := { row := treeFetchesRow, standIns := [], harness := (true, "413a9703c1a67feb2f7c2551ba06574169320b8a10340489c77c61c897a49c98"), looks := false }, kinds := [], alts := [], laidByText := true, laidKinds := [.data, .data, .data, .data], laidTests := true, laidLooks := .later }
def TreeFetchesCardSaid : Prop := Claim7.holds Tryz.pinned (.plain (OpenSpec.ofChange treeFetchesSpec)) treeFetchesCard

/-- THE SECOND FORM's CARD OF 'carlinglaw14.TreeFetches'. -/
def treeFetchesUptoCard : Claim7 := { stood := { row := treeFetchesUptoRow, standIns := [], harness := (true, "413a9703c1a67feb2f7c2551ba06574169320b8a10340489c77c61c897a49c98"), looks := false }, kinds := [], alts := [], laidByText := true, laidKinds := [.data, .data, .data, .data], laidTests := true, laidLooks := .later }
def TreeFetchesUptoCardSaid : Prop := Claim7.holds Tryz.pinned (.plain (OpenSpec.upto treeFetchesSpec)) treeFetchesUptoCard
end Rows
end Go.Proofs.YtddjdaocdfkgeaaGreatDoor
