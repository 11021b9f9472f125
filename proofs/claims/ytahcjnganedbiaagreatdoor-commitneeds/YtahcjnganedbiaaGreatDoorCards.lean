/-
  DERIVED. GIVEN WITH THE SEED: THE CARDS: each row of YtahcjnganedbiaaGreatDoorRows.lean that lists a variable, with what it lists TIED to the program's text (the seventh form; the later family's looks); each row that meets fmt, with fmt's text TOLD by the authors' own Lean function (tested against real Go, not proved from fmt's source: count such statements apart). THE CARD IS WHAT COUNTS. Prove the row's statement (the work); the ties are given (YtahcjnganedbiaaGreatDoorTie.lean); close each card by the builder's one call (the guide's Derived/Test/ToyasCard.lean, 'card_holds'). Laid BY PROGRAM, IN A SANDBOX (cutbox-door.mjs). By AI agents, Wed Nov 11 2026. No macro, syntax, notation, axiom, sorry.
-/
import Derived.Test.YtahcjnganedbiaaGreatDoorRows
import GoSem.ClaimSeven
namespace Go.Proofs.YtahcjnganedbiaaGreatDoor
namespace Rows

/-- THE TIED CARD OF 'carlinglaw16.CommitNeeds'. -/
def commitNeedsCard : Claim7 := { stood := { row := commitNeedsRow, standIns := [], harness := (true, "e85010163c230ce7adf93e53806cb16879238b0c9db07f664f5aa1f7daab9d14"), looks := false }, kinds := [], alts := [], laidByText := true, laidKinds := [.data, .data, .data, .data], laidTests := true, laidLooks := .later }
def CommitNeedsCardSaid : Prop := Claim7.holds Tryz.pinned (.plain (OpenSpec.ofChange commitNeedsSpec)) commitNeedsCard

/-- THE TIED CARD OF 'carlinglaw16.CommitPlans'. -/
def commitPlansCard : Claim7 := { stood := { row := commitPlansRow, standIns := [], harness := (true, "e85010163c230ce7adf93e53806cb16879238b0c9db07f664f5aa1f7daab9d14"), looks := false }, kinds := [], alts := [], laidByText := true, laidKinds := [.data, .data, .data, .data], laidTests := true, laidLooks := .later }
def CommitPlansCardSaid : Prop := Claim7.holds Tryz.pinned (.plain (OpenSpec.ofChange commitPlansSpec)) commitPlansCard

/-- THE TIED CARD OF 'carlinglaw16.CommitLays'. -/
def commitLaysCard : Claim7 := { stood := { row := commitLaysRow, standIns := [], harness := (true, "e85010163c230ce7adf93e53806cb16879238b0c9db07f664f5aa1f7daab9d14"), looks := false }, kinds := [], alts := [], laidByText := true, laidKinds := [.data, .data, .data, .data], laidTests := true, laidLooks := .later }
def CommitLaysCardSaid : Prop := Claim7.holds Tryz.pinned (.plain (OpenSpec.ofChange commitLaysSpec)) commitLaysCard

/-- THE SECOND FORM's CARD OF 'carlinglaw16.CommitNeeds'. -/
def commitNeedsUptoCard : Claim7 := { stood := { row := commitNeedsUptoRow, standIns := [], harness := (true, "e85010163c230ce7adf93e53806cb16879238b0c9db07f664f5aa1f7daab9d14"), looks := false }, kinds := [], alts := [], laidByText := true, laidKinds := [.data, .data, .data, .data], laidTests := true, laidLooks := .later }
def CommitNeedsUptoCardSaid : Prop := Claim7.holds Tryz.pinned (.plain (OpenSpec.upto commitNeedsSpec)) commitNeedsUptoCard

/-- THE SECOND FORM's CARD OF 'carlinglaw16.CommitPlans'. -/
def commitPlansUptoCard : Claim7 := { stood := { row := commitPlansUptoRow, standIns := [], harness := (true, "e85010163c230ce7adf93e53806cb16879238b0c9db07f664f5aa1f7daab9d14"), looks := false }, kinds := [], alts := [], laidByText := true, laidKinds := [.data, .data, .data, .data], laidTests := true, laidLooks := .later }
def CommitPlansUptoCardSaid : Prop := Claim7.holds Tryz.pinned (.plain (OpenSpec.upto commitPlansSpec)) commitPlansUptoCard

/-- THE SECOND FORM's CARD OF 'carlinglaw16.CommitLays'. -/
def commitLaysUptoCard : Claim7 := { stood := { row := commitLaysUptoRow, standIns := [], harness := (true, "e85010163c230ce7adf93e53806cb16879238b0c9db07f664f5aa1f7daab9d14"), looks := false }, kinds := [], alts := [], laidByText := true, laidKinds := [.data, .data, .data, .data], laidTests := true, laidLooks := .later }
def CommitLaysUptoCardSaid : Prop := Claim7.holds Tryz.pinned (.plain (OpenSpec.upto commitLaysSpec)) commitLaysUptoCard
end Rows
end Go.Proofs.YtahcjnganedbiaaGreatDoor
