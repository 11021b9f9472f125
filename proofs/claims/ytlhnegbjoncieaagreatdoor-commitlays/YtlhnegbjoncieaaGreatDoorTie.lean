/-
  DERIVED. GIVEN WITH THE SEED: THE PROGRAM's TIES (one call each: nine closed facts by the kernel) AND EACH ROW's TIE, after the 31st guide's Derived/Test/Toyas{Tie, Card}.lean. No idea stands in it: it is a product of the set-up. Laid BY PROGRAM, IN A SANDBOX (cutbox-door.mjs). By AI agents, Wed Nov 11 2026. No macro, syntax, notation, axiom, sorry.
-/
import Derived.Test.YtlhnegbjoncieaaGreatDoorRows
import Derived.LaidByTextLater
import Derived.SevenTiedAt
import Derived.LaidSub
import Derived.LaidOnce
namespace Go.Proofs.YtlhnegbjoncieaaGreatDoor
open Go
set_option maxRecDepth 100000
theorem seatTie1 : Tryz.prog.laidByTextLater [("carling/cipher.firstWords", Rows.laid_carling_cipher_firstWords), ("carling/cipher.quarterPlaces", Rows.laid_carling_cipher_quarterPlaces), ("carling/sha.roundConstants", Rows.laid_carling_sha_roundConstants), ("carling/sha.firstState", Rows.laid_carling_sha_firstState)] [.data, .data, .data, .data] true :=
  Program.laidByTextLater_by_one 37 8 65 (by kernel_rfl) (by kernel_rfl) (by kernel_rfl) (by kernel_rfl) (by kernel_rfl) (by kernel_rfl) (fun _ _ => by kernel_rfl)
theorem noOwnUnsafe : Tryz.pinned.checked.prog.headLifts.contains "ownunsafe" = false := by kernel_rfl
theorem tie : Tryz.prog.laidByTextLater [("carling/cipher.firstWords", Rows.laid_carling_cipher_firstWords), ("carling/cipher.quarterPlaces", Rows.laid_carling_cipher_quarterPlaces), ("carling/sha.roundConstants", Rows.laid_carling_sha_roundConstants), ("carling/sha.firstState", Rows.laid_carling_sha_firstState)] [.data, .data, .data, .data] true :=
  Program.laidByTextLater.sub seatTie1 ["carling/cipher.firstWords", "carling/cipher.quarterPlaces", "carling/sha.roundConstants", "carling/sha.firstState"] (by kernel_rfl) (by kernel_rfl)
theorem commitLays_row_tie : Rows.commitLaysRow.laidByTextAt .later Tryz.pinned [.data, .data, .data, .data] true :=
  OpenClaim.laidByTextAt_later rfl rfl tie noOwnUnsafe
theorem eagerPlays_row_tie : Rows.eagerPlaysRow.laidByTextAt .later Tryz.pinned [.data, .data, .data, .data] true :=
  OpenClaim.laidByTextAt_later rfl rfl tie noOwnUnsafe
theorem eagerMounts_row_tie : Rows.eagerMountsRow.laidByTextAt .later Tryz.pinned [.data, .data, .data, .data] true :=
  OpenClaim.laidByTextAt_later rfl rfl tie noOwnUnsafe
theorem eagerAnew_row_tie : Rows.eagerAnewRow.laidByTextAt .later Tryz.pinned [.data, .data, .data, .data] true :=
  OpenClaim.laidByTextAt_later rfl rfl tie noOwnUnsafe
theorem commitLaysUpto_row_tie : Rows.commitLaysUptoRow.laidByTextAt .later Tryz.pinned [.data, .data, .data, .data] true :=
  OpenClaim.laidByTextAt_later rfl rfl tie noOwnUnsafe
theorem eagerPlaysUpto_row_tie : Rows.eagerPlaysUptoRow.laidByTextAt .later Tryz.pinned [.data, .data, .data, .data] true :=
  OpenClaim.laidByTextAt_later rfl rfl tie noOwnUnsafe
theorem eagerMountsUpto_row_tie : Rows.eagerMountsUptoRow.laidByTextAt .later Tryz.pinned [.data, .data, .data, .data] true :=
  OpenClaim.laidByTextAt_later rfl rfl tie noOwnUnsafe
theorem eagerAnewUpto_row_tie : Rows.eagerAnewUptoRow.laidByTextAt .later Tryz.pinned [.data, .data, .data, .data] true :=
  OpenClaim.laidByTextAt_later rfl rfl tie noOwnUnsafe
end Go.Proofs.YtlhnegbjoncieaaGreatDoor
