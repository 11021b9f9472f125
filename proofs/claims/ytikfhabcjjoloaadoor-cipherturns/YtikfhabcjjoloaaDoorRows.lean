/-
  NARROWER THAN 'FOR EVERY INPUT', by the rows' own cells (each row's printed sentence says how): CipherBlocks: laid · CipherTurns: laid · CipherBack: laid · CipherOne: laid.
  DERIVED. THE GIVEN ROWS OF THIS SEAT. 4 by the template 'for every input the law returns true; each argument reads behind the call as it read before'; 0 by the template 'total and deterministic' (their statements: YtikfhabcjjoloaaDoorTotals.lean).
  GIVEN WITH THE SEED: the statements are not yours to turn. If you find one false, say at which input.
  Laid BY PROGRAM, IN A SANDBOX (cutbox-rows.mjs): the forced cells as the released guide's own fill.sh prints them over the translation 7d0edce07841cc02… (all of the seat's roots in one cut). By AI agents, Wed Nov 11 2026. No macro, syntax, notation, axiom, sorry.
-/
import Derived.Test.YtikfhabcjjoloaaDoorChecked
import GoSem.Claim
import GoSem.ClaimJoined
import GoSem.ClaimMapViews
import Derived.JoinedTies
import Derived.KernelRfl
namespace Go.Proofs.YtikfhabcjjoloaaDoor
/- THE CELL 'sum', in the pinned program and in every row, IS THE sha256 OF THE DUMP (.gsa) THAT YtikfhabcjjoloaaDoorProg.lean LOADS. Nothing in Lean hashes anything: it is a label: what it is worth is what the hold of that sum in a sandbox is worth. -/
noncomputable def Tryd.pinned : Pinned := { name := "ytikfhabcjjoloaadoor", sum := "7d0edce07841cc026aaa339a0ddc5849f1b4cda5c54618b98b2c6f5b74214519", checked := Tryd.checked }
namespace Rows
def none {H : Type} : Left H := { results := [], args := [] }

/- WHAT THE LISTED PACKAGE-LEVEL VARIABLES READ AS WHEN THE CALL BEGINS. Each datum BY PROGRAM (the guide's laid-datum.mjs) off the statement by which the dump's own 'gosem.cut.vars' lays the variable. In a bare row this is a premise. The card (YtikfhabcjjoloaaDoorCards.lean) ties it to the program's text. -/
def laid_carling_cipher_firstWords {H : Type} : DataW H := .agg [.lit (.int .u32 1634760805), .lit (.int .u32 857760878), .lit (.int .u32 2036477234), .lit (.int .u32 1797285236)]
def laid_carling_cipher_quarterPlaces {H : Type} : DataW H := .agg [.agg [.lit (.int .i64 0), .lit (.int .i64 4), .lit (.int .i64 8), .lit (.int .i64 12)], .agg [.lit (.int .i64 1), .lit (.int .i64 5), .lit (.int .i64 9), .lit (.int .i64 13)], .agg [.lit (.int .i64 2), .lit (.int .i64 6), .lit (.int .i64 10), .lit (.int .i64 14)], .agg [.lit (.int .i64 3), .lit (.int .i64 7), .lit (.int .i64 11), .lit (.int .i64 15)], .agg [.lit (.int .i64 0), .lit (.int .i64 5), .lit (.int .i64 10), .lit (.int .i64 15)], .agg [.lit (.int .i64 1), .lit (.int .i64 6), .lit (.int .i64 11), .lit (.int .i64 12)], .agg [.lit (.int .i64 2), .lit (.int .i64 7), .lit (.int .i64 8), .lit (.int .i64 13)], .agg [.lit (.int .i64 3), .lit (.int .i64 4), .lit (.int .i64 9), .lit (.int .i64 14)]]

/-- 'carlinglaw04.CipherBlocks': WHATEVER THE INPUT: true; the input reads as it did. -/
def cipherBlocksSpec : ChangeSpec := { name := "cipherBlocks", fn := fun _ => fun
  | [d1, d2, d3] => { results := [.lit (.bool true)], args := [d1, d2, d3] }
  | _ => none }
def cipherBlocksRow : OpenClaim := { program := "ytikfhabcjjoloaadoor", sum := "7d0edce07841cc026aaa339a0ddc5849f1b4cda5c54618b98b2c6f5b74214519", func := "carling/carlinglaw04.CipherBlocks", spec := "cipherBlocks", unfollowed := true, recurses := true, named := ["carling/cipher.firstWords", "carling/cipher.quarterPlaces"], apart := false, laid := [("carling/cipher.firstWords", laid_carling_cipher_firstWords), ("carling/cipher.quarterPlaces", laid_carling_cipher_quarterPlaces)] }
def CipherBlocksSaid : Prop := cipherBlocksRow.holds Tryd.pinned (OpenSpec.ofChange cipherBlocksSpec)

/-- ITS FALSE NEIGHBOUR: 'it returns false'. Refute it at one input. -/
def cipherBlocksWrong : ChangeSpec := { name := "cipherBlocks", fn := fun _ => fun
  | [d1, d2, d3] => { results := [.lit (.bool false)], args := [d1, d2, d3] }
  | _ => none }
def CipherBlocksWrongFalsely : Prop := cipherBlocksRow.holds Tryd.pinned (OpenSpec.ofChange cipherBlocksWrong)

/-- 'carlinglaw04.CipherTurns': WHATEVER THE INPUT: true; the input reads as it did. -/
def cipherTurnsSpec : ChangeSpec := { name := "cipherTurns", fn := fun _ => fun
  | [d1, d2, d3] => { results := [.lit (.bool true)], args := [d1, d2, d3] }
  | _ => none }
def cipherTurnsRow : OpenClaim := { program := "ytikfhabcjjoloaadoor", sum := "7d0edce07841cc026aaa339a0ddc5849f1b4cda5c54618b98b2c6f5b74214519", func := "carling/carlinglaw04.CipherTurns", spec := "cipherTurns", unfollowed := true, recurses := true, named := ["carling/cipher.firstWords", "carling/cipher.quarterPlaces"], apart := false, laid := [("carling/cipher.firstWords", laid_carling_cipher_firstWords), ("carling/cipher.quarterPlaces", laid_carling_cipher_quarterPlaces)] }
def CipherTurnsSaid : Prop := cipherTurnsRow.holds Tryd.pinned (OpenSpec.ofChange cipherTurnsSpec)

/-- ITS FALSE NEIGHBOUR: 'it returns false'. Refute it at one input. -/
def cipherTurnsWrong : ChangeSpec := { name := "cipherTurns", fn := fun _ => fun
  | [d1, d2, d3] => { results := [.lit (.bool false)], args := [d1, d2, d3] }
  | _ => none }
def CipherTurnsWrongFalsely : Prop := cipherTurnsRow.holds Tryd.pinned (OpenSpec.ofChange cipherTurnsWrong)

/-- 'carlinglaw04.CipherBack': WHATEVER THE INPUT: true; the input reads as it did. -/
def cipherBackSpec : ChangeSpec := { name := "cipherBack", fn := fun _ => fun
  | [d1, d2] => { results := [.lit (.bool true)], args := [d1, d2] }
  | _ => none }
def cipherBackRow : OpenClaim := { program := "ytikfhabcjjoloaadoor", sum := "7d0edce07841cc026aaa339a0ddc5849f1b4cda5c54618b98b2c6f5b74214519", func := "carling/carlinglaw04.CipherBack", spec := "cipherBack", unfollowed := true, recurses := true, named := ["carling/cipher.firstWords", "carling/cipher.quarterPlaces"], apart := false, laid := [("carling/cipher.firstWords", laid_carling_cipher_firstWords), ("carling/cipher.quarterPlaces", laid_carling_cipher_quarterPlaces)] }
def CipherBackSaid : Prop := cipherBackRow.holds Tryd.pinned (OpenSpec.ofChange cipherBackSpec)

/-- ITS FALSE NEIGHBOUR: 'it returns false'. Refute it at one input. -/
def cipherBackWrong : ChangeSpec := { name := "cipherBack", fn := fun _ => fun
  | [d1, d2] => { results := [.lit (.bool false)], args := [d1, d2] }
  | _ => none }
def CipherBackWrongFalsely : Prop := cipherBackRow.holds Tryd.pinned (OpenSpec.ofChange cipherBackWrong)

/-- 'carlinglaw04.CipherOne': WHATEVER THE INPUT: true; the input reads as it did. -/
def cipherOneSpec : ChangeSpec := { name := "cipherOne", fn := fun _ => fun
  | [d1, d2, d3] => { results := [.lit (.bool true)], args := [d1, d2, d3] }
  | _ => none }
def cipherOneRow : OpenClaim := { program := "ytikfhabcjjoloaadoor", sum := "7d0edce07841cc026aaa339a0ddc5849f1b4cda5c54618b98b2c6f5b74214519", func := "carling/carlinglaw04.CipherOne", spec := "cipherOne", unfollowed := true, recurses := true, named := ["carling/cipher.firstWords", "carling/cipher.quarterPlaces"], apart := false, laid := [("carling/cipher.firstWords", laid_carling_cipher_firstWords), ("carling/cipher.quarterPlaces", laid_carling_cipher_quarterPlaces)] }
def CipherOneSaid : Prop := cipherOneRow.holds Tryd.pinned (OpenSpec.ofChange cipherOneSpec)

/-- ITS FALSE NEIGHBOUR: 'it returns false'. Refute it at one input. -/
def cipherOneWrong : ChangeSpec := { name := "cipherOne", fn := fun _ => fun
  | [d1, d2, d3] => { results := [.lit (.bool false)], args := [d1, d2, d3] }
  | _ => none }
def CipherOneWrongFalsely : Prop := cipherOneRow.holds Tryd.pinned (OpenSpec.ofChange cipherOneWrong)

/- THE SECOND FORM. 'bulk': how many values and letters a reading holds, each counted each time it is reached (what is shared counts as often as it is met; a slice's spare places count too). A statement '..UptoSaid' is the law's where the arguments, and the package variables that the reading takes, are together of bulk at most 1048576: NARROWER than '..Said'. Prove '..Said' where nothing that the law and all that it calls make is longer than what came in: it says more and counts as full. Else prove '..UptoSaid'. A law counts once. -/
mutual
def uptoBulk {H : Type} : DataW H → Nat
  | .lit (.string bytes) => bytes.length + 1
  | .lit _ => 1
  | .nil => 1
  | .ptr d => uptoBulk d + 1
  | .slice elems spare => uptoBulkAll elems + uptoBulkAll spare + 1
  | .agg parts => uptoBulkAll parts + 1
  | .iface _ d => uptoBulk d + 1
  | .map entries => uptoBulkEntries entries + 1
  | .held _ => 1
def uptoBulkAll {H : Type} : List (DataW H) → Nat
  | [] => 0
  | d :: r => uptoBulk d + uptoBulkAll r
def uptoBulkEntries {H : Type} : List (Lit × DataW H) → Nat
  | [] => 0
  | x :: r => uptoBulkEntry x + uptoBulkEntries r
def uptoBulkEntry {H : Type} : Lit × DataW H → Nat
  | (.string bytes, d) => bytes.length + uptoBulk d + 1
  | (_, d) => uptoBulk d + 1
 end
def uptoSmall : (H : Type) → List (DataW H) → Bool := fun _ ds => decide (uptoBulkAll ds ≤ 1048576)
def OpenSpec.upto (s : _root_.Go.ChangeSpec) : _root_.Go.OpenSpec := { _root_.Go.OpenSpec.ofChange s with cond := some uptoSmall }

/-- 'carlinglaw04.CipherBlocks', WHERE WHAT IT READS IS OF BULK AT MOST 1048576: true; the input reads as it did. -/
def cipherBlocksUptoRow : OpenClaim := { program := "ytikfhabcjjoloaadoor", sum := "7d0edce07841cc026aaa339a0ddc5849f1b4cda5c54618b98b2c6f5b74214519", func := "carling/carlinglaw04.CipherBlocks", spec := "cipherBlocks", unfollowed := true, recurses := true, named := ["carling/cipher.firstWords", "carling/cipher.quarterPlaces"], apart := false, laid := [("carling/cipher.firstWords", laid_carling_cipher_firstWords), ("carling/cipher.quarterPlaces", laid_carling_cipher_quarterPlaces)], narrowed := true }
def CipherBlocksUptoSaid : Prop := cipherBlocksUptoRow.holds Tryd.pinned (OpenSpec.upto cipherBlocksSpec)

/-- 'carlinglaw04.CipherTurns', WHERE WHAT IT READS IS OF BULK AT MOST 1048576: true; the input reads as it did. -/
def cipherTurnsUptoRow : OpenClaim := { program := "ytikfhabcjjoloaadoor", sum := "7d0edce07841cc026aaa339a0ddc5849f1b4cda5c54618b98b2c6f5b74214519", func := "carling/carlinglaw04.CipherTurns", spec := "cipherTurns", unfollowed := true, recurses := true, named := ["carling/cipher.firstWords", "carling/cipher.quarterPlaces"], apart := false, laid := [("carling/cipher.firstWords", laid_carling_cipher_firstWords), ("carling/cipher.quarterPlaces", laid_carling_cipher_quarterPlaces)], narrowed := true }
def CipherTurnsUptoSaid : Prop := cipherTurnsUptoRow.holds Tryd.pinned (OpenSpec.upto cipherTurnsSpec)

/-- 'carlinglaw04.CipherBack', WHERE WHAT IT READS IS OF BULK AT MOST 1048576: true; the input reads as it did. -/
def cipherBackUptoRow : OpenClaim := { program := "ytikfhabcjjoloaadoor", sum := "7d0edce07841cc026aaa339a0ddc5849f1b4cda5c54618b98b2c6f5b74214519", func := "carling/carlinglaw04.CipherBack", spec := "cipherBack", unfollowed := true, recurses := true, named := ["carling/cipher.firstWords", "carling/cipher.quarterPlaces"], apart := false, laid := [("carling/cipher.firstWords", laid_carling_cipher_firstWords), ("carling/cipher.quarterPlaces", laid_carling_cipher_quarterPlaces)], narrowed := true }
def CipherBackUptoSaid : Prop := cipherBackUptoRow.holds Tryd.pinned (OpenSpec.upto cipherBackSpec)

/-- 'carlinglaw04.CipherOne', WHERE WHAT IT READS IS OF BULK AT MOST 1048576: true; the input reads as it did. -/
def cipherOneUptoRow : OpenClaim := { program := "ytikfhabcjjoloaadoor", sum := "7d0edce07841cc026aaa339a0ddc5849f1b4cda5c54618b98b2c6f5b74214519", func := "carling/carlinglaw04.CipherOne", spec := "cipherOne", unfollowed := true, recurses := true, named := ["carling/cipher.firstWords", "carling/cipher.quarterPlaces"], apart := false, laid := [("carling/cipher.firstWords", laid_carling_cipher_firstWords), ("carling/cipher.quarterPlaces", laid_carling_cipher_quarterPlaces)], narrowed := true }
def CipherOneUptoSaid : Prop := cipherOneUptoRow.holds Tryd.pinned (OpenSpec.upto cipherOneSpec)

end Rows
end Go.Proofs.YtikfhabcjjoloaaDoor
