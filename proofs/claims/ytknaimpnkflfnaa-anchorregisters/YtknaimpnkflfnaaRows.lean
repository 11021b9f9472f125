/-
  No cell of these rows narrows 'for every input' (looked for: loops, veiled, ifaces, maps, wideKeys, modest, calm, conditions, laid).
  DERIVED. THE GIVEN ROWS OF THIS SEAT. 4 by the template 'for every input the law returns true; each argument reads behind the call as it read before'; 0 by the template 'total and deterministic' (their statements: YtknaimpnkflfnaaTotals.lean).
  GIVEN WITH THE SEED: the statements are not yours to turn. If you find one false, say at which input.
  Laid BY PROGRAM, IN A SANDBOX (cutbox-rows.mjs): the forced cells as the released guide's own fill.sh prints them over the translation fb44aad36f6306d3… (all of the seat's roots in one cut). By AI agents, Wed Nov 11 2026. No macro, syntax, notation, axiom, sorry.
-/
import Derived.Test.YtknaimpnkflfnaaChecked
import GoSem.Claim
import GoSem.ClaimJoined
import GoSem.ClaimMapViews
import Derived.JoinedTies
import Derived.KernelRfl
namespace Go.Proofs.Ytknaimpnkflfnaa
/- THE CELL 'sum', in the pinned program and in every row, IS THE sha256 OF THE DUMP (.gsa) THAT YtknaimpnkflfnaaProg.lean LOADS. Nothing in Lean hashes anything: it is a label: what it is worth is what the hold of that sum in a sandbox is worth. -/
noncomputable def Try.pinned : Pinned := { name := "ytknaimpnkflfnaa", sum := "fb44aad36f6306d3be21e26d75450210b2bda0a4a0abe5d0c3a20c338c66c738", checked := Try.checked }
namespace Rows
def none {H : Type} : Left H := { results := [], args := [] }

/-- 'carlinglaw07.AnchorLays': WHATEVER THE INPUT: true; the input reads as it did. -/
def anchorLaysSpec : ChangeSpec := { name := "anchorLays", fn := fun _ => fun
  | [d] => { results := [.lit (.bool true)], args := [d] }
  | _ => none }
def anchorLaysRow : OpenClaim := { program := "ytknaimpnkflfnaa", sum := "fb44aad36f6306d3be21e26d75450210b2bda0a4a0abe5d0c3a20c338c66c738", func := "carling/carlinglaw07.AnchorLays", spec := "anchorLays", unfollowed := true, recurses := true, apart := false }
def AnchorLaysSaid : Prop := anchorLaysRow.holds Try.pinned (OpenSpec.ofChange anchorLaysSpec)

/-- ITS FALSE NEIGHBOUR: 'it returns false'. Refute it at one input. -/
def anchorLaysWrong : ChangeSpec := { name := "anchorLays", fn := fun _ => fun
  | [d] => { results := [.lit (.bool false)], args := [d] }
  | _ => none }
def AnchorLaysWrongFalsely : Prop := anchorLaysRow.holds Try.pinned (OpenSpec.ofChange anchorLaysWrong)

/-- 'carlinglaw07.AnchorParses': WHATEVER THE INPUT: true; the input reads as it did. -/
def anchorParsesSpec : ChangeSpec := { name := "anchorParses", fn := fun _ => fun
  | [d] => { results := [.lit (.bool true)], args := [d] }
  | _ => none }
def anchorParsesRow : OpenClaim := { program := "ytknaimpnkflfnaa", sum := "fb44aad36f6306d3be21e26d75450210b2bda0a4a0abe5d0c3a20c338c66c738", func := "carling/carlinglaw07.AnchorParses", spec := "anchorParses", unfollowed := true, recurses := true, apart := false }
def AnchorParsesSaid : Prop := anchorParsesRow.holds Try.pinned (OpenSpec.ofChange anchorParsesSpec)

/-- ITS FALSE NEIGHBOUR: 'it returns false'. Refute it at one input. -/
def anchorParsesWrong : ChangeSpec := { name := "anchorParses", fn := fun _ => fun
  | [d] => { results := [.lit (.bool false)], args := [d] }
  | _ => none }
def AnchorParsesWrongFalsely : Prop := anchorParsesRow.holds Try.pinned (OpenSpec.ofChange anchorParsesWrong)

/-- 'carlinglaw07.AnchorBack': WHATEVER THE INPUT: true; the input reads as it did. -/
def anchorBackSpec : ChangeSpec := { name := "anchorBack", fn := fun _ => fun
  | [d1, d2] => { results := [.lit (.bool true)], args := [d1, d2] }
  | _ => none }
def anchorBackRow : OpenClaim := { program := "ytknaimpnkflfnaa", sum := "fb44aad36f6306d3be21e26d75450210b2bda0a4a0abe5d0c3a20c338c66c738", func := "carling/carlinglaw07.AnchorBack", spec := "anchorBack", unfollowed := true, recurses := true, apart := false }
def AnchorBackSaid : Prop := anchorBackRow.holds Try.pinned (OpenSpec.ofChange anchorBackSpec)

/-- ITS FALSE NEIGHBOUR: 'it returns false'. Refute it at one input. -/
def anchorBackWrong : ChangeSpec := { name := "anchorBack", fn := fun _ => fun
  | [d1, d2] => { results := [.lit (.bool false)], args := [d1, d2] }
  | _ => none }
def AnchorBackWrongFalsely : Prop := anchorBackRow.holds Try.pinned (OpenSpec.ofChange anchorBackWrong)

/-- 'carlinglaw07.AnchorRegisters': WHATEVER THE INPUT: true; the input reads as it did. -/
def anchorRegistersSpec : ChangeSpec := { name := "anchorRegisters", fn := fun _ => fun
  | [d] => { results := [.lit (.bool true)], args := [d] }
  | _ => none }
def anchorRegistersRow : OpenClaim := { program := "ytknaimpnkflfnaa", sum := "fb44aad36f6306d3be21e26d75450210b2bda0a4a0abe5d0c3a20c338c66c738", func := "carling/carlinglaw07.AnchorRegisters", spec := "anchorRegisters", unfollowed := true, recurses := true, apart := false }
def AnchorRegistersSaid : Prop := anchorRegistersRow.holds Try.pinned (OpenSpec.ofChange anchorRegistersSpec)

/-- ITS FALSE NEIGHBOUR: 'it returns false'. Refute it at one input. -/
def anchorRegistersWrong : ChangeSpec := { name := "anchorRegisters", fn := fun _ => fun
  | [d] => { results := [.lit (.bool false)], args := [d] }
  | _ => none }
def AnchorRegistersWrongFalsely : Prop := anchorRegistersRow.holds Try.pinned (OpenSpec.ofChange anchorRegistersWrong)

/- THE SECOND FORM. 'bulk': how many values and letters a reading holds, each counted each time it is reached (what is shared counts as often as it is met; a slice's spare places count too). A statement '..UptoSaid' is the law's where the arguments, and the package variables that the reading takes, are together of bulk at most 1048576: NARROWER than '..Said'. Prove '..Said' where nothing that the law and all that it calls make is longer than what came in: it says more and counts as full. Else prove '..UptoSaid'. A law counts once. -/
mutual
def uptoBulk {H : Type} : DataW H → Nat
  | .lit (.string bytes) => bytes.length + 1
  | .lit _ => 1
  | .nil => 1
  | .ptr d => uptoBulk d + 1
  | .slice elems spare => uptoBulkAll elems + uptoBulkAll spare + 1
  | .agg parts => uptoBulkAll parts + 1
  | .iface _ d => uptoBulk d + 1
  | .map entries => uptoBulkEntries entries + 1
  | .held _ => 1
def uptoBulkAll {H : Type} : List (DataW H) → Nat
  | [] => 0
  | d :: r => uptoBulk d + uptoBulkAll r
def uptoBulkEntries {H : Type} : List (Lit × DataW H) → Nat
  | [] => 0
  | x :: r => uptoBulkEntry x + uptoBulkEntries r
def uptoBulkEntry {H : Type} : Lit × DataW H → Nat
  | (.string bytes, d) => bytes.length + uptoBulk d + 1
  | (_, d) => uptoBulk d + 1
 end
def uptoSmall : (H : Type) → List (DataW H) → Bool := fun _ ds => decide (uptoBulkAll ds ≤ 1048576)
def OpenSpec.upto (s : _root_.Go.ChangeSpec) : _root_.Go.OpenSpec := { _root_.Go.OpenSpec.ofChange s with cond := some uptoSmall }

/-- 'carlinglaw07.AnchorLays', WHERE WHAT IT READS IS OF BULK AT MOST 1048576: true; the input reads as it did. -/
def anchorLaysUptoRow : OpenClaim := { program := "ytknaimpnkflfnaa", sum := "fb44aad36f6306d3be21e26d75450210b2bda0a4a0abe5d0c3a20c338c66c738", func := "carling/carlinglaw07.AnchorLays", spec := "anchorLays", unfollowed := true, recurses := true, apart := false, narrowed := true }
def AnchorLaysUptoSaid : Prop := anchorLaysUptoRow.holds Try.pinned (OpenSpec.upto anchorLaysSpec)

/-- 'carlinglaw07.AnchorParses', WHERE WHAT IT READS IS OF BULK AT MOST 1048576: true; the input reads as it did. -/
def anchorParsesUptoRow : OpenClaim := { program := "ytknaimpnkflfnaa", sum := "fb44aad36f6306d3be21e26d75450210b2bda0a4a0abe5d0c3a20c338c66c738", func := "carling/carlinglaw07.AnchorParses", spec := "anchorParses", unfollowed := true, recurses := true, apart := false, narrowed := true }
def AnchorParsesUptoSaid : Prop := anchorParsesUptoRow.holds Try.pinned (OpenSpec.upto anchorParsesSpec)

/-- 'carlinglaw07.AnchorBack', WHERE WHAT IT READS IS OF BULK AT MOST 1048576: true; the input reads as it did. -/
def anchorBackUptoRow : OpenClaim := { program := "ytknaimpnkflfnaa", sum := "fb44aad36f6306d3be21e26d75450210b2bda0a4a0abe5d0c3a20c338c66c738", func := "carling/carlinglaw07.AnchorBack", spec := "anchorBack", unfollowed := true, recurses := true, apart := false, narrowed := true }
def AnchorBackUptoSaid : Prop := anchorBackUptoRow.holds Try.pinned (OpenSpec.upto anchorBackSpec)

/-- 'carlinglaw07.AnchorRegisters', WHERE WHAT IT READS IS OF BULK AT MOST 1048576: true; the input reads as it did. -/
def anchorRegistersUptoRow : OpenClaim := { program := "ytknaimpnkflfnaa", sum := "fb44aad36f6306d3be21e26d75450210b2bda0a4a0abe5d0c3a20c338c66c738", func := "carling/carlinglaw07.AnchorRegisters", spec := "anchorRegisters", unfollowed := true, recurses := true, apart := false, narrowed := true }
def AnchorRegistersUptoSaid : Prop := anchorRegistersUptoRow.holds Try.pinned (OpenSpec.upto anchorRegistersSpec)

end Rows
end Go.Proofs.Ytknaimpnkflfnaa
