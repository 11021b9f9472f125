/-
  No cell of these rows narrows 'for every input' (looked for: loops, veiled, ifaces, maps, wideKeys, modest, calm, conditions, laid).
  DERIVED. THE GIVEN ROWS OF THIS SEAT. 4 by the template 'for every input the law returns true; each argument reads behind the call as it read before'; 0 by the template 'total and deterministic' (their statements: YtbnjihpafipbnaaTotals.lean).
  GIVEN WITH THE SEED: the statements are not yours to turn. If you find one false, say at which input.
  Laid BY PROGRAM, IN A SANDBOX (cutbox-rows.mjs): the forced cells as the released guide's own fill.sh prints them over the translation e40ee2dc93813ec9… (all of the seat's roots in one cut). By AI agents, Wed Nov 11 2026. No macro, syntax, notation, axiom, sorry.
-/
import Derived.Test.YtbnjihpafipbnaaChecked
import GoSem.Claim
import GoSem.ClaimJoined
import GoSem.ClaimMapViews
import Derived.JoinedTies
import Derived.KernelRfl
namespace Go.Proofs.Ytbnjihpafipbnaa
/- THE CELL 'sum', in the pinned program and in every row, IS THE sha256 OF THE DUMP (.gsa) THAT YtbnjihpafipbnaaProg.lean LOADS. Nothing in Lean hashes anything: it is a label: what it is worth is what the hold of that sum in a sandbox is worth. -/
noncomputable def Try.pinned : Pinned := { name := "ytbnjihpafipbnaa", sum := "e40ee2dc93813ec950ca6710dce1714599dded460b2093e58bebd6f6f0706ed0", checked := Try.checked }
namespace Rows
def none {H : Type} : Left H := { results := [], args := [] }

/-- 'carlinglaw11.HeadLays': WHATEVER THE INPUT: true; the input reads as it did. -/
def headLaysSpec : ChangeSpec := { name := "headLays", fn := fun _ => fun
  | [d1, d2] => { results := [.lit (.bool true)], args := [d1, d2] }
  | _ => none }
def headLaysRow : OpenClaim := { program := "ytbnjihpafipbnaa", sum := "e40ee2dc93813ec950ca6710dce1714599dded460b2093e58bebd6f6f0706ed0", func := "carling/carlinglaw11.HeadLays", spec := "headLays", apart := false }
def HeadLaysSaid : Prop := headLaysRow.holds Try.pinned (OpenSpec.ofChange headLaysSpec)

/-- ITS FALSE NEIGHBOUR: 'it returns false'. Refute it at one input. -/
def headLaysWrong : ChangeSpec := { name := "headLays", fn := fun _ => fun
  | [d1, d2] => { results := [.lit (.bool false)], args := [d1, d2] }
  | _ => none }
def HeadLaysWrongFalsely : Prop := headLaysRow.holds Try.pinned (OpenSpec.ofChange headLaysWrong)

/-- 'carlinglaw11.HeadParses': WHATEVER THE INPUT: true; the input reads as it did. -/
def headParsesSpec : ChangeSpec := { name := "headParses", fn := fun _ => fun
  | [d] => { results := [.lit (.bool true)], args := [d] }
  | _ => none }
def headParsesRow : OpenClaim := { program := "ytbnjihpafipbnaa", sum := "e40ee2dc93813ec950ca6710dce1714599dded460b2093e58bebd6f6f0706ed0", func := "carling/carlinglaw11.HeadParses", spec := "headParses", apart := false }
def HeadParsesSaid : Prop := headParsesRow.holds Try.pinned (OpenSpec.ofChange headParsesSpec)

/-- ITS FALSE NEIGHBOUR: 'it returns false'. Refute it at one input. -/
def headParsesWrong : ChangeSpec := { name := "headParses", fn := fun _ => fun
  | [d] => { results := [.lit (.bool false)], args := [d] }
  | _ => none }
def HeadParsesWrongFalsely : Prop := headParsesRow.holds Try.pinned (OpenSpec.ofChange headParsesWrong)

/-- 'carlinglaw11.HeadBack': WHATEVER THE INPUT: true; the input reads as it did. -/
def headBackSpec : ChangeSpec := { name := "headBack", fn := fun _ => fun
  | [d1, d2] => { results := [.lit (.bool true)], args := [d1, d2] }
  | _ => none }
def headBackRow : OpenClaim := { program := "ytbnjihpafipbnaa", sum := "e40ee2dc93813ec950ca6710dce1714599dded460b2093e58bebd6f6f0706ed0", func := "carling/carlinglaw11.HeadBack", spec := "headBack", apart := false }
def HeadBackSaid : Prop := headBackRow.holds Try.pinned (OpenSpec.ofChange headBackSpec)

/-- ITS FALSE NEIGHBOUR: 'it returns false'. Refute it at one input. -/
def headBackWrong : ChangeSpec := { name := "headBack", fn := fun _ => fun
  | [d1, d2] => { results := [.lit (.bool false)], args := [d1, d2] }
  | _ => none }
def HeadBackWrongFalsely : Prop := headBackRow.holds Try.pinned (OpenSpec.ofChange headBackWrong)

/-- 'carlinglaw11.HeadUpgrades': WHATEVER THE INPUT: true; the input reads as it did. -/
def headUpgradesSpec : ChangeSpec := { name := "headUpgrades", fn := fun _ => fun
  | [d] => { results := [.lit (.bool true)], args := [d] }
  | _ => none }
def headUpgradesRow : OpenClaim := { program := "ytbnjihpafipbnaa", sum := "e40ee2dc93813ec950ca6710dce1714599dded460b2093e58bebd6f6f0706ed0", func := "carling/carlinglaw11.HeadUpgrades", spec := "headUpgrades", apart := false }
def HeadUpgradesSaid : Prop := headUpgradesRow.holds Try.pinned (OpenSpec.ofChange headUpgradesSpec)

/-- ITS FALSE NEIGHBOUR: 'it returns false'. Refute it at one input. -/
def headUpgradesWrong : ChangeSpec := { name := "headUpgrades", fn := fun _ => fun
  | [d] => { results := [.lit (.bool false)], args := [d] }
  | _ => none }
def HeadUpgradesWrongFalsely : Prop := headUpgradesRow.holds Try.pinned (OpenSpec.ofChange headUpgradesWrong)

/- THE SECOND FORM. 'bulk': how many values and letters a reading holds, each counted each time it is reached (what is shared counts as often as it is met; a slice's spare places count too). A statement '..UptoSaid' is the law's where the arguments, and the package variables that the reading takes, are together of bulk at most 1048576: NARROWER than '..Said'. Prove '..Said' where nothing that the law and all that it calls make is longer than what came in: it says more and counts as full. Else prove '..UptoSaid'. A law counts once. -/
mutual
def uptoBulk {H : Type} : DataW H → Nat
  | .lit (.string bytes) => bytes.length + 1
  | .lit _ => 1
  | .nil => 1
  | .ptr d => uptoBulk d + 1
  | .slice elems spare => uptoBulkAll elems + uptoBulkAll spare + 1
  | .agg parts => uptoBulkAll parts + 1
  | .iface _ d => uptoBulk d + 1
  | .map entries => uptoBulkEntries entries + 1
  | .held _ => 1
def uptoBulkAll {H : Type} : List (DataW H) → Nat
  | [] => 0
  | d :: r => uptoBulk d + uptoBulkAll r
def uptoBulkEntries {H : Type} : List (Lit × DataW H) → Nat
  | [] => 0
  | x :: r => uptoBulkEntry x + uptoBulkEntries r
def uptoBulkEntry {H : Type} : Lit × DataW H → Nat
  | (.string bytes, d) => bytes.length + uptoBulk d + 1
  | (_, d) => uptoBulk d + 1
 end
def uptoSmall : (H : Type) → List (DataW H) → Bool := fun _ ds => decide (uptoBulkAll ds ≤ 1048576)
def OpenSpec.upto (s : _root_.Go.ChangeSpec) : _root_.Go.OpenSpec := { _root_.Go.OpenSpec.ofChange s with cond := some uptoSmall }

/-- 'carlinglaw11.HeadLays', WHERE WHAT IT READS IS OF BULK AT MOST 1048576: true; the input reads as it did. -/
def headLaysUptoRow : OpenClaim := { program := "ytbnjihpafipbnaa", sum := "e40ee2dc93813ec950ca6710dce1714599dded460b2093e58bebd6f6f0706ed0", func := "carling/carlinglaw11.HeadLays", spec := "headLays", apart := false, narrowed := true }
def HeadLaysUptoSaid : Prop := headLaysUptoRow.holds Try.pinned (OpenSpec.upto headLaysSpec)

/-- 'carlinglaw11.HeadParses', WHERE WHAT IT READS IS OF BULK AT MOST 1048576: true; the input reads as it did. -/
def headParsesUptoRow : OpenClaim := { program := "ytbnjihpafipbnaa", sum := "e40ee2dc93813ec950ca6710dce1714599dded460b2093e58bebd6f6f0706ed0", func := "carling/carlinglaw11.HeadParses", spec := "headParses", apart := false, narrowed := true }
def HeadParsesUptoSaid : Prop := headParsesUptoRow.holds Try.pinned (OpenSpec.upto headParsesSpec)

/-- 'carlinglaw11.HeadBack', WHERE WHAT IT READS IS OF BULK AT MOST 1048576: true; the input reads as it did. -/
def headBackUptoRow : OpenClaim := { program := "ytbnjihpafipbnaa", sum := "e40ee2dc93813ec950ca6710dce1714599dded460b2093e58bebd6f6f0706ed0", func := "carling/carlinglaw11.HeadBack", spec := "headBack", apart := false, narrowed := true }
def HeadBackUptoSaid : Prop := headBackUptoRow.holds Try.pinned (OpenSpec.upto headBackSpec)

/-- 'carlinglaw11.HeadUpgrades', WHERE WHAT IT READS IS OF BULK AT MOST 1048576: true; the input reads as it did. -/
def headUpgradesUptoRow : OpenClaim := { program := "ytbnjihpafipbnaa", sum := "e40ee2dc93813ec950ca6710dce1714599dded460b2093e58bebd6f6f0706ed0", func := "carling/carlinglaw11.HeadUpgrades", spec := "headUpgrades", apart := false, narrowed := true }
def HeadUpgradesUptoSaid : Prop := headUpgradesUptoRow.holds Try.pinned (OpenSpec.upto headUpgradesSpec)

end Rows
end Go.Proofs.Ytbnjihpafipbnaa
