/-
  NARROWER THAN 'FOR EVERY INPUT', by the rows' own cells (each row's printed sentence says how): ShaSums: laid · ShaParts: laid · ShaStays: laid · ShaTurns: laid · ShaConsts: laid · MacSums: laid · MacEquals: laid · MacParts: laid · MacFills: laid.
  DERIVED. THE GIVEN ROWS OF THIS SEAT. 9 by the template 'for every input the law returns true; each argument reads behind the call as it read before'; 0 by the template 'total and deterministic' (their statements: YtmnhpochojplgaaDoorTotals.lean).
  GIVEN WITH THE SEED: the statements are not yours to turn. If you find one false, say at which input.
  Laid BY PROGRAM, IN A SANDBOX (cutbox-rows.mjs): the forced cells as the released guide's own fill.sh prints them over the translation 94f2f914b496bb19… (all of the seat's roots in one cut). By AI agents, Wed Nov 11 2026. No macro, syntax, notation, axiom, sorry.
-/
import Derived.Test.YtmnhpochojplgaaDoorChecked
import GoSem.Claim
import GoSem.ClaimJoined
import GoSem.ClaimMapViews
import Derived.JoinedTies
import Derived.KernelRfl
namespace Go.Proofs.YtmnhpochojplgaaDoor
/- THE CELL 'sum', in the pinned program and in every row, IS THE sha256 OF THE DUMP (.gsa) THAT YtmnhpochojplgaaDoorProg.lean LOADS. Nothing in Lean hashes anything: it is a label: what it is worth is what the hold of that sum in a sandbox is worth. -/
noncomputable def Tryd.pinned : Pinned := { name := "ytmnhpochojplgaadoor", sum := "94f2f914b496bb19c5cbb7788e2c78abd5eb05b33988c1eacaac4424392ad2d0", checked := Tryd.checked }
namespace Rows
def none {H : Type} : Left H := { results := [], args := [] }

/- WHAT THE LISTED PACKAGE-LEVEL VARIABLES READ AS WHEN THE CALL BEGINS. Each datum BY PROGRAM (the guide's laid-datum.mjs) off the statement by which the dump's own 'gosem.cut.vars' lays the variable. In a bare row this is a premise. The card (YtmnhpochojplgaaDoorCards.lean) ties it to the program's text. -/
def laid_carling_sha_roundConstants {H : Type} : DataW H := .agg [.lit (.int .u32 1116352408), .lit (.int .u32 1899447441), .lit (.int .u32 3049323471), .lit (.int .u32 3921009573), .lit (.int .u32 961987163), .lit (.int .u32 1508970993), .lit (.int .u32 2453635748), .lit (.int .u32 2870763221), .lit (.int .u32 3624381080), .lit (.int .u32 310598401), .lit (.int .u32 607225278), .lit (.int .u32 1426881987), .lit (.int .u32 1925078388), .lit (.int .u32 2162078206), .lit (.int .u32 2614888103), .lit (.int .u32 3248222580), .lit (.int .u32 3835390401), .lit (.int .u32 4022224774), .lit (.int .u32 264347078), .lit (.int .u32 604807628), .lit (.int .u32 770255983), .lit (.int .u32 1249150122), .lit (.int .u32 1555081692), .lit (.int .u32 1996064986), .lit (.int .u32 2554220882), .lit (.int .u32 2821834349), .lit (.int .u32 2952996808), .lit (.int .u32 3210313671), .lit (.int .u32 3336571891), .lit (.int .u32 3584528711), .lit (.int .u32 113926993), .lit (.int .u32 338241895), .lit (.int .u32 666307205), .lit (.int .u32 773529912), .lit (.int .u32 1294757372), .lit (.int .u32 1396182291), .lit (.int .u32 1695183700), .lit (.int .u32 1986661051), .lit (.int .u32 2177026350), .lit (.int .u32 2456956037), .lit (.int .u32 2730485921), .lit (.int .u32 2820302411), .lit (.int .u32 3259730800), .lit (.int .u32 3345764771), .lit (.int .u32 3516065817), .lit (.int .u32 3600352804), .lit (.int .u32 4094571909), .lit (.int .u32 275423344), .lit (.int .u32 430227734), .lit (.int .u32 506948616), .lit (.int .u32 659060556), .lit (.int .u32 883997877), .lit (.int .u32 958139571), .lit (.int .u32 1322822218), .lit (.int .u32 1537002063), .lit (.int .u32 1747873779), .lit (.int .u32 1955562222), .lit (.int .u32 2024104815), .lit (.int .u32 2227730452), .lit (.int .u32 2361852424), .lit (.int .u32 2428436474), .lit (.int .u32 2756734187), .lit (.int .u32 3204031479), .lit (.int .u32 3329325298)]
def laid_carling_sha_firstState {H : Type} : DataW H := .agg [.lit (.int .u32 1779033703), .lit (.int .u32 3144134277), .lit (.int .u32 1013904242), .lit (.int .u32 2773480762), .lit (.int .u32 1359893119), .lit (.int .u32 2600822924), .lit (.int .u32 528734635), .lit (.int .u32 1541459225)]

/-- 'carlinglaw01.ShaSums': WHATEVER THE INPUT: true; the input reads as it did. -/
def shaSumsSpec : ChangeSpec := { name := "shaSums", fn := fun _ => fun
  | [d] => { results := [.lit (.bool true)], args := [d] }
  | _ => none }
def shaSumsRow : OpenClaim := { program := "ytmnhpochojplgaadoor", sum := "94f2f914b496bb19c5cbb7788e2c78abd5eb05b33988c1eacaac4424392ad2d0", func := "carling/carlinglaw01.ShaSums", spec := "shaSums", named := ["carling/sha.firstState", "carling/sha.roundConstants"], apart := false, laid := [("carling/sha.roundConstants", laid_carling_sha_roundConstants), ("carling/sha.firstState", laid_carling_sha_firstState)] }
def ShaSumsSaid : Prop := shaSumsRow.holds Tryd.pinned (OpenSpec.ofChange shaSumsSpec)

/-- ITS FALSE NEIGHBOUR: 'it returns false'. Refute it at one input. -/
def shaSumsWrong : ChangeSpec := { name := "shaSums", fn := fun _ => fun
  | [d] => { results := [.lit (.bool false)], args := [d] }
  | _ => none }
def ShaSumsWrongFalsely : Prop := shaSumsRow.holds Tryd.pinned (OpenSpec.ofChange shaSumsWrong)

/-- 'carlinglaw01.ShaParts': WHATEVER THE INPUT: true; the input reads as it did. -/
def shaPartsSpec : ChangeSpec := { name := "shaParts", fn := fun _ => fun
  | [d] => { results := [.lit (.bool true)], args := [d] }
  | _ => none }
def shaPartsRow : OpenClaim := { program := "ytmnhpochojplgaadoor", sum := "94f2f914b496bb19c5cbb7788e2c78abd5eb05b33988c1eacaac4424392ad2d0", func := "carling/carlinglaw01.ShaParts", spec := "shaParts", named := ["carling/sha.firstState", "carling/sha.roundConstants"], apart := false, laid := [("carling/sha.roundConstants", laid_carling_sha_roundConstants), ("carling/sha.firstState", laid_carling_sha_firstState)] }
def ShaPartsSaid : Prop := shaPartsRow.holds Tryd.pinned (OpenSpec.ofChange shaPartsSpec)

/-- ITS FALSE NEIGHBOUR: 'it returns false'. Refute it at one input. -/
def shaPartsWrong : ChangeSpec := { name := "shaParts", fn := fun _ => fun
  | [d] => { results := [.lit (.bool false)], args := [d] }
  | _ => none }
def ShaPartsWrongFalsely : Prop := shaPartsRow.holds Tryd.pinned (OpenSpec.ofChange shaPartsWrong)

/-- 'carlinglaw01.ShaStays': WHATEVER THE INPUT: true; the input reads as it did. -/
def shaStaysSpec : ChangeSpec := { name := "shaStays", fn := fun _ => fun
  | [d1, d2, d3] => { results := [.lit (.bool true)], args := [d1, d2, d3] }
  | _ => none }
def shaStaysRow : OpenClaim := { program := "ytmnhpochojplgaadoor", sum := "94f2f914b496bb19c5cbb7788e2c78abd5eb05b33988c1eacaac4424392ad2d0", func := "carling/carlinglaw01.ShaStays", spec := "shaStays", named := ["carling/sha.firstState", "carling/sha.roundConstants"], apart := false, laid := [("carling/sha.roundConstants", laid_carling_sha_roundConstants), ("carling/sha.firstState", laid_carling_sha_firstState)] }
def ShaStaysSaid : Prop := shaStaysRow.holds Tryd.pinned (OpenSpec.ofChange shaStaysSpec)

/-- ITS FALSE NEIGHBOUR: 'it returns false'. Refute it at one input. -/
def shaStaysWrong : ChangeSpec := { name := "shaStays", fn := fun _ => fun
  | [d1, d2, d3] => { results := [.lit (.bool false)], args := [d1, d2, d3] }
  | _ => none }
def ShaStaysWrongFalsely : Prop := shaStaysRow.holds Tryd.pinned (OpenSpec.ofChange shaStaysWrong)

/-- 'carlinglaw01.ShaTurns': WHATEVER THE INPUT: true; the input reads as it did. -/
def shaTurnsSpec : ChangeSpec := { name := "shaTurns", fn := fun _ => fun
  | [d1, d2, d3] => { results := [.lit (.bool true)], args := [d1, d2, d3] }
  | _ => none }
def shaTurnsRow : OpenClaim := { program := "ytmnhpochojplgaadoor", sum := "94f2f914b496bb19c5cbb7788e2c78abd5eb05b33988c1eacaac4424392ad2d0", func := "carling/carlinglaw01.ShaTurns", spec := "shaTurns", named := ["carling/sha.firstState", "carling/sha.roundConstants"], apart := false, laid := [("carling/sha.roundConstants", laid_carling_sha_roundConstants), ("carling/sha.firstState", laid_carling_sha_firstState)] }
def ShaTurnsSaid : Prop := shaTurnsRow.holds Tryd.pinned (OpenSpec.ofChange shaTurnsSpec)

/-- ITS FALSE NEIGHBOUR: 'it returns false'. Refute it at one input. -/
def shaTurnsWrong : ChangeSpec := { name := "shaTurns", fn := fun _ => fun
  | [d1, d2, d3] => { results := [.lit (.bool false)], args := [d1, d2, d3] }
  | _ => none }
def ShaTurnsWrongFalsely : Prop := shaTurnsRow.holds Tryd.pinned (OpenSpec.ofChange shaTurnsWrong)

/-- 'carlinglaw01.ShaConsts': WHATEVER THE INPUT: true; the input reads as it did. -/
def shaConstsSpec : ChangeSpec := { name := "shaConsts", fn := fun _ => fun
  | [d] => { results := [.lit (.bool true)], args := [d] }
  | _ => none }
def shaConstsRow : OpenClaim := { program := "ytmnhpochojplgaadoor", sum := "94f2f914b496bb19c5cbb7788e2c78abd5eb05b33988c1eacaac4424392ad2d0", func := "carling/carlinglaw01.ShaConsts", spec := "shaConsts", named := ["carling/sha.roundConstants", "carling/sha.firstState"], apart := false, laid := [("carling/sha.roundConstants", laid_carling_sha_roundConstants), ("carling/sha.firstState", laid_carling_sha_firstState)] }
def ShaConstsSaid : Prop := shaConstsRow.holds Tryd.pinned (OpenSpec.ofChange shaConstsSpec)

/-- ITS FALSE NEIGHBOUR: 'it returns false'. Refute it at one input. -/
def shaConstsWrong : ChangeSpec := { name := "shaConsts", fn := fun _ => fun
  | [d] => { results := [.lit (.bool false)], args := [d] }
  | _ => none }
def ShaConstsWrongFalsely : Prop := shaConstsRow.holds Tryd.pinned (OpenSpec.ofChange shaConstsWrong)

/-- 'carlinglaw02.MacSums': WHATEVER THE INPUT: true; the input reads as it did. -/
def macSumsSpec : ChangeSpec := { name := "macSums", fn := fun _ => fun
  | [d1, d2] => { results := [.lit (.bool true)], args := [d1, d2] }
  | _ => none }
def macSumsRow : OpenClaim := { program := "ytmnhpochojplgaadoor", sum := "94f2f914b496bb19c5cbb7788e2c78abd5eb05b33988c1eacaac4424392ad2d0", func := "carling/carlinglaw02.MacSums", spec := "macSums", named := ["carling/sha.firstState", "carling/sha.roundConstants"], apart := false, laid := [("carling/sha.roundConstants", laid_carling_sha_roundConstants), ("carling/sha.firstState", laid_carling_sha_firstState)] }
def MacSumsSaid : Prop := macSumsRow.holds Tryd.pinned (OpenSpec.ofChange macSumsSpec)

/-- ITS FALSE NEIGHBOUR: 'it returns false'. Refute it at one input. -/
def macSumsWrong : ChangeSpec := { name := "macSums", fn := fun _ => fun
  | [d1, d2] => { results := [.lit (.bool false)], args := [d1, d2] }
  | _ => none }
def MacSumsWrongFalsely : Prop := macSumsRow.holds Tryd.pinned (OpenSpec.ofChange macSumsWrong)

/-- 'carlinglaw02.MacEquals': WHATEVER THE INPUT: true; the input reads as it did. -/
def macEqualsSpec : ChangeSpec := { name := "macEquals", fn := fun _ => fun
  | [d1, d2] => { results := [.lit (.bool true)], args := [d1, d2] }
  | _ => none }
def macEqualsRow : OpenClaim := { program := "ytmnhpochojplgaadoor", sum := "94f2f914b496bb19c5cbb7788e2c78abd5eb05b33988c1eacaac4424392ad2d0", func := "carling/carlinglaw02.MacEquals", spec := "macEquals", named := ["carling/sha.firstState", "carling/sha.roundConstants"], apart := false, laid := [("carling/sha.roundConstants", laid_carling_sha_roundConstants), ("carling/sha.firstState", laid_carling_sha_firstState)] }
def MacEqualsSaid : Prop := macEqualsRow.holds Tryd.pinned (OpenSpec.ofChange macEqualsSpec)

/-- ITS FALSE NEIGHBOUR: 'it returns false'. Refute it at one input. -/
def macEqualsWrong : ChangeSpec := { name := "macEquals", fn := fun _ => fun
  | [d1, d2] => { results := [.lit (.bool false)], args := [d1, d2] }
  | _ => none }
def MacEqualsWrongFalsely : Prop := macEqualsRow.holds Tryd.pinned (OpenSpec.ofChange macEqualsWrong)

/-- 'carlinglaw02.MacParts': WHATEVER THE INPUT: true; the input reads as it did. -/
def macPartsSpec : ChangeSpec := { name := "macParts", fn := fun _ => fun
  | [d1, d2, d3] => { results := [.lit (.bool true)], args := [d1, d2, d3] }
  | _ => none }
def macPartsRow : OpenClaim := { program := "ytmnhpochojplgaadoor", sum := "94f2f914b496bb19c5cbb7788e2c78abd5eb05b33988c1eacaac4424392ad2d0", func := "carling/carlinglaw02.MacParts", spec := "macParts", named := ["carling/sha.firstState", "carling/sha.roundConstants"], apart := false, laid := [("carling/sha.roundConstants", laid_carling_sha_roundConstants), ("carling/sha.firstState", laid_carling_sha_firstState)] }
def MacPartsSaid : Prop := macPartsRow.holds Tryd.pinned (OpenSpec.ofChange macPartsSpec)

/-- ITS FALSE NEIGHBOUR: 'it returns false'. Refute it at one input. -/
def macPartsWrong : ChangeSpec := { name := "macParts", fn := fun _ => fun
  | [d1, d2, d3] => { results := [.lit (.bool false)], args := [d1, d2, d3] }
  | _ => none }
def MacPartsWrongFalsely : Prop := macPartsRow.holds Tryd.pinned (OpenSpec.ofChange macPartsWrong)

/-- 'carlinglaw02.MacFills': WHATEVER THE INPUT: true; the input reads as it did. -/
def macFillsSpec : ChangeSpec := { name := "macFills", fn := fun _ => fun
  | [d1, d2, d3] => { results := [.lit (.bool true)], args := [d1, d2, d3] }
  | _ => none }
def macFillsRow : OpenClaim := { program := "ytmnhpochojplgaadoor", sum := "94f2f914b496bb19c5cbb7788e2c78abd5eb05b33988c1eacaac4424392ad2d0", func := "carling/carlinglaw02.MacFills", spec := "macFills", named := ["carling/sha.firstState", "carling/sha.roundConstants"], apart := false, laid := [("carling/sha.roundConstants", laid_carling_sha_roundConstants), ("carling/sha.firstState", laid_carling_sha_firstState)] }
def MacFillsSaid : Prop := macFillsRow.holds Tryd.pinned (OpenSpec.ofChange macFillsSpec)

/-- ITS FALSE NEIGHBOUR: 'it returns false'. Refute it at one input. -/
def macFillsWrong : ChangeSpec := { name := "macFills", fn := fun _ => fun
  | [d1, d2, d3] => { results := [.lit (.bool false)], args := [d1, d2, d3] }
  | _ => none }
def MacFillsWrongFalsely : Prop := macFillsRow.holds Tryd.pinned (OpenSpec.ofChange macFillsWrong)

/- THE SECOND FORM. 'bulk': how many values and letters a reading holds, each counted each time it is reached (what is shared counts as often as it is met; a slice's spare places count too). A statement '..UptoSaid' is the law's where the arguments, and the package variables that the reading takes, are together of bulk at most 1048576: NARROWER than '..Said'. Prove '..Said' where nothing that the law and all that it calls make is longer than what came in: it says more and counts as full. Else prove '..UptoSaid'. A law counts once. -/
mutual
def uptoBulk {H : Type} : DataW H → Nat
  | .lit (.string bytes) => bytes.length + 1
  | .lit _ => 1
  | .nil => 1
  | .ptr d => uptoBulk d + 1
  | .slice elems spare => uptoBulkAll elems + uptoBulkAll spare + 1
  | .agg parts => uptoBulkAll parts + 1
  | .iface _ d => uptoBulk d + 1
  | .map entries => uptoBulkEntries entries + 1
  | .held _ => 1
def uptoBulkAll {H : Type} : List (DataW H) → Nat
  | [] => 0
  | d :: r => uptoBulk d + uptoBulkAll r
def uptoBulkEntries {H : Type} : List (Lit × DataW H) → Nat
  | [] => 0
  | x :: r => uptoBulkEntry x + uptoBulkEntries r
def uptoBulkEntry {H : Type} : Lit × DataW H → Nat
  | (.string bytes, d) => bytes.length + uptoBulk d + 1
  | (_, d) => uptoBulk d + 1
 end
def uptoSmall : (H : Type) → List (DataW H) → Bool := fun _ ds => decide (uptoBulkAll ds ≤ 1048576)
def OpenSpec.upto (s : _root_.Go.ChangeSpec) : _root_.Go.OpenSpec := { _root_.Go.OpenSpec.ofChange s with cond := some uptoSmall }

/-- 'carlinglaw01.ShaSums', WHERE WHAT IT READS IS OF BULK AT MOST 1048576: true; the input reads as it did. -/
def shaSumsUptoRow : OpenClaim := { program := "ytmnhpochojplgaadoor", sum := "94f2f914b496bb19c5cbb7788e2c78abd5eb05b33988c1eacaac4424392ad2d0", func := "carling/carlinglaw01.ShaSums", spec := "shaSums", named := ["carling/sha.firstState", "carling/sha.roundConstants"], apart := false, laid := [("carling/sha.roundConstants", laid_carling_sha_roundConstants), ("carling/sha.firstState", laid_carling_sha_firstState)], narrowed := true }
def ShaSumsUptoSaid : Prop := shaSumsUptoRow.holds Tryd.pinned (OpenSpec.upto shaSumsSpec)

/-- 'carlinglaw01.ShaParts', WHERE WHAT IT READS IS OF BULK AT MOST 1048576: true; the input reads as it did. -/
def shaPartsUptoRow : OpenClaim := { program := "ytmnhpochojplgaadoor", sum := "94f2f914b496bb19c5cbb7788e2c78abd5eb05b33988c1eacaac4424392ad2d0", func := "carling/carlinglaw01.ShaParts", spec := "shaParts", named := ["carling/sha.firstState", "carling/sha.roundConstants"], apart := false, laid := [("carling/sha.roundConstants", laid_carling_sha_roundConstants), ("carling/sha.firstState", laid_carling_sha_firstState)], narrowed := true }
def ShaPartsUptoSaid : Prop := shaPartsUptoRow.holds Tryd.pinned (OpenSpec.upto shaPartsSpec)

/-- 'carlinglaw01.ShaStays', WHERE WHAT IT READS IS OF BULK AT MOST 1048576: true; the input reads as it did. -/
def shaStaysUptoRow : OpenClaim := { program := "ytmnhpochojplgaadoor", sum := "94f2f914b496bb19c5cbb7788e2c78abd5eb05b33988c1eacaac4424392ad2d0", func := "carling/carlinglaw01.ShaStays", spec := "shaStays", named := ["carling/sha.firstState", "carling/sha.roundConstants"], apart := false, laid := [("carling/sha.roundConstants", laid_carling_sha_roundConstants), ("carling/sha.firstState", laid_carling_sha_firstState)], narrowed := true }
def ShaStaysUptoSaid : Prop := shaStaysUptoRow.holds Tryd.pinned (OpenSpec.upto shaStaysSpec)

/-- 'carlinglaw01.ShaTurns', WHERE WHAT IT READS IS OF BULK AT MOST 1048576: true; the input reads as it did. -/
def shaTurnsUptoRow : OpenClaim := { program := "ytmnhpochojplgaadoor", sum := "94f2f914b496bb19c5cbb7788e2c78abd5eb05b33988c1eacaac4424392ad2d0", func := "carling/carlinglaw01.ShaTurns", spec := "shaTurns", named := ["carling/sha.firstState", "carling/sha.roundConstants"], apart := false, laid := [("carling/sha.roundConstants", laid_carling_sha_roundConstants), ("carling/sha.firstState", laid_carling_sha_firstState)], narrowed := true }
def ShaTurnsUptoSaid : Prop := shaTurnsUptoRow.holds Tryd.pinned (OpenSpec.upto shaTurnsSpec)

/-- 'carlinglaw01.ShaConsts', WHERE WHAT IT READS IS OF BULK AT MOST 1048576: true; the input reads as it did. -/
def shaConstsUptoRow : OpenClaim := { program := "ytmnhpochojplgaadoor", sum := "94f2f914b496bb19c5cbb7788e2c78abd5eb05b33988c1eacaac4424392ad2d0", func := "carling/carlinglaw01.ShaConsts", spec := "shaConsts", named := ["carling/sha.roundConstants", "carling/sha.firstState"], apart := false, laid := [("carling/sha.roundConstants", laid_carling_sha_roundConstants), ("carling/sha.firstState", laid_carling_sha_firstState)], narrowed := true }
def ShaConstsUptoSaid : Prop := shaConstsUptoRow.holds Tryd.pinned (OpenSpec.upto shaConstsSpec)

/-- 'carlinglaw02.MacSums', WHERE WHAT IT READS IS OF BULK AT MOST 1048576: true; the input reads as it did. -/
def macSumsUptoRow : OpenClaim := { program := "ytmnhpochojplgaadoor", sum := "94f2f914b496bb19c5cbb7788e2c78abd5eb05b33988c1eacaac4424392ad2d0", func := "carling/carlinglaw02.MacSums", spec := "macSums", named := ["carling/sha.firstState", "carling/sha.roundConstants"], apart := false, laid := [("carling/sha.roundConstants", laid_carling_sha_roundConstants), ("carling/sha.firstState", laid_carling_sha_firstState)], narrowed := true }
def MacSumsUptoSaid : Prop := macSumsUptoRow.holds Tryd.pinned (OpenSpec.upto macSumsSpec)

/-- 'carlinglaw02.MacEquals', WHERE WHAT IT READS IS OF BULK AT MOST 1048576: true; the input reads as it did. -/
def macEqualsUptoRow : OpenClaim := { program := "ytmnhpochojplgaadoor", sum := "94f2f914b496bb19c5cbb7788e2c78abd5eb05b33988c1eacaac4424392ad2d0", func := "carling/carlinglaw02.MacEquals", spec := "macEquals", named := ["carling/sha.firstState", "carling/sha.roundConstants"], apart := false, laid := [("carling/sha.roundConstants", laid_carling_sha_roundConstants), ("carling/sha.firstState", laid_carling_sha_firstState)], narrowed := true }
def MacEqualsUptoSaid : Prop := macEqualsUptoRow.holds Tryd.pinned (OpenSpec.upto macEqualsSpec)

/-- 'carlinglaw02.MacParts', WHERE WHAT IT READS IS OF BULK AT MOST 1048576: true; the input reads as it did. -/
def macPartsUptoRow : OpenClaim := { program := "ytmnhpochojplgaadoor", sum := "94f2f914b496bb19c5cbb7788e2c78abd5eb05b33988c1eacaac4424392ad2d0", func := "carling/carlinglaw02.MacParts", spec := "macParts", named := ["carling/sha.firstState", "carling/sha.roundConstants"], apart := false, laid := [("carling/sha.roundConstants", laid_carling_sha_roundConstants), ("carling/sha.firstState", laid_carling_sha_firstState)], narrowed := true }
def MacPartsUptoSaid : Prop := macPartsUptoRow.holds Tryd.pinned (OpenSpec.upto macPartsSpec)

/-- 'carlinglaw02.MacFills', WHERE WHAT IT READS IS OF BULK AT MOST 1048576: true; the input reads as it did. -/
def macFillsUptoRow : OpenClaim := { program := "ytmnhpochojplgaadoor", sum := "94f2f914b496bb19c5cbb7788e2c78abd5eb05b33988c1eacaac4424392ad2d0", func := "carling/carlinglaw02.MacFills", spec := "macFills", named := ["carling/sha.firstState", "carling/sha.roundConstants"], apart := false, laid := [("carling/sha.roundConstants", laid_carling_sha_roundConstants), ("carling/sha.firstState", laid_carling_sha_firstState)], narrowed := true }
def MacFillsUptoSaid : Prop := macFillsUptoRow.holds Tryd.pinned (OpenSpec.upto macFillsSpec)

end Rows
end Go.Proofs.YtmnhpochojplgaaDoor
