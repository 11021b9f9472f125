/- Layer 14's law: same. -/
import Derived.Test.YtahcjnganedbiaaGreatDoorBN36
import Derived.Test.YtahcjnganedbiaaGreatDoorBN12
import Derived.Test.YtahcjnganedbiaaGreatDoorBN16
import Derived.Test.YtahcjnganedbiaaGreatDoorBN14
import Derived.Test.YtahcjnganedbiaaGreatDoorBN35
import Derived.Test.YtahcjnganedbiaaGreatDoorBN22
import Derived.Test.YtahcjnganedbiaaGreatDoorBN09
import Derived.Great.Walk
import Derived.OwnWalk
import Derived.Deep.DeepCutAuto
import Derived.Laws.OwnMore
import Derived.Test.YtahcjnganedbiaaGreatDoorBN32
namespace Go.Proofs.YtahcjnganedbiaaGreatDoor
namespace Sha
open Go.RowKit Mem
set_option maxRecDepth 100000
theorem build_K014 (w : World) : (Instr.build 61 #[]).run Tryz.prog w = .ok (.agg (u8s (List.replicate 32 0)).toArray) w := by kernel_rfl
theorem neqRR14 {a b : RefV} (ha : a.Wf) (hb : b.Wf) (x y : Operand) (w : World) : (do eqGuard .neq 64 x y (.agg (refC a)) (.agg (refC b)); binOp .neq 64 (.agg (refC a)) (.agg (refC b)) : Sem Value).run Tryz.prog w = .ok (.bool (!sameRef a b)) w :=
 (eqlRf _ (by kernel_rfl) (by kernel_rfl) (by kernel_rfl) (by kernel_rfl) ha hb x y w).2
end Sha
end Go.Proofs.YtahcjnganedbiaaGreatDoor
