/- Layer 14's law: same. -/
import Derived.Test.YtajdpbbbocnfiaaGreatDoorBm42
import Derived.Test.YtajdpbbbocnfiaaGreatDoorBm44
import Derived.Test.YtajdpbbbocnfiaaGreatDoorBm11
import Derived.Test.YtajdpbbbocnfiaaGreatDoorBm01
namespace Go.Proofs.YtajdpbbbocnfiaaGreatDoor
namespace Sha
open Go.RowKit Mem
set_option maxRecDepth 100000
theorem neqRR14 {a b : RefV} (ha : a.Wf) (hb : b.Wf) (x y : Operand) (w : World) : (do eqGuard .neq 36 x y (.agg (refC a)) (.agg (refC b)); binOp .neq 36 (.agg (refC a)) (.agg (refC b)) : Sem Value).run Tryz.prog w = .ok (.bool (!sameRef a b)) w :=
 (eqlRf _ (by kernel_rfl) (by kernel_rfl) (by kernel_rfl) (by kernel_rfl) ha hb x y w).2
end Sha
end Go.Proofs.YtajdpbbbocnfiaaGreatDoor
