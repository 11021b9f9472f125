/- Numbers compared. Over any program. -/
import Derived.Test.YtbboljmemomcnaaMem
namespace Go.Proofs.Ytbboljmemomcnaa
namespace Sha
open Go.RowKit Mem
theorem o_ieq {P : Program} (q : Int) (t t2 : TypeId) (x y : Operand) (w : World) : (do eqGuard .eql t x y (.int .i64 q) (.int .i64 q); binOp .eql t2 (.int .i64 q) (.int .i64 q) : Sem Value).run P w = .ok (.bool true) w := by go_simp
theorem o_ieqf {P : Program} (p q : Int) (h : ¬ p = q) (t t2 : TypeId) (x y : Operand) (w : World) : (do eqGuard .eql t x y (.int .i64 p) (.int .i64 q); binOp .eql t2 (.int .i64 p) (.int .i64 q) : Sem Value).run P w = .ok (.bool false) w := by
  have hb : (p == q) = false := by simpa using h
  go_simp
theorem o_ine {P : Program} (q : Int) (t t2 : TypeId) (x y : Operand) (w : World) : (do eqGuard .neq t x y (.int .i64 q) (.int .i64 q); binOp .neq t2 (.int .i64 q) (.int .i64 q) : Sem Value).run P w = .ok (.bool false) w := by go_simp
end Sha
end Go.Proofs.Ytbboljmemomcnaa
