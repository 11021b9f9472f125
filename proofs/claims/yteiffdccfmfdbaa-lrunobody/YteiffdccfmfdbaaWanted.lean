/- Loads in a plain region, guarded or not. Over any program. -/
import Derived.Test.YteiffdccfmfdbaaMem
import Derived.Test.YteiffdccfmfdbaaPlan
namespace Go.Proofs.Yteiffdccfmfdbaa
namespace Mem
open Go.RowKit
/-- A load of a whole block in a plain region, guarded or not. -/
theorem wpList_load_wanted {P : Program} {ops : Array Oper} {rest : List Oper} {o : Oper} {a : Act} {w : World} {Q : Exit → Act → World → Prop} (hw : Region.wanted o (yielded ops a.tmps) = true) (ty : TypeId) (x : Operand) (hop : o.op = .load ty x)
    (b : Nat) (hx : a.eval x = .pointer (some ⟨b, 0, none⟩)) (d : TypeDesc) (hu : P.underlying ty = some d) (hd : d.isRow = true)
    (C : Array Value) (t : TypeId) (hC : At w b C t) (hi : (P.info? ty).map (·.size) = some C.size) (h : wpList P ops Q rest (a.put o.dst (.agg C)) w) : wpList P ops Q (o :: rest) a w := by
  unfold wpList
  rw [if_pos hw]
  left
  unfold Oper.wp
  have hrg := hC.range 0 C.size
  have hr := run_loadAt_mid (P := P) w b 0 ty (C.extract 0 (0 + C.size)).toList d hrg hu hd (by rw [hi]; simp)
  have : (execOp a.eval o).run P w = .ok (.value (.agg C)) w := by
    unfold execOp
    simp only [hop, hx, Sem.run_bind, hr, Result.andThen_ok, Sem.run_pure]
    simp
  rw [this]
  exact h
theorem wpList_load_is_wanted {P : Program} {ops : Array Oper} {rest : List Oper} {o : Oper} {a : Act} {w : World} {Q : Exit → Act → World → Prop} (hw : Region.wanted o (yielded ops a.tmps) = true) (ty : TypeId) (x : Operand) (hop : o.op = .load ty x)
    (b c n : Nat) (hx : a.eval x = .pointer (some ⟨b, c, none⟩)) (d : TypeDesc) (hu : P.underlying ty = some d) (hd : d.isRow = true) (hi : (P.info? ty).map (·.size) = some n)
    (C : Array Value) (t : TypeId) (hC : At w b C t) (hn : c + n ≤ C.size) (R : Array Value) (hR : C.extract c (c + n) = R) (h : wpList P ops Q rest (a.put o.dst (.agg R)) w) : wpList P ops Q (o :: rest) a w := by
  unfold wpList
  rw [if_pos hw]
  left
  unfold Oper.wp
  have hr := run_loadAt_mid (P := P) w b c ty (C.extract c (c + n)).toList d (hC.range c n) hu hd (by rw [hi]; simp; omega)
  have : (execOp a.eval o).run P w = .ok (.value (.agg R)) w := by
    unfold execOp
    simp only [hop, hx, Sem.run_bind, hr, Result.andThen_ok, Sem.run_pure]
    simp [hR]
  rw [this]
  exact h
end Mem
end Go.Proofs.Yteiffdccfmfdbaa
