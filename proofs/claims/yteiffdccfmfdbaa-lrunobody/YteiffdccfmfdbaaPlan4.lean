/- In a plan: a row's load where it comes up alone; a store of several cells into a row. -/
import Derived.Test.YteiffdccfmfdbaaPlan3
namespace Go.Proofs.Yteiffdccfmfdbaa
namespace Sha
open Go.RowKit Mem
section
variable {P : Program} {ops : Array Oper} {Q : Exit → Act → World → Prop} {S : World → Prop} {w : World} {a : Act} {o : Oper} {i : Nat} {r : Plan}
theorem plan_sole_row (ty : TypeId) (x : Operand) (b : Nat) (d : TypeDesc) (C : Array Value) (t : TypeId) (ho : ops.toList[i]? = some o) (hw : Region.wanted o (yielded ops a.tmps) = true) (hop : o.op = .load ty x) (hx : a.eval x = .pointer (some ⟨b, 0, none⟩))
    (hC : At w b C t) (hu : P.underlying ty = some d) (hd : d.isRow = true) (hi : (P.info? ty).map (·.size) = some C.size) (hS : S w) (h : wpPlan P ops Q S r (a.put o.dst (.agg C)) w) :
    wpPlan P ops Q S (.sole i r) a w :=
  plan_sole_val _ ho hw (by
    have hr := run_loadAt_mid (P := P) w b 0 ty (C.extract 0 (0 + C.size)).toList d (hC.range 0 C.size) hu hd (by rw [hi]; simp)
    unfold execOp
    simp only [hop, hx, Sem.run_bind, hr, Result.andThen_ok, Sem.run_pure]
    simp) hS h
theorem plan_store_at (ty : TypeId) (x y : Operand) (b k : Nat) (D C E : Array Value) (t : TypeId) (ho : ops.toList[i]? = some o) (hw : Region.wanted o (yielded ops a.tmps) = true) (hop : o.op = .store ty x y) (hdst : o.dst = none)
    (hx : a.eval x = .pointer (some ⟨b, k, none⟩)) (hy : a.eval y = .agg D) (hi : (P.info? ty).map (·.size) = some D.size) (hC : At w b C t) (hn : k + D.size ≤ C.size) (h1 : D.all (·.oneCell') = true) (hE : Mem.splice C k D.toList = E) (hS : S (w.setRow b E))
    (h : wpPlan P ops Q S r a (w.setRow b E)) : wpPlan P ops Q S (.sole i r) a w := by
  refine wpOp_at ho hw ?_
  have hput : a.put o.dst undef = a := by rw [hdst]; rfl
  refine wp_store_mid ty x y hop b k D hx hy (fun j hj => ?_) hi h1 ?_
  · rw [hC.cell, hC.free]
    exact ⟨by simp; omega, rfl⟩
  · rw [setCells_row _ _ _ _ _ hC (by simpa using hn), hput, hE]; exact ⟨hS, h⟩
end
end Sha
end Go.Proofs.Yteiffdccfmfdbaa
