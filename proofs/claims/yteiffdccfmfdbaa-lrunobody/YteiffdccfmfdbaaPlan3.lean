/- In a plan: a nil check, the address of a slice's row, a value that is read where it comes up. Over any program. -/
import Derived.Test.YteiffdccfmfdbaaPlan2
namespace Go.Proofs.Yteiffdccfmfdbaa
namespace Mem
open Go.RowKit
section
variable {P : Program} {ops : Array Oper} {Q : Exit → Act → World → Prop} {S : World → Prop} {w : World} {a : Act} {o : Oper} {i : Nat} {r : Plan}
theorem plan_nilcheck (x : Operand) (p : Addr) (ho : ops.toList[i]? = some o) (hw : Region.wanted o (yielded ops a.tmps) = true) (hop : o.op = .nilCheck x) (hx : a.eval x = .pointer (some p))
    (h : wpPlan P ops Q S r (a.put o.dst (.pointer (some p))) w) : wpPlan P ops Q S (.take i r) a w :=
  plan_take _ ho hw (fun w' _ => by simp [execOp, hop, hx]) h
/-- The address of a slice's element of z cells. -/
theorem plan_index_z (t e : TypeId) (x ix : Operand) (g off n c z : Nat) (k : Nat) (ho : ops.toList[i]? = some o) (hw : Region.wanted o (yielded ops a.tmps) = true) (hop : o.op = .indexAddr t x ix)
    (hx : a.eval x = .slice (some ⟨g, off, none⟩) n c) (hi : a.eval ix = .int .i64 (k : Int)) (hk : k < n) (hu : P.underlying t = some (.slice e)) (hs : (P.info? e).map (·.size) = some z)
    (h : wpPlan P ops Q S r (a.put o.dst (.pointer (some ⟨g, off + k * z, none⟩))) w) : wpPlan P ops Q S (.take i r) a w :=
  plan_take _ ho hw (fun w' _ => by
    cases hq : P.info? e with
    | none => simp [hq] at hs
    | some q =>
      have hs1 : q.size = z := by simpa [hq] using hs
      simp [execOp, hop, hx, hi, Instr.indexAt, asIntOf, Sem.run_bind, run_underlying hu, sizeOf, typeInfo, hq, hs1, hk, Addr.add]) h
/-- What reads the world at hand, where it comes up alone. -/
theorem plan_sole_val (v : Value) (ho : ops.toList[i]? = some o) (hw : Region.wanted o (yielded ops a.tmps) = true) (hv : (execOp a.eval o).run P w = .ok (.value v) w) (hS : S w)
    (h : wpPlan P ops Q S r (a.put o.dst v) w) : wpPlan P ops Q S (.sole i r) a w := by
  refine wpOp_at ho hw ?_
  unfold Oper.wp
  rw [hv]
  exact ⟨hS, h⟩
/-- .. one cell's load. -/
theorem plan_sole_cell (t : TypeId) (x : Operand) (p : Addr) (v : Value) (d : TypeDesc) (ho : ops.toList[i]? = some o) (hw : Region.wanted o (yielded ops a.tmps) = true) (hop : o.op = .load t x)
    (hx : a.eval x = .pointer (some p)) (hc : w.cell? p = some v) (hu : P.underlying t = some d) (hd : d.isRow = false) (hS : S w)
    (h : wpPlan P ops Q S r (a.put o.dst v) w) : wpPlan P ops Q S (.sole i r) a w :=
  plan_sole_val v ho hw (by
    have hagg : (isAgg t).run P w = .ok false w := by
      unfold isAgg
      rw [Sem.run_bind, run_underlying hu w]
      cases d <;> simp_all
    simp [execOp, hop, hx, Instr.loadAt, Instr.sureAddr, loadVar, Sem.run_bind, hagg, hc]) hS h
end
/-- In a plan: a row read whose cells are known one by one. -/
theorem plan_load_range {P : Program} {ops : Array Oper} {Q : Exit → Act → World → Prop} {S : World → Prop} {w : World} {a : Act} {o : Oper} {i : Nat} {r : Plan} (ty : TypeId) (x : Operand) (b off : Nat) (d : TypeDesc) (R : Array Value) (ho : ops.toList[i]? = some o) (hw : Region.wanted o (yielded ops a.tmps) = true) (hop : o.op = .load ty x) (hx : a.eval x = .pointer (some ⟨b, off, none⟩))
    (hC : ∀ w', S w' → w'.rangeAt b off R.toList) (hu : P.underlying ty = some d) (hd : d.isRow = true) (hi : (P.info? ty).map (·.size) = some R.size) (h : wpPlan P ops Q S r (a.put o.dst (.agg R)) w) :
    wpPlan P ops Q S (.take i r) a w :=
  plan_take _ ho hw (fun w' hw' => by
    have hr := run_loadAt_mid (P := P) w' b off ty R.toList d (hC w' hw') hu hd (by rw [hi]; simp)
    unfold execOp
    simp only [hop, hx, Sem.run_bind, hr, Result.andThen_ok, Sem.run_pure]) h
theorem plan_not {P : Program} {ops : Array Oper} {Q : Exit → Act → World → Prop} {S : World → Prop} {w : World} {a : Act} {o : Oper} {i : Nat} {r : Plan} (t : TypeId) (x : Operand) (b : Bool) (ho : ops.toList[i]? = some o) (hw : Region.wanted o (yielded ops a.tmps) = true) (hop : o.op = .unOp .not t x)
    (hx : a.eval x = .bool b) (h : wpPlan P ops Q S r (a.put o.dst (.bool (!b))) w) : wpPlan P ops Q S (.take i r) a w :=
  plan_take _ ho hw (fun w' _ => by cases b <;> simp [execOp, hop, hx, Op.unary]) h
theorem plan_not_t {P : Program} {ops : Array Oper} {Q : Exit → Act → World → Prop} {S : World → Prop} {w : World} {a : Act} {o : Oper} {i : Nat} {r : Plan} (t : TypeId) (x : Operand) (ho : ops.toList[i]? = some o) (hw : Region.wanted o (yielded ops a.tmps) = true) (hop : o.op = .unOp .not t x)
    (hx : a.eval x = .bool true) (h : wpPlan P ops Q S r (a.put o.dst (.bool false)) w) : wpPlan P ops Q S (.take i r) a w := plan_not t x true ho hw hop hx h
/-- A part of a tuple. -/
theorem plan_extract {P : Program} {ops : Array Oper} {Q : Exit → Act → World → Prop} {S : World → Prop} {w : World} {a : Act} {o : Oper} {i : Nat} {r : Plan} (x : Operand) (k : Nat) (vs : Array Value) (v : Value) (ho : ops.toList[i]? = some o) (hw : Region.wanted o (yielded ops a.tmps) = true) (hop : o.op = .extract x k)
    (hx : a.eval x = .tuple vs) (hv : vs[k]? = some v) (h : wpPlan P ops Q S r (a.put o.dst v) w) : wpPlan P ops Q S (.take i r) a w :=
  plan_take v ho hw (fun w' _ => by simp [execOp, hop, hx, Instr.extract, hv]) h
end Mem
end Go.Proofs.Yteiffdccfmfdbaa
