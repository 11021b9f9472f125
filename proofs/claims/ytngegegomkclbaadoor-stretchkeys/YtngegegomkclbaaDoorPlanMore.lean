/- Over any program: in a plan, addresses in arrays and structs, one cell's store, part of a row's load. -/
import Derived.Test.YtngegegomkclbaaDoorRefPlan
namespace Go.Proofs.YtngegegomkclbaaDoor
namespace Mem
open Go.RowKit
section
variable {P : Program} {ops : Array Oper} {Q : Exit → Act → World → Prop} {S : World → Prop} {w : World} {a : Act} {o : Oper} {i : Nat} {r : Plan}
/-- The address of an array's element, of so many cells. -/
theorem plan_index_arr (t e : TypeId) (n : Nat) (x ix : Operand) (g off z : Nat) (k : Nat) (ho : ops.toList[i]? = some o) (hw : Region.wanted o (yielded ops a.tmps) = true) (hop : o.op = .indexAddr t x ix)
    (hx : a.eval x = .pointer (some ⟨g, off, none⟩)) (hi : a.eval ix = .int .i64 (k : Int)) (hk : k < n) (hu : P.underlying t = some (.array n e)) (hs : (P.info? e).map (·.size) = some z) (hz : 0 < z)
    (h : wpPlan P ops Q S r (a.put o.dst (.pointer (some ⟨g, off + k * z, none⟩))) w) : wpPlan P ops Q S (.take i r) a w :=
  plan_take _ ho hw (fun w' _ => by
    cases hq : P.info? e with
    | none => simp [hq] at hs
    | some q =>
      have hs1 : q.size = z := by simpa [hq] using hs
      simp [execOp, hop, hx, hi, Instr.indexAt, asIntOf, Instr.sureAddr, Sem.run_bind, run_underlying hu, sizeOf, typeInfo, hq, hs1, hk, Addr.add_mid]) h
/-- .. of one cell, in an array that fills its block. -/
theorem plan_index_arr1 (t e : TypeId) (n : Nat) (x ix : Operand) (g : Nat) (k : Nat) (ho : ops.toList[i]? = some o) (hw : Region.wanted o (yielded ops a.tmps) = true) (hop : o.op = .indexAddr t x ix)
    (hx : a.eval x = .pointer (some ⟨g, 0, none⟩)) (hi : a.eval ix = .int .i64 (k : Int)) (hk : k < n) (hu : P.underlying t = some (.array n e)) (hs : (P.info? e).map (·.size) = some 1)
    (h : wpPlan P ops Q S r (a.put o.dst (.pointer (some ⟨g, k, none⟩))) w) : wpPlan P ops Q S (.take i r) a w :=
  plan_index_arr t e n x ix g 0 1 k ho hw hop hx hi hk hu hs (by decide) (by rw [show 0 + k * 1 = k by omega]; exact h)
/-- The address of a struct's field. -/
theorem plan_field (t : TypeId) (x : Operand) (f : Nat) (g off : Nat) (p : Addr) (ho : ops.toList[i]? = some o) (hw : Region.wanted o (yielded ops a.tmps) = true) (hop : o.op = .fieldAddr t x f)
    (hx : a.eval x = .pointer (some ⟨g, off, none⟩)) (hr : ∀ w', (Instr.fieldAt t (.pointer (some ⟨g, off, none⟩)) f).run P w' = .ok (.pointer (some p)) w')
    (h : wpPlan P ops Q S r (a.put o.dst (.pointer (some p))) w) : wpPlan P ops Q S (.take i r) a w :=
  plan_take _ ho hw (fun w' _ => by
    have := hr w'
    unfold execOp
    simp only [hop, hx, Sem.run_bind, this, Result.andThen_ok, Sem.run_pure]) h
/-- A load of part of a row that all of the class have. -/
theorem plan_row_at (ty : TypeId) (x : Operand) (b off n : Nat) (d : TypeDesc) (C R : Array Value) (t : TypeId) (ho : ops.toList[i]? = some o) (hw : Region.wanted o (yielded ops a.tmps) = true) (hop : o.op = .load ty x) (hx : a.eval x = .pointer (some ⟨b, off, none⟩))
    (hC : ∀ w', S w' → At w' b C t) (hu : P.underlying ty = some d) (hd : d.isRow = true) (hi : (P.info? ty).map (·.size) = some n) (hn : off + n ≤ C.size) (hR : C.extract off (off + n) = R) (h : wpPlan P ops Q S r (a.put o.dst (.agg R)) w) :
    wpPlan P ops Q S (.take i r) a w :=
  plan_take _ ho hw (fun w' hw' => by
    have hr := run_loadAt_mid (P := P) w' b off ty (C.extract off (off + n)).toList d ((hC w' hw').range off n) hu hd (by rw [hi]; simp; omega)
    unfold execOp
    simp only [hop, hx, Sem.run_bind, hr, Result.andThen_ok, Sem.run_pure]
    simp [hR]) h
/-- A store of one cell over a block known whole that the class does not speak of. -/
theorem plan_store_one (ty : TypeId) (x y : Operand) (b k : Nat) (v : Value) (C : Array Value) (t : TypeId) (ho : ops.toList[i]? = some o) (hw : Region.wanted o (yielded ops a.tmps) = true) (hop : o.op = .store ty x y) (hdst : o.dst = none)
    (hx : a.eval x = .pointer (some ⟨b, k, none⟩)) (hy : a.eval y = v) (h1 : v.oneCell' = true) (hs : (P.info? ty).map (·.size) = some 1) (hC : At w b C t) (hk : k < C.size) (hS : S (w.setCell ⟨b, k, none⟩ v))
    (h : wpPlan P ops Q S r a (w.setCell ⟨b, k, none⟩ v)) : wpPlan P ops Q S (.sole i r) a w := by
  refine wpOp_at ho hw ?_
  have hput : a.put o.dst undef = a := by rw [hdst]; rfl
  have hc : w.cell? ⟨b, k, none⟩ = some C[k] := by rw [hC.cell]; simp [hk]
  have hf : w.frozen? ⟨b, k, none⟩ = false := hC.free k
  have hcs : v.cells = #[v] := by cases v <;> first | rfl | simp [Value.oneCell'] at h1
  cases hq : P.info? ty with
  | none => simp [hq] at hs
  | some q =>
    have hs1 : q.size = 1 := by simpa [hq] using hs
    have hst := run_store P w ⟨b, k, none⟩ v .plain h1
    rw [hc] at hst
    simp only [hf] at hst
    have hrun : (Instr.storeAt ty (.pointer (some ⟨b, k, none⟩)) v).run P w = .ok () (w.setCell ⟨b, k, none⟩ v) := by
      have e0 : (⟨b, k, none⟩ : Addr).add 0 = ⟨b, k, none⟩ := by rw [Addr.add_mid]; rfl
      simp [Instr.storeAt, Instr.sureAddr, storeVar, sizeOf, typeInfo, hq, hs1, hcs, storeCells, Sem.run_bind, e0, hst, Result.andThen]
    unfold Oper.wp execOp
    simp only [hop, hx, hy, Sem.run_bind, hrun, Result.andThen_ok, Sem.run_pure]
    show S _ ∧ wpPlan P ops Q S r (a.put o.dst undef) _
    rw [hput]
    exact ⟨hS, h⟩
end
end Mem
end Go.Proofs.YtngegegomkclbaaDoor
