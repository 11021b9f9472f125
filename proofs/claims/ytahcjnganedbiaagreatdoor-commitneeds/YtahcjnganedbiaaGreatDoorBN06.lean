/- Over any program: one cell's store; in a plan, addresses in slices, arrays and structs, one cell's load and store, part of a row's load. -/
import Derived.Test.YtahcjnganedbiaaGreatDoorBN00
namespace Go.Proofs.YtahcjnganedbiaaGreatDoor
namespace Mem
open Go.RowKit
section
variable {P : Program} {ops : Array Oper} {K : World → Prop} {Q : Act → Prop} {a : Act} {op : Oper}
theorem wpList_store_one {rest : List Oper} {Q : Exit → Act → World → Prop} {w : World} (hgd : op.guard = none) (ty : TypeId) (x y : Operand) (ho : op.op = .store ty x y) (hdst : op.dst = none)
 (b i : Nat) (v : Value) (hx : a.eval x = .pointer (some ⟨b, i, none⟩)) (hy : a.eval y = v) (h1 : v.oneCell' = true) (hs : (P.info? ty).map (·.size) = some 1)
 (C : Array Value) (t : TypeId) (hC : At w b C t) (hi : i < C.size)
 (h : ∀ w', At w' b (C.setIfInBounds i v) t → (∀ k, k ≠ b → w'.heap[k]? = w.heap[k]?) → (∀ B a, Below B a w → B ≤ b → Below B a w') → wpList P ops Q rest a w') : wpList P ops Q (op :: rest) a w := by
 refine wpList_plain hgd fun K hK => ?_
 have hc : w.cell? ⟨b, i, none⟩ = some C[i] := by rw [hC.cell]; simp [hi]
 have hf : w.frozen? ⟨b, i, none⟩ = false := hC.free i
 have hcs : v.cells = #[v] := by cases v <;> first | rfl | simp [Value.oneCell'] at h1
 cases hq : P.info? ty with
 | none => simp [hq] at hs
 | some q =>
  have hs1 : q.size = 1 := by simpa [hq] using hs
  have hst := run_store P w ⟨b, i, none⟩ v .plain h1
  rw [hc] at hst
  simp only [hf] at hst
  have hrun : (Instr.storeAt ty (.pointer (some ⟨b, i, none⟩)) v).run P w = .ok () (w.setCell ⟨b, i, none⟩ v) := by
   have e0 : (⟨b, i, none⟩ : Addr).add 0 = ⟨b, i, none⟩ := by rw [Addr.add_mid]; rfl
   simp [Instr.storeAt, Instr.sureAddr, storeVar, sizeOf, typeInfo, hq, hs1, hcs, storeCells, Sem.run_bind, e0, hst, Result.andThen]
  have hput : a.put op.dst undef = a := by rw [hdst]; rfl
  unfold Oper.wp execOp
  simp only [ho, hx, hy, Sem.run_bind, hrun, Result.andThen_ok, Sem.run_pure]
  show K (a.put op.dst undef) _
  rw [hput]
  exact hK _ _ (h _ (hC.set i v) (fun k hk => heap_setCell_other w _ k v hk) (fun B a hb hB => hb.setCell hB v))
end
section
variable {P : Program} {ops : Array Oper} {Q : Exit → Act → World → Prop} {S : World → Prop}
theorem plan_index {w : World} {a : Act} {o : Oper} {i : Nat} {r : Plan} (t e : TypeId) (x ix : Operand) (g off n c : Nat) (k : Nat) (ho : ops.toList[i]? = some o) (hw : Region.wanted o (yielded ops a.tmps) = true) (hop : o.op = .indexAddr t x ix)
 (hx : a.eval x = .slice (some ⟨g, off, none⟩) n c) (hi : a.eval ix = .int .i64 (k : Int)) (hk : k < n) (hu : P.underlying t = some (.slice e)) (hs : (P.info? e).map (·.size) = some 1)
 (h : wpPlan P ops Q S r (a.put o.dst (.pointer (some ⟨g, off + k, none⟩))) w) : wpPlan P ops Q S (.take i r) a w :=
 plan_take _ ho hw (fun w' _ => by
  cases hq : P.info? e with
  | none => simp [hq] at hs
  | some q =>
   have hs1 : q.size = 1 := by simpa [hq] using hs
   simp [execOp, hop, hx, hi, Instr.indexAt, asIntOf, Sem.run_bind, run_underlying hu, sizeOf, typeInfo, hq, hs1, hk, Addr.add]) h
theorem plan_cell {w : World} {a : Act} {o : Oper} {i : Nat} {r : Plan} (t : TypeId) (x : Operand) (p : Addr) (v : Value) (d : TypeDesc) (ho : ops.toList[i]? = some o) (hw : Region.wanted o (yielded ops a.tmps) = true) (hop : o.op = .load t x)
 (hx : a.eval x = .pointer (some p)) (hc : ∀ w', S w' → w'.cell? p = some v) (hu : P.underlying t = some d) (hd : d.isRow = false)
 (h : wpPlan P ops Q S r (a.put o.dst v) w) : wpPlan P ops Q S (.take i r) a w :=
 plan_take _ ho hw (fun w' hw' => by
  have hagg : (isAgg t).run P w' = .ok false w' := by
   unfold isAgg
   rw [Sem.run_bind, run_underlying hu w']
   cases d <;> simp_all
  simp [execOp, hop, hx, Instr.loadAt, Instr.sureAddr, loadVar, Sem.run_bind, hagg, hc w' hw']) h
end
section
variable {P : Program} {ops : Array Oper} {Q : Exit → Act → World → Prop} {S : World → Prop} {w : World} {a : Act} {o : Oper} {i : Nat} {r : Plan}
theorem plan_index_arr (t e : TypeId) (n : Nat) (x ix : Operand) (g off z : Nat) (k : Nat) (ho : ops.toList[i]? = some o) (hw : Region.wanted o (yielded ops a.tmps) = true) (hop : o.op = .indexAddr t x ix)
 (hx : a.eval x = .pointer (some ⟨g, off, none⟩)) (hi : a.eval ix = .int .i64 (k : Int)) (hk : k < n) (hu : P.underlying t = some (.array n e)) (hs : (P.info? e).map (·.size) = some z) (_hz : 0 < z)
 (h : wpPlan P ops Q S r (a.put o.dst (.pointer (some ⟨g, off + k * z, none⟩))) w) : wpPlan P ops Q S (.take i r) a w :=
 plan_take _ ho hw (fun w' _ => by
  cases hq : P.info? e with
  | none => simp [hq] at hs
  | some q =>
   have hs1 : q.size = z := by simpa [hq] using hs
   simp [execOp, hop, hx, hi, Instr.indexAt, asIntOf, Instr.sureAddr, Sem.run_bind, run_underlying hu, sizeOf, typeInfo, hq, hs1, hk, Addr.add_mid]) h
theorem plan_index_arr1 (t e : TypeId) (n : Nat) (x ix : Operand) (g : Nat) (k : Nat) (ho : ops.toList[i]? = some o) (hw : Region.wanted o (yielded ops a.tmps) = true) (hop : o.op = .indexAddr t x ix)
 (hx : a.eval x = .pointer (some ⟨g, 0, none⟩)) (hi : a.eval ix = .int .i64 (k : Int)) (hk : k < n) (hu : P.underlying t = some (.array n e)) (hs : (P.info? e).map (·.size) = some 1)
 (h : wpPlan P ops Q S r (a.put o.dst (.pointer (some ⟨g, k, none⟩))) w) : wpPlan P ops Q S (.take i r) a w :=
 plan_index_arr t e n x ix g 0 1 k ho hw hop hx hi hk hu hs (by decide) (by rw [show 0 + k * 1 = k by omega]; exact h)
theorem plan_field (t : TypeId) (x : Operand) (f : Nat) (g off : Nat) (p : Addr) (ho : ops.toList[i]? = some o) (hw : Region.wanted o (yielded ops a.tmps) = true) (hop : o.op = .fieldAddr t x f)
 (hx : a.eval x = .pointer (some ⟨g, off, none⟩)) (hr : ∀ w', (Instr.fieldAt t (.pointer (some ⟨g, off, none⟩)) f).run P w' = .ok (.pointer (some p)) w')
 (h : wpPlan P ops Q S r (a.put o.dst (.pointer (some p))) w) : wpPlan P ops Q S (.take i r) a w :=
 plan_take _ ho hw (fun w' _ => by
  have := hr w'
  unfold execOp
  simp only [hop, hx, Sem.run_bind, this, Result.andThen_ok, Sem.run_pure]) h
theorem plan_store_one (ty : TypeId) (x y : Operand) (b k : Nat) (v : Value) (C : Array Value) (t : TypeId) (ho : ops.toList[i]? = some o) (hw : Region.wanted o (yielded ops a.tmps) = true) (hop : o.op = .store ty x y) (hdst : o.dst = none)
 (hx : a.eval x = .pointer (some ⟨b, k, none⟩)) (hy : a.eval y = v) (h1 : v.oneCell' = true) (hs : (P.info? ty).map (·.size) = some 1) (hC : At w b C t) (hk : k < C.size) (hS : S (w.setCell ⟨b, k, none⟩ v))
 (h : wpPlan P ops Q S r a (w.setCell ⟨b, k, none⟩ v)) : wpPlan P ops Q S (.sole i r) a w := by
 refine wpOp_at ho hw ?_
 have hput : a.put o.dst undef = a := by rw [hdst]; rfl
 have hc : w.cell? ⟨b, k, none⟩ = some C[k] := by rw [hC.cell]; simp [hk]
 have hf : w.frozen? ⟨b, k, none⟩ = false := hC.free k
 have hcs : v.cells = #[v] := by cases v <;> first | rfl | simp [Value.oneCell'] at h1
 cases hq : P.info? ty with
 | none => simp [hq] at hs
 | some q =>
  have hs1 : q.size = 1 := by simpa [hq] using hs
  have hst := run_store P w ⟨b, k, none⟩ v .plain h1
  rw [hc] at hst
  simp only [hf] at hst
  have hrun : (Instr.storeAt ty (.pointer (some ⟨b, k, none⟩)) v).run P w = .ok () (w.setCell ⟨b, k, none⟩ v) := by
   have e0 : (⟨b, k, none⟩ : Addr).add 0 = ⟨b, k, none⟩ := by rw [Addr.add_mid]; rfl
   simp [Instr.storeAt, Instr.sureAddr, storeVar, sizeOf, typeInfo, hq, hs1, hcs, storeCells, Sem.run_bind, e0, hst, Result.andThen]
  unfold Oper.wp execOp
  simp only [hop, hx, hy, Sem.run_bind, hrun, Result.andThen_ok, Sem.run_pure]
  show S _ ∧ wpPlan P ops Q S r (a.put o.dst undef) _
  rw [hput]
  exact ⟨hS, h⟩
end
theorem wpList_build {P : Program} {ops : Array Oper} {rest : List Oper} {o : Oper} {a : Act} {w : World} {Q : Exit → Act → World → Prop} (hw : Region.wanted o (yielded ops a.tmps) = true) (ty : TypeId) (parts : Array (Nat × Operand)) (ps : Array (Nat × Value)) (v : Value)
 (hop : o.op = .build ty parts) (hps : (parts.map fun (i, x) => (i, a.eval x)) = ps) (hv : ∀ w', (Instr.build ty ps).run P w' = .ok v w') (h : wpList P ops Q rest (a.put o.dst v) w) : wpList P ops Q (o :: rest) a w := by
 unfold wpList
 rw [if_pos hw]
 left
 unfold Oper.wp
 have : (execOp a.eval o).run P w = .ok (.value v) w := by
  have := hv w
  simp only [execOp, hop, hps]
  rw [Sem.run_bind, this]; rfl
 rw [this]
 exact h
end Mem
end Go.Proofs.YtahcjnganedbiaaGreatDoor
