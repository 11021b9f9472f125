/- Uses as cells; two uses compared; a struct's row read in a plan. -/
import Derived.Test.YtmpibofkihfiiaaEpStep
import Derived.Test.YtmpibofkihfiiaaEqStruct
namespace Go.Proofs.Ytmpibofkihfiiaa
namespace Mem
open Go.RowKit
/-- In a plan: a row read whose cells are known one by one. -/
theorem plan_load_range {P : Program} {ops : Array Oper} {Q : Exit → Act → World → Prop} {S : World → Prop} {w : World} {a : Act} {o : Oper} {i : Nat} {r : Plan} (ty : TypeId) (x : Operand) (b off : Nat) (d : TypeDesc) (R : Array Value) (ho : ops.toList[i]? = some o) (hw : Region.wanted o (yielded ops a.tmps) = true) (hop : o.op = .load ty x) (hx : a.eval x = .pointer (some ⟨b, off, none⟩))
    (hC : ∀ w', S w' → w'.rangeAt b off R.toList) (hu : P.underlying ty = some d) (hd : d.isRow = true) (hi : (P.info? ty).map (·.size) = some R.size) (h : wpPlan P ops Q S r (a.put o.dst (.agg R)) w) :
    wpPlan P ops Q S (.take i r) a w :=
  plan_take _ ho hw (fun w' hw' => by
    have hr := run_loadAt_mid (P := P) w' b off ty R.toList d (hC w' hw') hu hd (by rw [hi]; simp)
    unfold execOp
    simp only [hop, hx, Sem.run_bind, hr, Result.andThen_ok, Sem.run_pure]) h
end Mem
namespace Sha
open Go.RowKit Mem
def euCs (l : List EU) : List Value := l.flatMap fun p => [.int .u32 p.1, .int .i64 p.2]
theorem euCs_len (l : List EU) : (euCs l).length = l.length * 2 := by
  induction l with
  | nil => rfl
  | cons p l ih => rw [show euCs (p :: l) = [.int .u32 p.1, .int .i64 p.2] ++ euCs l from rfl, List.length_append, ih]; simp; omega
theorem euCs_snoc (l : List EU) (p : EU) : euCs (l ++ [p]) = euCs l ++ [.int .u32 p.1, .int .i64 p.2] := by simp [euCs, List.flatMap_append]
theorem euCs_one (l : List EU) : ∀ u ∈ euCs l, u.oneCell' = true := by
  intro u hu
  obtain ⟨p, _, hp⟩ := List.mem_flatMap.1 hu
  simp at hp
  rcases hp with rfl | rfl <;> rfl
theorem euCs_at : ∀ (l : List EU) (i j : Nat), i < l.length → j < 2 → (euCs l)[2 * i + j]? = (euC (l.getD i (0, 0)))[j]?
  | [], i, j, hi, _ => by simp at hi
  | p :: l, 0, j, _, hj => by
    rw [show euCs (p :: l) = [.int .u32 p.1, .int .i64 p.2] ++ euCs l from rfl, List.getElem?_append_left (by simp; omega)]
    have : j = 0 ∨ j = 1 := by omega
    rcases this with rfl | rfl <;> rfl
  | p :: l, i + 1, j, hi, hj => by
    rw [show euCs (p :: l) = [.int .u32 p.1, .int .i64 p.2] ++ euCs l from rfl, List.getElem?_append_right (by simp; omega)]
    rw [show 2 * (i + 1) + j - [Value.int .u32 p.1, Value.int .i64 p.2].length = 2 * i + j by simp; omega, euCs_at l i j (by simpa using hi) hj]
    rfl
theorem eu_range {F : Foot} {w : World} {n cap : Nat} {a : Option Addr} {l : List EU} (h : SlR F w 2 (.slice a n cap) n (euCs l)) (hn : n = l.length) {i : Nat} (hi : i < n) :
    ∃ b o, a = some ⟨b, o, none⟩ ∧ F b ∧ b < w.heap.size ∧ w.rangeAt b (o + i * 2) (euC (l.getD i (0, 0))).toList := by
  obtain ⟨b, o, e, hF, hc⟩ := slR_at h hi
  refine ⟨b, o, e, hF, ?_, fun j v hv => ?_⟩
  · obtain ⟨_, a', cap', e', _, hr⟩ := h
    injection e' with e1 _ _
    obtain ⟨b', o', ea, _, hlt, _⟩ := hr (by omega)
    rw [e, ea] at e1
    have : b = b' := by simpa using congrArg (fun x : Option Addr => (x.map (·.block)).getD 0) e1
    rw [this]; exact hlt
  · have hj : j < 2 := by have := (List.getElem?_eq_some_iff.1 hv).1; simpa [euC] using this
    have := hc j hj
    rw [euCs_at l i j (by omega) hj] at this
    rw [show o + i * 2 + j = o + (2 * i + j) by omega, this, ← hv, Array.getElem?_toList]
theorem parts_eu (p q : EU) (d : Nat) (w : World) : (eqParts (d + 1) (euC p) (euC q) [(true, 22, 0), (true, 3, 1)]).run Try.prog w = .ok (decide (p = q)) w := by
  have e : decide (p = q) = ((p.1 == q.1) && ((p.2 == q.2) && true)) := by
    rw [Bool.eq_iff_iff]; simp [Prod.ext_iff]
  rw [e]
  refine eqParts_cons (run_part_int w 22 .u32 Try.underlying22 (euC p) 0 _ rfl) (run_part_int w 22 .u32 Try.underlying22 (euC q) 0 _ rfl) (run_equalIn_int w d 22 .u32 .u32 p.1 q.1 Try.underlying22) ?_
  exact eqParts_cons (run_part_int w 3 .i64 Try.underlying3 (euC p) 1 _ rfl) (run_part_int w 3 .i64 Try.underlying3 (euC q) 1 _ rfl) (run_equalIn_int w d 3 .i64 .i64 p.2 q.2 Try.underlying3) rfl
theorem eqlEU (t : TypeId) (hf : (Try.prog.fieldsOf t).toList.map (fun f => (decide (f.name ≠ "_"), f.type, f.offset)) = [(true, 22, 0), (true, 3, 1)])
    (hu : Try.prog.underlying t = some (.struct (Try.prog.fieldsOf t))) (hp : Try.prog.stoodInHeld t = false) (hg : Try.prog.eqGuardType Try.prog.depth t = false) (p q : EU) (x y : Operand) (w : World) :
    (do eqGuard .eql t x y (.agg (euC p)) (.agg (euC q)); binOp .eql t (.agg (euC p)) (.agg (euC q)) : Sem Value).run Try.prog w = .ok (.bool (decide (p = q))) w := by
  have h := run_equalIn_agg w 9999 t (euC p) (euC q) hu hp
  rw [eqFields_parts, hf, parts_eu p q 9998 w] at h
  rw [Sem.run_bind, run_eqGuard_agg w .eql t x y _ _ hg, Result.andThen_ok, run_eql_struct, h]; rfl
theorem eqlR (p q : EU) (x y : Operand) (w : World) : (do eqGuard .eql 44 x y (.agg (euC p)) (.agg (euC q)); binOp .eql 44 (.agg (euC p)) (.agg (euC q)) : Sem Value).run Try.prog w = .ok (.bool (decide (p = q))) w :=
  eqlEU _ (by kernel_rfl) (by kernel_rfl) (by kernel_rfl) (by kernel_rfl) p q x y w
theorem infoUR : (Try.prog.info? 44).map (·.size) = some 2 := by kernel_rfl
theorem elemUR : elemR Try.prog 26 44 (.agg #[.int .u32 0, .int .i64 0]) 2 16 := ⟨Try.underlying26, by kernel_rfl⟩
end Sha
end Go.Proofs.Ytmpibofkihfiiaa
