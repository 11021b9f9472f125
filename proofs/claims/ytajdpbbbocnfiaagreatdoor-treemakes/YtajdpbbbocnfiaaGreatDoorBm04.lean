/- Loads of several cells, and cuts of arrays, in a region that draws its order. Over any program. -/
import Derived.Test.YtajdpbbbocnfiaaGreatDoorBm00
namespace Go.Proofs.YtajdpbbbocnfiaaGreatDoor
namespace Mem
open Go.RowKit
variable {P : Program} {ops : Array Oper} {K : World → Prop} {Q : Act → Prop} {a : Act} {op : Oper} {rest : List Oper}
theorem wpQuiet_value (hgd : op.guard = none) (v : Value) (hv : ∀ w, K w → (execOp a.eval op).run P w = .ok (.value v) w) (h : wpQuiet P ops K Q rest (a.put op.dst v)) : wpQuiet P ops K Q (op :: rest) a := by
 refine wpQuiet_step fun L hL => ?_
 rw [if_pos (by simp [Region.wanted, hgd])]
 refine ⟨v, fun w hw => ?_, hL _ h⟩
 unfold Oper.quietAt
 rw [hv w hw]
 exact ⟨rfl, rfl⟩
theorem wpQuiet_load_all (hgd : op.guard = none) (ty : TypeId) (x : Operand) (ho : op.op = .load ty x) (b : Nat) (hx : a.eval x = .pointer (some ⟨b, 0, none⟩)) (d : TypeDesc) (hu : P.underlying ty = some d) (hd : d.isRow = true)
 (C : Array Value) (t : TypeId) (hC : ∀ w, K w → At w b C t) (hi : (P.info? ty).map (·.size) = some C.size) (h : wpQuiet P ops K Q rest (a.put op.dst (.agg C))) : wpQuiet P ops K Q (op :: rest) a :=
 wpQuiet_value hgd (.agg C) (fun w hw => by
  have hr := run_loadAt_mid (P := P) w b 0 ty (C.extract 0 (0 + C.size)).toList d ((hC w hw).range 0 C.size) hu hd (by rw [hi]; simp)
  unfold execOp
  simp only [ho, hx, Sem.run_bind, hr, Result.andThen_ok, Sem.run_pure]
  simp) h
theorem wpQuiet_slice_arr_to (hgd : op.guard = none) (ty : TypeId) (x i : Operand) (ho : op.op = .slice ty x none (some i) none)
 (n : Nat) (elem : TypeId) (hu : P.underlying ty = some (.array n elem)) (hs : (P.info? elem).map (·.size) = some 1) (b o k : Nat) (hx : a.eval x = .pointer (some ⟨b, o, none⟩)) (hi : a.eval i = .int .i64 (k : Int)) (hk : k ≤ n)
 (h : wpQuiet P ops K Q rest (a.put op.dst (.slice (some ⟨b, o, none⟩) k n))) : wpQuiet P ops K Q (op :: rest) a :=
 wpQuiet_value hgd _ (fun w _ => by
  cases hq : P.info? elem with
  | none => simp [hq] at hs
  | some q =>
   have hs1 : q.size = 1 := by simpa [hq] using hs
   have hat : (Instr.sliceAt ty (.pointer (some ⟨b, o, none⟩)) none (some (.int .i64 (k : Int))) none).run P w = .ok (.slice (some ⟨b, o, none⟩) k n) w := by
    simp [Instr.sliceAt, Instr.sureAddr, Instr.sliceBounds, Instr.sliceBound, asIntOf, Sem.run_bind, run_underlying hu, sizeOf, typeInfo, hq, hk, Addr.add_mid]
   unfold execOp
   simp only [ho, hx, hi, Option.map_some, Option.map_none, Sem.run_bind, hat, Result.andThen_ok, Sem.run_pure]) h
end Mem
end Go.Proofs.YtajdpbbbocnfiaaGreatDoor
