/- A plain region walked operation by operation, each said beforehand: for regions of many guards. Over any program. -/
import Derived.Test.YteiffdccfmfdbaaPlan
import Derived.Test.YteiffdccfmfdbaaWanted
import Derived.Test.YteiffdccfmfdbaaPlan2
namespace Go.Proofs.Yteiffdccfmfdbaa
namespace Mem
open Go.RowKit
section
variable {P : Program} {ops : Array Oper} {rest : List Oper} {o : Oper} {a : Act} {w : World} {Q : Exit → Act → World → Prop}
theorem ls_val (v : Value) (hw : Region.wanted o (yielded ops a.tmps) = true) (hv : (execOp a.eval o).run P w = .ok (.value v) w) (h : wpList P ops Q rest (a.put o.dst v) w) : wpList P ops Q (o :: rest) a w := by
  unfold wpList
  rw [if_pos hw]
  left
  unfold Oper.wp
  rw [hv]
  exact h
theorem ls_skip (hw : Region.wanted o (yielded ops a.tmps) = false) (h : wpList P ops Q rest (a.put o.dst undef) w) : wpList P ops Q (o :: rest) a w := wpList_skip hw h
theorem ls_move (x : Operand) (v : Value) (hw : Region.wanted o (yielded ops a.tmps) = true) (hop : o.op = .move x ∨ o.op = .assign x) (hx : a.eval x = v) (h : wpList P ops Q rest (a.put o.dst v) w) : wpList P ops Q (o :: rest) a w :=
  ls_val v hw (by rcases hop with hop | hop <;> simp [execOp, hop, hx]) h
theorem ls_pick (c x y : Operand) (b : Bool) (v : Value) (hw : Region.wanted o (yielded ops a.tmps) = true) (hop : o.op = .pick c x y) (hc : a.eval c = .bool b) (hx : (if b then a.eval x else a.eval y) = v) (h : wpList P ops Q rest (a.put o.dst v) w) : wpList P ops Q (o :: rest) a w :=
  ls_val v hw (by simp [execOp, hop, hc, asBool, ← hx]) h
theorem ls_pick_t (c x y : Operand) (v : Value) (hw : Region.wanted o (yielded ops a.tmps) = true) (hop : o.op = .pick c x y) (hc : a.eval c = .bool true) (hx : a.eval x = v) (h : wpList P ops Q rest (a.put o.dst v) w) : wpList P ops Q (o :: rest) a w := ls_pick c x y true v hw hop hc hx h
theorem ls_pick_f (c x y : Operand) (v : Value) (hw : Region.wanted o (yielded ops a.tmps) = true) (hop : o.op = .pick c x y) (hc : a.eval c = .bool false) (hx : a.eval y = v) (h : wpList P ops Q rest (a.put o.dst v) w) : wpList P ops Q (o :: rest) a w := ls_pick c x y false v hw hop hc hx h
theorem ls_not (t : TypeId) (x : Operand) (b : Bool) (v : Value) (hw : Region.wanted o (yielded ops a.tmps) = true) (hop : o.op = .unOp .not t x) (hx : a.eval x = .bool b) (hv : Value.bool (!b) = v) (h : wpList P ops Q rest (a.put o.dst v) w) : wpList P ops Q (o :: rest) a w :=
  ls_val v hw (by subst hv; simp only [execOp, hop, hx]; first | rfl | go_simp) h
theorem ls_len (x : Operand) (ats : Array TypeId) (s : Option Addr) (n c : Nat) (hw : Region.wanted o (yielded ops a.tmps) = true) (hop : o.op = .call { callee := .builtin .len, args := #[x], argTypes := ats }) (hx : a.eval x = .slice s n c)
    (hr : ∀ w' : World, (Builtin.len_ ats o.type #[.slice s n c]).run P w' = .ok (.int .i64 n) w') (h : wpList P ops Q rest (a.put o.dst (.int .i64 n)) w) : wpList P ops Q (o :: rest) a w :=
  ls_val _ hw (by
    obtain ⟨dst, op, type, pos, after, guard⟩ := o
    simp only at hop
    subst hop
    rw [BigFrame.execOp_builtin]
    simp [hx, BigFrame.builtin_len, hr w]) h
theorem ls_call (f : FuncId) (xs : Array Operand) (ats : Array TypeId) (vs : Array Value) (hf : enters P f = true) (hw : Region.wanted o (yielded ops a.tmps) = true) (hop : o.op = .call { callee := .value (.func f), args := xs, argTypes := ats }) (hxs : xs.map a.eval = vs)
    (h : Calls P f vs w fun e w' => ∃ v, e = .returned v ∧ wpList P ops Q rest (a.put o.dst v) w') : wpList P ops Q (o :: rest) a w := by
  unfold wpList
  rw [if_pos hw]
  left
  obtain ⟨dst, op, type, pos, after, guard⟩ := o
  simp only at hop
  subst hop
  unfold Oper.wp
  rw [execOp_call_go]
  have : (callFunc f (#[] ++ xs.map a.eval ++ #[])).run P w = .ok (.enter f vs) w := by
    rw [hxs]; simp [run_enters hf]
  rw [this]
  exact h.mono fun e w' ⟨v, he, hp⟩ => by subst he; exact hp
end
end Mem
end Go.Proofs.Yteiffdccfmfdbaa
