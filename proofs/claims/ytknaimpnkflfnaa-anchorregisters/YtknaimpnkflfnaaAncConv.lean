/- Conversions of an anchor's numbers; its digests as slices. -/
import Derived.Test.YtknaimpnkflfnaaAncVal
namespace Go.Proofs.Ytknaimpnkflfnaa
namespace Sha
open Go.RowKit Mem
/-- A conversion in a plain region. -/
theorem wpList_conv {P : Program} {ops : Array Oper} {rest : List Oper} {o : Oper} {a : Act} {w : World} {Q : Exit → Act → World → Prop} (hw : Region.wanted o (yielded ops a.tmps) = true) (t1 t2 : TypeId) (x : Operand) (vx v : Value)
    (hop : o.op = .convert t1 t2 x) (hx : a.eval x = vx) (hv : ∀ w', (convert t1 t2 vx).run P w' = .ok v w') (h : wpList P ops Q rest (a.put o.dst v) w) : wpList P ops Q (o :: rest) a w := by
  unfold wpList
  rw [if_pos hw]
  left
  unfold Oper.wp
  have : (execOp a.eval o).run P w = .ok (.value v) w := by
    have := hv w
    simp only [execOp, hop, hx]
    rw [Sem.run_bind, this]; rfl
  rw [this]
  exact h
theorem conv_iu (z : Int) (h0 : 0 ≤ z) (h1 : z < 1000000) (w : World) : (convert 3 24 (.int .i64 z)).run Try.prog w = .ok (.int .u64 ((z.toNat : Nat) : Int)) w := by
  have e : ((z.toNat : Nat) : Int) = z := by omega
  rw [e]
  have h2 : IntKind.u64.wrap z = z := by rw [IntKind.wrap_u64]; omega
  go_simp
theorem conv_uu (m : Nat) (h : m < 4294967296) (w : World) : (convert 22 24 (.int .u32 (m : Int))).run Try.prog w = .ok (.int .u64 (m : Int)) w := by
  have h2 : IntKind.u64.wrap (m : Int) = (m : Int) := by rw [IntKind.wrap_u64]; omega
  go_simp
theorem conv_ui (x : Nat) (_h : x < 65536) (w : World) : (convert 24 3 (.int .u64 (x : Int))).run Try.prog w = .ok (.int .i64 (x : Int)) w := by
  have h2 : IntKind.i64.wrap (x : Int) = (x : Int) := by simp [IntKind.wrap, IntKind.bits, IntKind.signed]; omega
  go_simp
theorem conv_u32 (x : Nat) (_h : x < 4294967296) (w : World) : (convert 24 22 (.int .u64 (x : Int))).run Try.prog w = .ok (.int .u32 (x : Int)) w := by
  have h2 : IntKind.u32.wrap (x : Int) = (x : Int) := by rw [IntKind.wrap_u32]; omega
  go_simp
theorem sl_head {w : World} {bx : Nat} {a : Anc} {t : TypeId} (hA : At w bx (ancC a) t) (h : a.Wf) : Sl w (.slice (some ⟨bx, 4, none⟩) 32 32) a.head :=
  ⟨_, _, by rw [h.head], by rw [h.head]; exact Nat.le_refl _, fun _ => ⟨bx, 4, rfl, hA.lt, fun i hi => (hA.cell _).trans (anc_head h i (by rw [h.head] at hi; exact hi))⟩⟩
theorem sl_root {w : World} {bx : Nat} {a : Anc} {t : TypeId} (hA : At w bx (ancC a) t) (h : a.Wf) : Sl w (.slice (some ⟨bx, 38, none⟩) 32 32) a.root :=
  ⟨_, _, by rw [h.root], by rw [h.root]; exact Nat.le_refl _, fun _ => ⟨bx, 38, rfl, hA.lt, fun i hi => (hA.cell _).trans (anc_root h i (by rw [h.root] at hi; exact hi))⟩⟩
theorem mayA_iff (a : Anc) : mayA a = true ↔ (1 ≤ a.ver ∧ a.ver ≤ 2) ∧ (1 ≤ a.pages ∧ a.pages ≤ 216) ∧ (0 ≤ a.hp ∧ a.hp ≤ 1) ∧ (0 ≤ a.rp ∧ a.rp ≤ 1) ∧ a.re ≤ a.epoch := by simp [mayA, and_assoc]
end Sha
end Go.Proofs.Ytknaimpnkflfnaa
