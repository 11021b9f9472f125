/- Pieces of slices of bytes that read as lists, in plain regions, guarded or not. -/
import Derived.Test.YteiffdccfmfdbaaSl
namespace Go.Proofs.Yteiffdccfmfdbaa
namespace Sha
open Go.RowKit Mem
/-- Where a piece begins. -/
def pieceA (a : Option Addr) (cap i : Nat) : Option Addr := if cap = i then a else a.map (·.add i)
theorem sl_piece {w : World} {a : Option Addr} {cap i j : Nat} {l : List (BitVec 8)} (h : Sl w (.slice a l.length cap) l) (hi : i ≤ j) (hj : j ≤ l.length) : Sl w (.slice (pieceA a cap i) (j - i) (cap - i)) ((l.drop i).take (j - i)) := by
  obtain ⟨a', cap', e, hcap, hr⟩ := h
  injection e with e1 _ e3
  subst e1; subst e3
  have hl : ((l.drop i).take (j - i)).length = j - i := by rw [List.length_take, List.length_drop]; omega
  refine ⟨_, _, by rw [hl], by rw [hl]; omega, fun hne => ?_⟩
  have hij : i < j := by
    rcases Nat.lt_or_ge i j with h | h
    · exact h
    · rw [show j - i = 0 by omega, List.take_zero] at hne
      exact absurd rfl hne
  obtain ⟨bb, oo, rfl, hlt, hc⟩ := hr (by intro h0; rw [h0] at hj; simp at hj; omega)
  refine ⟨bb, oo + i, by rw [pieceA, if_neg (by omega)]; simp [Addr.add_mid], hlt, fun k hk => ?_⟩
  rw [hl] at hk
  rw [Nat.add_assoc, hc (i + k) (by omega)]
  simp [List.getD_eq_getElem?_getD, hk]
section
variable {ops : Array Oper} {rest : List Oper} {o : Oper} {a : Act} {w : World} {Q : Exit → Act → World → Prop}
theorem slice_run (ty : TypeId) (e : TypeId) (hu : Try.prog.underlying ty = some (.slice e)) (hs : (Try.prog.info? e).map (·.size) = some 1) (a0 : Option Addr) (len cap i j : Nat) (hij : i ≤ j) (hj : j ≤ len) (hc : len ≤ cap) (w : World) :
    (Instr.sliceAt ty (.slice a0 len cap) (some (.int .i64 (i : Int))) (some (.int .i64 (j : Int))) none).run Try.prog w = .ok (.slice (pieceA a0 cap i) (j - i) (cap - i)) w ∧
    (Instr.sliceAt ty (.slice a0 len cap) none (some (.int .i64 (j : Int))) none).run Try.prog w = .ok (.slice (pieceA a0 cap 0) j cap) w ∧
    (Instr.sliceAt ty (.slice a0 len cap) (some (.int .i64 (i : Int))) none none).run Try.prog w = .ok (.slice (pieceA a0 cap i) (len - i) (cap - i)) w := by
  cases hq : Try.prog.info? e with
  | none => simp [hq] at hs
  | some q =>
    have hs1 : q.size = 1 := by simpa [hq] using hs
    have hjc : j ≤ cap := by omega
    have hil : i ≤ len := by omega
    refine ⟨?_, ?_, ?_⟩ <;> simp [Instr.sliceAt, Instr.slice, Instr.sliceBounds, Instr.sliceBound, asIntOf, Sem.run_bind, run_underlying hu, sizeOf, typeInfo, hq, hs1, hij, hjc, hil, pieceA]
theorem wpList_piece (hw : Region.wanted o (yielded ops a.tmps) = true) (ty : TypeId) (x i j : Operand) (ho : o.op = .slice ty x (some i) (some j) none) (hu : Try.prog.underlying ty = some (.slice 5)) (a0 : Option Addr) (len cap k m : Nat) (l : List (BitVec 8)) (hl : l.length = len)
    (hx : a.eval x = .slice a0 len cap) (hv : Sl w (.slice a0 len cap) l) (hi : a.eval i = .int .i64 (k : Int)) (hj : a.eval j = .int .i64 (m : Int)) (hk : k ≤ m) (hm : m ≤ len)
    (h : Sl w (.slice (pieceA a0 cap k) (m - k) (cap - k)) ((l.drop k).take (m - k)) → wpList Try.prog ops Q rest (a.put o.dst (.slice (pieceA a0 cap k) (m - k) (cap - k))) w) : wpList Try.prog ops Q (o :: rest) a w := by
  subst hl
  have hcap : l.length ≤ cap := by obtain ⟨_, _, e, hc, _⟩ := hv; injection e with _ _ e3; omega
  have hr := (slice_run ty 5 hu infoB a0 l.length cap k m hk hm hcap w).1
  unfold wpList
  rw [if_pos hw]
  left
  unfold Oper.wp
  have : (execOp a.eval o).run Try.prog w = .ok (.value (.slice (pieceA a0 cap k) (m - k) (cap - k))) w := by
    unfold execOp
    simp only [ho, hx, hi, hj, Option.map_some, Option.map_none, Sem.run_bind, hr, Result.andThen_ok, Sem.run_pure]
  rw [this]
  exact h (sl_piece hv hk hm)
theorem wpList_piece_to (hw : Region.wanted o (yielded ops a.tmps) = true) (ty : TypeId) (x j : Operand) (ho : o.op = .slice ty x none (some j) none) (hu : Try.prog.underlying ty = some (.slice 5)) (a0 : Option Addr) (len cap m : Nat) (l : List (BitVec 8)) (hl : l.length = len)
    (hx : a.eval x = .slice a0 len cap) (hv : Sl w (.slice a0 len cap) l) (hj : a.eval j = .int .i64 (m : Int)) (hm : m ≤ len)
    (h : Sl w (.slice (pieceA a0 cap 0) m cap) (l.take m) → wpList Try.prog ops Q rest (a.put o.dst (.slice (pieceA a0 cap 0) m cap)) w) : wpList Try.prog ops Q (o :: rest) a w := by
  subst hl
  have hcap : l.length ≤ cap := by obtain ⟨_, _, e, hc, _⟩ := hv; injection e with _ _ e3; omega
  have hr := (slice_run ty 5 hu infoB a0 l.length cap 0 m (Nat.zero_le _) hm hcap w).2.1
  unfold wpList
  rw [if_pos hw]
  left
  unfold Oper.wp
  have : (execOp a.eval o).run Try.prog w = .ok (.value (.slice (pieceA a0 cap 0) m cap)) w := by
    unfold execOp
    simp only [ho, hx, hj, Option.map_some, Option.map_none, Sem.run_bind, hr, Result.andThen_ok, Sem.run_pure]
  rw [this]
  have h1 := sl_piece hv (Nat.zero_le m) hm
  rw [Nat.sub_zero, Nat.sub_zero, List.drop_zero] at h1
  exact h h1
theorem wpList_piece_from (hw : Region.wanted o (yielded ops a.tmps) = true) (ty : TypeId) (x i : Operand) (ho : o.op = .slice ty x (some i) none none) (hu : Try.prog.underlying ty = some (.slice 5)) (a0 : Option Addr) (len cap k : Nat) (l : List (BitVec 8)) (hl : l.length = len)
    (hx : a.eval x = .slice a0 len cap) (hv : Sl w (.slice a0 len cap) l) (hi : a.eval i = .int .i64 (k : Int)) (hk : k ≤ len)
    (h : Sl w (.slice (pieceA a0 cap k) (len - k) (cap - k)) (l.drop k) → wpList Try.prog ops Q rest (a.put o.dst (.slice (pieceA a0 cap k) (len - k) (cap - k))) w) : wpList Try.prog ops Q (o :: rest) a w := by
  subst hl
  have hcap : l.length ≤ cap := by obtain ⟨_, _, e, hc, _⟩ := hv; injection e with _ _ e3; omega
  have hr := (slice_run ty 5 hu infoB a0 l.length cap k l.length hk (Nat.le_refl _) hcap w).2.2
  unfold wpList
  rw [if_pos hw]
  left
  unfold Oper.wp
  have : (execOp a.eval o).run Try.prog w = .ok (.value (.slice (pieceA a0 cap k) (l.length - k) (cap - k))) w := by
    unfold execOp
    simp only [ho, hx, hi, Option.map_some, Option.map_none, Sem.run_bind, hr, Result.andThen_ok, Sem.run_pure]
  rw [this]
  have h1 := sl_piece hv hk (Nat.le_refl _)
  rw [List.take_of_length_le (by rw [List.length_drop]; omega)] at h1
  exact h h1
end
end Sha
end Go.Proofs.Yteiffdccfmfdbaa
