/- Package dev: what its walks through the writes that wait need. -/
import Derived.Test.YtkgpcgkikenljaaDevPNote
namespace Go.Proofs.Ytkgpcgkikenljaa
namespace Sha
open Go.RowKit Mem
theorem splice_laid (b : List (BitVec 8)) (k : Nat) (x : List (BitVec 8)) : Mem.splice (u8s b).toArray k (u8s x) = (u8s (laidL b k x)).toArray := by
  unfold Mem.splice laidL u8s
  simp [List.map_take, List.map_drop]
/-- copy of a slice of bytes that isn't empty, where it comes up alone. -/
theorem plan_copy_sl {ops : Array Oper} {Q : Exit → Act → World → Prop} {S : World → Prop} {w : World} {a : Act} {o : Oper} {i : Nat} {r : Plan} (x y : Operand) (ho : ops.toList[i]? = some o) (hw : Region.wanted o (yielded ops a.tmps) = true)
    (hop : o.op = .call { callee := .builtin .copy, args := #[x, y], argTypes := #[27, 27] }) (b p dLen dCap : Nat) (vy : Value) (l m : List (BitVec 8)) (hx : a.eval x = .slice (some ⟨b, p, none⟩) dLen dCap) (hy : a.eval y = vy) (hl : Sl w vy l) (hne : l ≠ [])
    (hk : l.length ≤ dLen) (hC : At w b (u8s m).toArray 5) (hfit : p + l.length ≤ m.length)
    (h : ∀ w', At w' b (u8s (laidL m p l)).toArray 5 → w'.heap.size = w.heap.size → (∀ k, k ≠ b → w'.heap[k]? = w.heap[k]?) → (∀ B a, Below B a w → B ≤ b → Below B a w') → S w' ∧ wpPlan Try.prog ops Q S r (a.put o.dst (.int .i64 (l.length : Int))) w') : wpPlan Try.prog ops Q S (.sole i r) a w := by
  obtain ⟨a0, cap, rfl, _, hr⟩ := hl
  obtain ⟨bb, oo, rfl, _, hc⟩ := hr hne
  have hlen : (u8s l).length = Nat.min l.length dLen := by rw [u8s_length]; exact (Nat.min_eq_left hk).symm
  have hrun := run_copy_row (P := Try.prog) w 27 27 o.type 5 b p dLen dCap ⟨bb, oo, none⟩ l.length cap (u8s m).toArray 5 (u8s l) Try.underlying27 infoB hC hlen (fun j v hj => by
    have hjk : j < l.length := by
      have := (List.getElem?_eq_some_iff.1 hj).1
      rwa [u8s_length] at this
    rw [Addr.add_mid, hc j hjk, ← hj, u8s_get _ _ hjk]) (by rw [u8s_length]; simpa [u8s] using hfit) (u8s_cells l)
  refine wpOp_at ho hw ?_
  unfold Oper.wp execOp
  simp only [hop, resolve, invoke, builtin, Sem.run_bind, Sem.run_pure, Result.andThen_ok, List.map_toArray, List.map_cons, List.map_nil, hx, hy, hrun]
  have e : ((u8s m).take p ++ u8s l ++ (u8s m).drop (p + (u8s l).length)).toArray = (u8s (laidL m p l)).toArray := by
    rw [← splice_laid, Mem.splice]
  rw [e]
  have hE : goInt (u8s l).length = .int .i64 (l.length : Int) := by rw [u8s_length]; rfl
  rw [hE]
  exact h _ (hC.row _) (by simp) (fun k hk => setRow_other w b k _ hk) (fun B a hb hB => below_row hb hB _)
section
variable {ops : Array Oper} {rest : List Oper} {o : Oper} {a : Act} {w : World} {Q : Exit → Act → World → Prop}
/-- A piece of a slice, from a place on. -/
theorem wpList_from (hw : Region.wanted o (yielded ops a.tmps) = true) (ty : TypeId) (x i : Operand) (ho : o.op = .slice ty x (some i) none none) (hu : Try.prog.underlying ty = some (.slice 5)) (a0 : Option Addr) (len cap k : Nat)
    (hx : a.eval x = .slice a0 len cap) (hi : a.eval i = .int .i64 (k : Int)) (hk : k ≤ len) (hc : len ≤ cap)
    (h : wpList Try.prog ops Q rest (a.put o.dst (.slice (pieceA a0 cap k) (len - k) (cap - k))) w) : wpList Try.prog ops Q (o :: rest) a w := by
  have hr := (slice_run ty 5 hu infoB a0 len cap k len hk (Nat.le_refl _) hc w).2.2
  unfold wpList
  rw [if_pos hw]
  left
  unfold Oper.wp
  have : (execOp a.eval o).run Try.prog w = .ok (.value (.slice (pieceA a0 cap k) (len - k) (cap - k))) w := by
    unfold execOp
    simp only [ho, hx, hi, Option.map_some, Option.map_none, Sem.run_bind, hr, Result.andThen_ok, Sem.run_pure]
  rw [this]
  exact h
/-- copy of a slice of bytes, in the document's words. -/
theorem wpList_copy_laid (hgd : o.guard = none) (x y : Operand)
    (ho : o.op = .call { callee := .builtin .copy, args := #[x, y], argTypes := #[27, 27] }) (b p p' dLen dCap : Nat) (vy : Value) (l m : List (BitVec 8)) (hx : a.eval x = .slice (some ⟨b, p', none⟩) dLen dCap) (hy : a.eval y = vy) (hl : Sl w vy l)
    (hk : l.length ≤ dLen) (hC : At w b (u8s m).toArray 5) (hfit : p' + l.length ≤ m.length) (hp : l ≠ [] → p' = p)
    (h : ∀ w', At w' b (u8s (laidL m p l)).toArray 5 → w'.heap.size = w.heap.size → (∀ k, k ≠ b → w'.heap[k]? = w.heap[k]?) → (∀ B a, Below B a w → B ≤ b → Below B a w') → wpList Try.prog ops Q rest (a.put o.dst (.int .i64 (l.length : Int))) w') : wpList Try.prog ops Q (o :: rest) a w := by
  refine wpList_copy_sl hgd x y ho b p' dLen dCap vy l hx hy hl l.length (Nat.min_eq_left hk).symm (u8s m).toArray 5 hC (by simpa [u8s] using hfit) (u8s (laidL m p l)).toArray ?_ h
  rw [List.take_length, splice_laid]
  by_cases hne : l = []
  · subst hne; simp [laidL]
  · rw [hp hne]
end
theorem o_and1 {P : Program} (t t2 : TypeId) (x y : Operand) (a : Nat) (ha : a < 18446744073709551616) (w : World) : (do eqGuard .and t x y (.int .u64 (a : Int)) (.int .u64 1); binOp .and t2 (.int .u64 (a : Int)) (.int .u64 1) : Sem Value).run P w = .ok (.int .u64 ((a % 2 : Nat) : Int)) w := by
  have h := bits_mask .u64 64 (by decide) (fun n h0 h1 => by rw [IntKind.wrap_u64]; omega) 1 (by decide) (a : Int) (by omega) (by omega)
  have e : ((2 : Int) ^ 1 - 1) = 1 := by decide
  have e2 : ((2 : Int) ^ 1) = 2 := by decide
  rw [e, e2] at h
  have h0 : a % 2 < 18446744073709551616 := by omega
  go_simp
/-- One of the writes that wait, in memory. -/
theorem pw_at {G D : Foot} {br bb : Nat} {w : World} {s : St6} {a : Option Addr} {n cap : Nat} {vs vt : Value} (m : PM G D br bb w s (.slice a n cap) vs vt) {j : Nat} (hj : j < s.w.length) :
    ∃ b o vh, a = some ⟨b, o, none⟩ ∧ w.cell? ⟨b, o + j * 2, none⟩ = some (.int .i64 (((s.w.getD j (0, [])).1 : Nat) : Int)) ∧ w.cell? ⟨b, o + j * 2 + 1, none⟩ = some vh ∧ SlB D w vh (s.w.getD j (0, [])).2 := by
  obtain ⟨ws, h1, h2⟩ := m.hw
  have h3 := ownsRow_slR h2
  have hn : n = s.w.length := by obtain ⟨_, _, _, e, _⟩ := h3; injection e
  subst hn
  obtain ⟨b, o, ea, _, hc⟩ := slR_at h3 hj
  obtain ⟨p, hp, hp1, hp2⟩ := h1.at (List.getElem?_eq_getElem hj)
  obtain ⟨q1, q2⟩ := putC_at ws j p hp
  have e : s.w.getD j (0, []) = s.w[j] := by simp [List.getD_eq_getElem?_getD, hj]
  rw [e]
  exact ⟨b, o, p.2, ea, by rw [← hp1, ← q1, Nat.mul_comm]; exact hc 0 (by decide), by rw [← q2, Nat.mul_comm, Nat.add_assoc]; exact hc 1 (by decide), hp2⟩
/-- One of those on the shelf, in memory. -/
theorem psh_at {G D : Foot} {br bb : Nat} {w : World} {s : St6} {a : Option Addr} {n cap : Nat} {vw vt : Value} (m : PM G D br bb w s vw (.slice a n cap) vt) {j : Nat} (hj : j < s.sh.length) :
    ∃ b o vh, a = some ⟨b, o, none⟩ ∧ w.cell? ⟨b, o + j, none⟩ = some vh ∧ SlB D w vh (s.sh.getD j []) := by
  obtain ⟨hs, h1, h2⟩ := m.hs
  have h3 := ownsRow_slR h2
  have hn : n = s.sh.length := by obtain ⟨_, _, _, e, _⟩ := h3; injection e
  subst hn
  obtain ⟨b, o, ea, _, hc⟩ := slR_at h3 hj
  obtain ⟨p, hp, hp2⟩ := h1.at (List.getElem?_eq_getElem hj)
  have e : s.sh.getD j [] = s.sh[j] := by simp [List.getD_eq_getElem?_getD, hj]
  rw [e]
  exact ⟨b, o, p, ea, by rw [← hp]; simpa using hc 0 (by decide), hp2⟩
theorem infoW2 : (Try.prog.info? 80).map (·.size) = some 2 := by kernel_rfl
theorem infoWs : (Try.prog.info? 60).map (·.size) = some 1 := by kernel_rfl
theorem infoSh1 : (Try.prog.info? 29).map (·.size) = some 1 := by kernel_rfl
def wRow (q : Nat) (v : Value) : Array Value := #[.int .i64 (q : Int), v]
theorem wRow_one (q : Nat) (a : Option Addr) (n c : Nat) : (wRow q (.slice a n c)).all (·.oneCell') = true := by simp [wRow, Value.oneCell']
/-- None waits any more. -/
theorem pv_nowait {F D : Foot} {br bb N : Nat} {w w2 : World} {s : St6} {vw vs vt : Value} (h : PV F D br bb w s vw vs vt) (hN : N = s.n) (hA : At w2 br (pRow bb N (.slice none 0 0) vs vt) 62) (ho : ∀ k, k ≠ br → w2.heap[k]? = w.heap[k]?)
    (hk : ∀ B a, Below B a w → B ≤ br → Below B a w2) : PV (grow F w w2) D br bb w2 { s with w := [] } (.slice none 0 0) vs vt ∧ Chg F w w2 :=
  pv_set (s' := { s with w := [] }) h hN (Chg.refl _ _) hA ho hk (pm_nowait h.m) fun _ hk _ => .inl hk
end Sha
end Go.Proofs.Ytkgpcgkikenljaa
