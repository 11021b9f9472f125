/- The document's store: laid, New, Read: walks. -/
import Derived.Test.YtkgpcgkikenljaaDevAcc
namespace Go.Proofs.Ytkgpcgkikenljaa
namespace Sha
open Go.RowKit Mem
/-- Bytes with some others laid over them at a place. -/
def laidL (b : List (BitVec 8)) (k : Nat) (x : List (BitVec 8)) : List (BitVec 8) := b.take k ++ x ++ b.drop (k + x.length)
theorem laidL_length (b : List (BitVec 8)) (k : Nat) (x : List (BitVec 8)) (h : k + x.length ≤ b.length) : (laidL b k x).length = b.length := by simp [laidL]; omega
theorem plan_piece_to {ops : Array Oper} {Q : Exit → Act → World → Prop} {S : World → Prop} {w : World} {a : Act} {o : Oper} {i : Nat} {r : Plan} (ty : TypeId) (x j : Operand) (ho : ops.toList[i]? = some o) (hw : Region.wanted o (yielded ops a.tmps) = true) (hop : o.op = .slice ty x none (some j) none) (hu : Try.prog.underlying ty = some (.slice 5))
    (a0 : Option Addr) (len cap m : Nat) (hx : a.eval x = .slice a0 len cap) (hj : a.eval j = .int .i64 (m : Int)) (hm : m ≤ len) (hc : len ≤ cap)
    (h : wpPlan Try.prog ops Q S r (a.put o.dst (.slice (pieceA a0 cap 0) m cap)) w) : wpPlan Try.prog ops Q S (.take i r) a w :=
  plan_take _ ho hw (fun wx _ => by
    have hr := (slice_run ty 5 hu infoB a0 len cap 0 m (Nat.zero_le _) hm hc wx).2.1
    unfold execOp
    simp only [hop, hx, hj, Option.map_some, Option.map_none, Sem.run_bind, hr, Result.andThen_ok, Sem.run_pure]) h
theorem plan_piece_from {ops : Array Oper} {Q : Exit → Act → World → Prop} {S : World → Prop} {w : World} {a : Act} {o : Oper} {i : Nat} {r : Plan} (ty : TypeId) (x j : Operand) (ho : ops.toList[i]? = some o) (hw : Region.wanted o (yielded ops a.tmps) = true) (hop : o.op = .slice ty x (some j) none none) (hu : Try.prog.underlying ty = some (.slice 5))
    (a0 : Option Addr) (len cap m : Nat) (hx : a.eval x = .slice a0 len cap) (hj : a.eval j = .int .i64 (m : Int)) (hm : m ≤ len) (hc : len ≤ cap)
    (h : wpPlan Try.prog ops Q S r (a.put o.dst (.slice (pieceA a0 cap m) (len - m) (cap - m))) w) : wpPlan Try.prog ops Q S (.take i r) a w :=
  plan_take _ ho hw (fun wx _ => by
    have hr := (slice_run ty 5 hu infoB a0 len cap m len hm (Nat.le_refl _) hc wx).2.2
    unfold execOp
    simp only [hop, hx, hj, Option.map_some, Option.map_none, Sem.run_bind, hr, Result.andThen_ok, Sem.run_pure]) h
theorem sl_to {w : World} {a : Option Addr} {n cap m : Nat} {l : List (BitVec 8)} (h : Sl w (.slice a n cap) l) (hn : n = l.length) (hm : m ≤ n) : Sl w (.slice (pieceA a cap 0) m cap) (l.take m) := by
  subst hn
  have h1 := sl_piece h (Nat.zero_le m) hm
  rw [Nat.sub_zero, Nat.sub_zero, List.drop_zero] at h1
  exact h1
theorem sl_from {w : World} {a : Option Addr} {n cap m : Nat} {l : List (BitVec 8)} (h : Sl w (.slice a n cap) l) (hn : n = l.length) (hm : m ≤ n) : Sl w (.slice (pieceA a cap m) (n - m) (cap - m)) (l.drop m) := by
  subst hn
  have h1 := sl_piece h hm (Nat.le_refl _)
  rw [List.take_of_length_le (by rw [List.length_drop]; omega)] at h1
  exact h1
theorem elemRB : elemR Try.prog 27 5 (.int .u8 0) 1 1 := ⟨Try.underlying27, infoU8⟩
theorem plan_append_b {ops : Array Oper} {Q : Exit → Act → World → Prop} {S : World → Prop} {w : World} {a : Act} {o : Oper} {i : Nat} {r : Plan} (s x : Operand) (ho : ops.toList[i]? = some o) (hw : Region.wanted o (yielded ops a.tmps) = true) (hop : o.op = .call { callee := .builtin .append, args := #[s, x], argTypes := #[27, 27] })
    (B : Nat) (v vx : Value) (l m : List (BitVec 8)) (hs : a.eval s = v) (hown : OwnB w B v l) (hx : a.eval x = vx) (hsl : Sl w vx m) (hlen : l.length + m.length ≤ 140737488355328) (hB : B ≤ w.heap.size)
    (h : ∀ v' w', OwnB w' B v' (l ++ m) → (∀ k, k < w.heap.size → v.ownBlock ≠ some k → w'.heap[k]? = w.heap[k]?) → Below B w w' → S w' ∧ wpPlan Try.prog ops Q S r (a.put o.dst v') w') : wpPlan Try.prog ops Q S (.sole i r) a w := by
  refine wpOp_at ho hw ?_
  obtain ⟨v', w', hrun, h2, h3⟩ := run_append_bytes hown hsl hlen hB o.type
  unfold Oper.wp execOp
  simp only [hop, resolve, invoke, builtin, Sem.run_bind, Sem.run_pure, Result.andThen_ok, List.map_toArray, List.map_cons, List.map_nil, hs, hx, hrun]
  exact h v' w' h2 (fun k hk hne => h3.block k hk (fun e => hne e.symm)) ((Below.refl _ _).grown h3 hB (fun g hg => (hown.lt g hg).1))
set_option maxRecDepth 100000 in
set_option maxHeartbeats 1000000 in
theorem laid_any (b x : List (BitVec 8)) (k : Nat) (va vx : Value) (w : World) (hb : Sl w va b) (hx : Sl w vx x) (hk : k + x.length ≤ b.length) (hl : b.length ≤ 1000000) :
    Calls Try.prog 44 #[va, .int .i64 (k : Int), vx] w (PadEnd w (laidL b k x)) := by
  have hb0 := hb
  have hx0 := hx
  obtain ⟨a1, cap1, rfl, hc1, _⟩ := hb
  obtain ⟨a2, cap2, rfl, hc2, _⟩ := hx
  obtain ⟨m, hm⟩ : ∃ m, m = b.length := ⟨_, rfl⟩
  obtain ⟨n, hn⟩ : ∃ n, n = x.length := ⟨_, rfl⟩
  have hpt : ∀ wx, Below w.heap.size w wx → Sl wx (.slice (pieceA a1 cap1 0) k cap1) (b.take k) := fun wx h => (sl_to (m := k) hb0 rfl (by omega)).below h
  have hpf : ∀ wx, Below w.heap.size w wx → Sl wx (.slice (pieceA a1 cap1 (k + n)) (m - (k + n)) (cap1 - (k + n))) (b.drop (k + n)) := fun wx h => by rw [hm]; exact (sl_from (m := k + n) hb0 rfl (by omega)).below h
  have hxx : ∀ wx, Below w.heap.size w wx → Sl wx (.slice a2 n cap2) x := fun wx h => by rw [hn]; exact hx0.below h
  have l1 : (b.take k).length = k := by simp; omega
  have l2 : (b.drop (k + n)).length = m - (k + n) := by simp [hm]
  have hres : [] ++ b.take k ++ x ++ b.drop (k + n) = laidL b k x := by rw [laidL, hn]; simp
  rw [← hm] at hk hl hc1 ⊢
  rw [← hn] at hk hc2 ⊢
  have PT := Lib.hid hpt; have PF := Lib.hid hpf; have XX := Lib.hid hxx; have L1 := Lib.hid l1; have L2 := Lib.hid l2; have RES := Lib.hid hres; have HN := Lib.hid hn
  clear hpt hpf hxx l1 l2 hres hm hn hb0 hx0
  go_enter Try.func44, Try.ntmps44
  go_wp2_with fail
  refine wp_region_plan (.take 0 (.take 1 (.take 2 (.take 4 (.take 6 (.take 7 (.take 8 (.take 9 (.take 10 (.take 11 (.sole 3 (.sole 5 (.sole 12 (.take 13 .done)))))))))))))) (by kernel_rfl) (by kernel_rfl) (by kernel_rfl) ?_
  (first | (refine plan_move _ _ (by rfl) (by rfl) (.inl (by rfl)) (by first | (with_reducible exact Mem.ev_const _ _) | (with_reducible exact Mem.ev_zero _ _ _) | (with_reducible (apply Eq.trans (Mem.ev_tmp _ _ _)); simp only [List.getD_cons_succ, List.getD_cons_zero] <;> rfl)) ?_) | (refine plan_move _ _ (by rfl) (by rfl) (.inr (by rfl)) (by first | (with_reducible exact Mem.ev_const _ _) | (with_reducible exact Mem.ev_zero _ _ _) | (with_reducible (apply Eq.trans (Mem.ev_tmp _ _ _)); simp only [List.getD_cons_succ, List.getD_cons_zero] <;> rfl)) ?_) | (refine plan_pick_t _ _ _ _ (by rfl) (by rfl) (by rfl) (by first | (with_reducible exact Mem.ev_const _ _) | (with_reducible exact Mem.ev_zero _ _ _) | (with_reducible (apply Eq.trans (Mem.ev_tmp _ _ _)); simp only [List.getD_cons_succ, List.getD_cons_zero] <;> rfl)) (by first | (with_reducible exact Mem.ev_const _ _) | (with_reducible exact Mem.ev_zero _ _ _) | (with_reducible (apply Eq.trans (Mem.ev_tmp _ _ _)); simp only [List.getD_cons_succ, List.getD_cons_zero] <;> rfl)) ?_) | (refine plan_pick_f _ _ _ _ (by rfl) (by rfl) (by rfl) (by first | (with_reducible exact Mem.ev_const _ _) | (with_reducible exact Mem.ev_zero _ _ _) | (with_reducible (apply Eq.trans (Mem.ev_tmp _ _ _)); simp only [List.getD_cons_succ, List.getD_cons_zero] <;> rfl)) (by first | (with_reducible exact Mem.ev_const _ _) | (with_reducible exact Mem.ev_zero _ _ _) | (with_reducible (apply Eq.trans (Mem.ev_tmp _ _ _)); simp only [List.getD_cons_succ, List.getD_cons_zero] <;> rfl)) ?_))
  (simp only [Act.put, List.setIfInBounds_toArray, List.set_cons_zero, List.set_cons_succ])
  (first | (refine plan_move _ _ (by rfl) (by rfl) (.inl (by rfl)) (by first | (with_reducible exact Mem.ev_const _ _) | (with_reducible exact Mem.ev_zero _ _ _) | (with_reducible (apply Eq.trans (Mem.ev_tmp _ _ _)); simp only [List.getD_cons_succ, List.getD_cons_zero] <;> rfl)) ?_) | (refine plan_move _ _ (by rfl) (by rfl) (.inr (by rfl)) (by first | (with_reducible exact Mem.ev_const _ _) | (with_reducible exact Mem.ev_zero _ _ _) | (with_reducible (apply Eq.trans (Mem.ev_tmp _ _ _)); simp only [List.getD_cons_succ, List.getD_cons_zero] <;> rfl)) ?_) | (refine plan_pick_t _ _ _ _ (by rfl) (by rfl) (by rfl) (by first | (with_reducible exact Mem.ev_const _ _) | (with_reducible exact Mem.ev_zero _ _ _) | (with_reducible (apply Eq.trans (Mem.ev_tmp _ _ _)); simp only [List.getD_cons_succ, List.getD_cons_zero] <;> rfl)) (by first | (with_reducible exact Mem.ev_const _ _) | (with_reducible exact Mem.ev_zero _ _ _) | (with_reducible (apply Eq.trans (Mem.ev_tmp _ _ _)); simp only [List.getD_cons_succ, List.getD_cons_zero] <;> rfl)) ?_) | (refine plan_pick_f _ _ _ _ (by rfl) (by rfl) (by rfl) (by first | (with_reducible exact Mem.ev_const _ _) | (with_reducible exact Mem.ev_zero _ _ _) | (with_reducible (apply Eq.trans (Mem.ev_tmp _ _ _)); simp only [List.getD_cons_succ, List.getD_cons_zero] <;> rfl)) (by first | (with_reducible exact Mem.ev_const _ _) | (with_reducible exact Mem.ev_zero _ _ _) | (with_reducible (apply Eq.trans (Mem.ev_tmp _ _ _)); simp only [List.getD_cons_succ, List.getD_cons_zero] <;> rfl)) ?_))
  (simp only [Act.put, List.setIfInBounds_toArray, List.set_cons_zero, List.set_cons_succ])
  refine plan_piece_to 27 _ _ (by rfl) (by rfl) (by rfl) Try.underlying27 a1 m cap1 k (by first | (with_reducible exact Mem.ev_const _ _) | (with_reducible exact Mem.ev_zero _ _ _) | (with_reducible (apply Eq.trans (Mem.ev_tmp _ _ _)); simp only [List.getD_cons_succ, List.getD_cons_zero] <;> rfl)) (by first | (with_reducible exact Mem.ev_const _ _) | (with_reducible exact Mem.ev_zero _ _ _) | (with_reducible (apply Eq.trans (Mem.ev_tmp _ _ _)); simp only [List.getD_cons_succ, List.getD_cons_zero] <;> rfl)) (by omega) (by omega) ?_
  (simp only [Act.put, List.setIfInBounds_toArray, List.set_cons_zero, List.set_cons_succ])
  (first | (refine plan_move _ _ (by rfl) (by rfl) (.inl (by rfl)) (by first | (with_reducible exact Mem.ev_const _ _) | (with_reducible exact Mem.ev_zero _ _ _) | (with_reducible (apply Eq.trans (Mem.ev_tmp _ _ _)); simp only [List.getD_cons_succ, List.getD_cons_zero] <;> rfl)) ?_) | (refine plan_move _ _ (by rfl) (by rfl) (.inr (by rfl)) (by first | (with_reducible exact Mem.ev_const _ _) | (with_reducible exact Mem.ev_zero _ _ _) | (with_reducible (apply Eq.trans (Mem.ev_tmp _ _ _)); simp only [List.getD_cons_succ, List.getD_cons_zero] <;> rfl)) ?_) | (refine plan_pick_t _ _ _ _ (by rfl) (by rfl) (by rfl) (by first | (with_reducible exact Mem.ev_const _ _) | (with_reducible exact Mem.ev_zero _ _ _) | (with_reducible (apply Eq.trans (Mem.ev_tmp _ _ _)); simp only [List.getD_cons_succ, List.getD_cons_zero] <;> rfl)) (by first | (with_reducible exact Mem.ev_const _ _) | (with_reducible exact Mem.ev_zero _ _ _) | (with_reducible (apply Eq.trans (Mem.ev_tmp _ _ _)); simp only [List.getD_cons_succ, List.getD_cons_zero] <;> rfl)) ?_) | (refine plan_pick_f _ _ _ _ (by rfl) (by rfl) (by rfl) (by first | (with_reducible exact Mem.ev_const _ _) | (with_reducible exact Mem.ev_zero _ _ _) | (with_reducible (apply Eq.trans (Mem.ev_tmp _ _ _)); simp only [List.getD_cons_succ, List.getD_cons_zero] <;> rfl)) (by first | (with_reducible exact Mem.ev_const _ _) | (with_reducible exact Mem.ev_zero _ _ _) | (with_reducible (apply Eq.trans (Mem.ev_tmp _ _ _)); simp only [List.getD_cons_succ, List.getD_cons_zero] <;> rfl)) ?_))
  (simp only [Act.put, List.setIfInBounds_toArray, List.set_cons_zero, List.set_cons_succ])
  (first | (refine plan_move _ _ (by rfl) (by rfl) (.inl (by rfl)) (by first | (with_reducible exact Mem.ev_const _ _) | (with_reducible exact Mem.ev_zero _ _ _) | (with_reducible (apply Eq.trans (Mem.ev_tmp _ _ _)); simp only [List.getD_cons_succ, List.getD_cons_zero] <;> rfl)) ?_) | (refine plan_move _ _ (by rfl) (by rfl) (.inr (by rfl)) (by first | (with_reducible exact Mem.ev_const _ _) | (with_reducible exact Mem.ev_zero _ _ _) | (with_reducible (apply Eq.trans (Mem.ev_tmp _ _ _)); simp only [List.getD_cons_succ, List.getD_cons_zero] <;> rfl)) ?_) | (refine plan_pick_t _ _ _ _ (by rfl) (by rfl) (by rfl) (by first | (with_reducible exact Mem.ev_const _ _) | (with_reducible exact Mem.ev_zero _ _ _) | (with_reducible (apply Eq.trans (Mem.ev_tmp _ _ _)); simp only [List.getD_cons_succ, List.getD_cons_zero] <;> rfl)) (by first | (with_reducible exact Mem.ev_const _ _) | (with_reducible exact Mem.ev_zero _ _ _) | (with_reducible (apply Eq.trans (Mem.ev_tmp _ _ _)); simp only [List.getD_cons_succ, List.getD_cons_zero] <;> rfl)) ?_) | (refine plan_pick_f _ _ _ _ (by rfl) (by rfl) (by rfl) (by first | (with_reducible exact Mem.ev_const _ _) | (with_reducible exact Mem.ev_zero _ _ _) | (with_reducible (apply Eq.trans (Mem.ev_tmp _ _ _)); simp only [List.getD_cons_succ, List.getD_cons_zero] <;> rfl)) (by first | (with_reducible exact Mem.ev_const _ _) | (with_reducible exact Mem.ev_zero _ _ _) | (with_reducible (apply Eq.trans (Mem.ev_tmp _ _ _)); simp only [List.getD_cons_succ, List.getD_cons_zero] <;> rfl)) ?_))
  (simp only [Act.put, List.setIfInBounds_toArray, List.set_cons_zero, List.set_cons_succ])
  (first | (refine plan_move _ _ (by rfl) (by rfl) (.inl (by rfl)) (by first | (with_reducible exact Mem.ev_const _ _) | (with_reducible exact Mem.ev_zero _ _ _) | (with_reducible (apply Eq.trans (Mem.ev_tmp _ _ _)); simp only [List.getD_cons_succ, List.getD_cons_zero] <;> rfl)) ?_) | (refine plan_move _ _ (by rfl) (by rfl) (.inr (by rfl)) (by first | (with_reducible exact Mem.ev_const _ _) | (with_reducible exact Mem.ev_zero _ _ _) | (with_reducible (apply Eq.trans (Mem.ev_tmp _ _ _)); simp only [List.getD_cons_succ, List.getD_cons_zero] <;> rfl)) ?_) | (refine plan_pick_t _ _ _ _ (by rfl) (by rfl) (by rfl) (by first | (with_reducible exact Mem.ev_const _ _) | (with_reducible exact Mem.ev_zero _ _ _) | (with_reducible (apply Eq.trans (Mem.ev_tmp _ _ _)); simp only [List.getD_cons_succ, List.getD_cons_zero] <;> rfl)) (by first | (with_reducible exact Mem.ev_const _ _) | (with_reducible exact Mem.ev_zero _ _ _) | (with_reducible (apply Eq.trans (Mem.ev_tmp _ _ _)); simp only [List.getD_cons_succ, List.getD_cons_zero] <;> rfl)) ?_) | (refine plan_pick_f _ _ _ _ (by rfl) (by rfl) (by rfl) (by first | (with_reducible exact Mem.ev_const _ _) | (with_reducible exact Mem.ev_zero _ _ _) | (with_reducible (apply Eq.trans (Mem.ev_tmp _ _ _)); simp only [List.getD_cons_succ, List.getD_cons_zero] <;> rfl)) (by first | (with_reducible exact Mem.ev_const _ _) | (with_reducible exact Mem.ev_zero _ _ _) | (with_reducible (apply Eq.trans (Mem.ev_tmp _ _ _)); simp only [List.getD_cons_succ, List.getD_cons_zero] <;> rfl)) ?_))
  (simp only [Act.put, List.setIfInBounds_toArray, List.set_cons_zero, List.set_cons_succ])
  (first | (refine plan_move _ _ (by rfl) (by rfl) (.inl (by rfl)) (by first | (with_reducible exact Mem.ev_const _ _) | (with_reducible exact Mem.ev_zero _ _ _) | (with_reducible (apply Eq.trans (Mem.ev_tmp _ _ _)); simp only [List.getD_cons_succ, List.getD_cons_zero] <;> rfl)) ?_) | (refine plan_move _ _ (by rfl) (by rfl) (.inr (by rfl)) (by first | (with_reducible exact Mem.ev_const _ _) | (with_reducible exact Mem.ev_zero _ _ _) | (with_reducible (apply Eq.trans (Mem.ev_tmp _ _ _)); simp only [List.getD_cons_succ, List.getD_cons_zero] <;> rfl)) ?_) | (refine plan_pick_t _ _ _ _ (by rfl) (by rfl) (by rfl) (by first | (with_reducible exact Mem.ev_const _ _) | (with_reducible exact Mem.ev_zero _ _ _) | (with_reducible (apply Eq.trans (Mem.ev_tmp _ _ _)); simp only [List.getD_cons_succ, List.getD_cons_zero] <;> rfl)) (by first | (with_reducible exact Mem.ev_const _ _) | (with_reducible exact Mem.ev_zero _ _ _) | (with_reducible (apply Eq.trans (Mem.ev_tmp _ _ _)); simp only [List.getD_cons_succ, List.getD_cons_zero] <;> rfl)) ?_) | (refine plan_pick_f _ _ _ _ (by rfl) (by rfl) (by rfl) (by first | (with_reducible exact Mem.ev_const _ _) | (with_reducible exact Mem.ev_zero _ _ _) | (with_reducible (apply Eq.trans (Mem.ev_tmp _ _ _)); simp only [List.getD_cons_succ, List.getD_cons_zero] <;> rfl)) (by first | (with_reducible exact Mem.ev_const _ _) | (with_reducible exact Mem.ev_zero _ _ _) | (with_reducible (apply Eq.trans (Mem.ev_tmp _ _ _)); simp only [List.getD_cons_succ, List.getD_cons_zero] <;> rfl)) ?_))
  (simp only [Act.put, List.setIfInBounds_toArray, List.set_cons_zero, List.set_cons_succ])
  refine plan_len _ _ _ a2 n cap2 (by rfl) (by rfl) (by rfl) (by rfl) (by first | (with_reducible exact Mem.ev_const _ _) | (with_reducible exact Mem.ev_zero _ _ _) | (with_reducible (apply Eq.trans (Mem.ev_tmp _ _ _)); simp only [List.getD_cons_succ, List.getD_cons_zero] <;> rfl)) (fun wx => by go_simp) ?_
  (simp only [Act.put, List.setIfInBounds_toArray, List.set_cons_zero, List.set_cons_succ])
  refine plan_bin _ _ _ _ _ _ _ _ (by rfl) (by rfl) (by rfl) (by first | (with_reducible exact Mem.ev_const _ _) | (with_reducible exact Mem.ev_zero _ _ _) | (with_reducible (apply Eq.trans (Mem.ev_tmp _ _ _)); simp only [List.getD_cons_succ, List.getD_cons_zero] <;> rfl)) (by first | (with_reducible exact Mem.ev_const _ _) | (with_reducible exact Mem.ev_zero _ _ _) | (with_reducible (apply Eq.trans (Mem.ev_tmp _ _ _)); simp only [List.getD_cons_succ, List.getD_cons_zero] <;> rfl)) (fun wx => o_iadd _ _ _ _ (k : Int) (n : Int) ((k + n : Nat) : Int) (by omega) (by omega) (by omega) wx) ?_
  (simp only [Act.put, List.setIfInBounds_toArray, List.set_cons_zero, List.set_cons_succ])
  refine plan_piece_from 27 _ _ (by rfl) (by rfl) (by rfl) Try.underlying27 a1 m cap1 (k + n) (by first | (with_reducible exact Mem.ev_const _ _) | (with_reducible exact Mem.ev_zero _ _ _) | (with_reducible (apply Eq.trans (Mem.ev_tmp _ _ _)); simp only [List.getD_cons_succ, List.getD_cons_zero] <;> rfl)) (by first | (with_reducible exact Mem.ev_const _ _) | (with_reducible exact Mem.ev_zero _ _ _) | (with_reducible (apply Eq.trans (Mem.ev_tmp _ _ _)); simp only [List.getD_cons_succ, List.getD_cons_zero] <;> rfl)) (by omega) (by omega) ?_
  (simp only [Act.put, List.setIfInBounds_toArray, List.set_cons_zero, List.set_cons_succ])
  refine plan_append_b _ _ (by rfl) (by rfl) (by rfl) w.heap.size (.slice none 0 0) (.slice (pieceA a1 cap1 0) k cap1) [] (b.take k) (by rfl) (OwnB.nil _ _) (by first | (with_reducible exact Mem.ev_const _ _) | (with_reducible exact Mem.ev_zero _ _ _) | (with_reducible (apply Eq.trans (Mem.ev_tmp _ _ _)); simp only [List.getD_cons_succ, List.getD_cons_zero] <;> rfl)) (PT.out _ (Below.refl _ _).drew) (by rw [List.length_nil, L1.out]; omega) (Nat.le_refl _) ?_
  intro v5 w5 ho5 _ hb5
  have b5 := Lib.hid ((Below.refl w.heap.size w).drew.trans hb5); have O5 := Lib.hid ho5; clear ho5 hb5
  refine ⟨b5.out, ?_⟩
  (simp only [Act.put, List.setIfInBounds_toArray, List.set_cons_zero, List.set_cons_succ])
  refine plan_append_b _ _ (by rfl) (by rfl) (by rfl) w.heap.size v5 (.slice a2 n cap2) ([] ++ b.take k) x (by first | (with_reducible exact Mem.ev_const _ _) | (with_reducible exact Mem.ev_zero _ _ _) | (with_reducible (apply Eq.trans (Mem.ev_tmp _ _ _)); simp only [List.getD_cons_succ, List.getD_cons_zero] <;> rfl)) O5.out (by first | (with_reducible exact Mem.ev_const _ _) | (with_reducible exact Mem.ev_zero _ _ _) | (with_reducible (apply Eq.trans (Mem.ev_tmp _ _ _)); simp only [List.getD_cons_succ, List.getD_cons_zero] <;> rfl)) (XX.out _ b5.out) (by rw [List.nil_append, L1.out, ← HN.out]; omega) b5.out.size ?_
  intro v6 w6 ho6 _ hb6
  have b6 := Lib.hid (b5.out.trans hb6); have O6 := Lib.hid ho6; clear ho6 hb6
  refine ⟨b6.out, ?_⟩
  (simp only [Act.put, List.setIfInBounds_toArray, List.set_cons_zero, List.set_cons_succ])
  refine plan_append_b _ _ (by rfl) (by rfl) (by rfl) w.heap.size v6 (.slice (pieceA a1 cap1 (k + n)) (m - (k + n)) (cap1 - (k + n))) ([] ++ b.take k ++ x) (b.drop (k + n)) (by first | (with_reducible exact Mem.ev_const _ _) | (with_reducible exact Mem.ev_zero _ _ _) | (with_reducible (apply Eq.trans (Mem.ev_tmp _ _ _)); simp only [List.getD_cons_succ, List.getD_cons_zero] <;> rfl)) O6.out (by first | (with_reducible exact Mem.ev_const _ _) | (with_reducible exact Mem.ev_zero _ _ _) | (with_reducible (apply Eq.trans (Mem.ev_tmp _ _ _)); simp only [List.getD_cons_succ, List.getD_cons_zero] <;> rfl)) (PF.out _ b6.out) (by rw [List.nil_append, List.length_append, L1.out, L2.out, ← HN.out]; omega) b6.out.size ?_
  intro v7 w7 ho7 _ hb7
  have b7 := Lib.hid (b6.out.trans hb7); have O7 := Lib.hid ho7; clear ho7 hb7
  refine ⟨b7.out, ?_⟩
  (simp only [Act.put, List.setIfInBounds_toArray, List.set_cons_zero, List.set_cons_succ])
  (first | (refine plan_move _ _ (by rfl) (by rfl) (.inl (by rfl)) (by first | (with_reducible exact Mem.ev_const _ _) | (with_reducible exact Mem.ev_zero _ _ _) | (with_reducible (apply Eq.trans (Mem.ev_tmp _ _ _)); simp only [List.getD_cons_succ, List.getD_cons_zero] <;> rfl)) ?_) | (refine plan_move _ _ (by rfl) (by rfl) (.inr (by rfl)) (by first | (with_reducible exact Mem.ev_const _ _) | (with_reducible exact Mem.ev_zero _ _ _) | (with_reducible (apply Eq.trans (Mem.ev_tmp _ _ _)); simp only [List.getD_cons_succ, List.getD_cons_zero] <;> rfl)) ?_) | (refine plan_pick_t _ _ _ _ (by rfl) (by rfl) (by rfl) (by first | (with_reducible exact Mem.ev_const _ _) | (with_reducible exact Mem.ev_zero _ _ _) | (with_reducible (apply Eq.trans (Mem.ev_tmp _ _ _)); simp only [List.getD_cons_succ, List.getD_cons_zero] <;> rfl)) (by first | (with_reducible exact Mem.ev_const _ _) | (with_reducible exact Mem.ev_zero _ _ _) | (with_reducible (apply Eq.trans (Mem.ev_tmp _ _ _)); simp only [List.getD_cons_succ, List.getD_cons_zero] <;> rfl)) ?_) | (refine plan_pick_f _ _ _ _ (by rfl) (by rfl) (by rfl) (by first | (with_reducible exact Mem.ev_const _ _) | (with_reducible exact Mem.ev_zero _ _ _) | (with_reducible (apply Eq.trans (Mem.ev_tmp _ _ _)); simp only [List.getD_cons_succ, List.getD_cons_zero] <;> rfl)) (by first | (with_reducible exact Mem.ev_const _ _) | (with_reducible exact Mem.ev_zero _ _ _) | (with_reducible (apply Eq.trans (Mem.ev_tmp _ _ _)); simp only [List.getD_cons_succ, List.getD_cons_zero] <;> rfl)) ?_))
  (simp only [Act.put, List.setIfInBounds_toArray, List.set_cons_zero, List.set_cons_succ])
  refine plan_nil ?_
  go_wp2_with fail
  go_ret
  exact ⟨_, rfl, by rw [← RES.out]; exact O7.out, b7.out⟩
def zeroSt : Array Value := #[.int .i64 0, .slice none 0 0, .slice none 0 0, .slice none 0 0, .slice none 0 0]
theorem infoSt6 : (Try.prog.info? 32).map (·.size) = some 5 := by kernel_rfl
set_option maxRecDepth 100000 in
set_option maxHeartbeats 1000000 in
theorem rnew_bad (n : Int) (w : World) (hn : n < 1 ∨ 1024 < n) : Calls Try.prog 8 #[.int .i64 n] w fun e w' => e = .returned (.tuple #[.agg zeroSt, .int .i64 1]) ∧ Below w.heap.size w w' := by
  have a0 : At (w.alloc (.cells zeroSt 32)) w.heap.size zeroSt 32 := at_new w _ _
  have b0 : Below w.heap.size w (w.alloc (.cells zeroSt 32)) := (Below.refl _ _).alloc (Nat.le_refl _) _
  have A0 := Lib.hid a0; have B0 := Lib.hid b0
  clear a0 b0
  by_cases h1 : n < 1
  · clear hn
    go_enter Try.func8, Try.ntmps8
    go_wp2_with fail
    refine ret_row_tmp (by rfl) w.heap.size 32 zeroSt _ _ (by rfl) (by rfl) A0.out Try.underlying32 (by rfl) infoSt6 ?_
    exact ⟨rfl, B0.out⟩
  · have h2 : (1024 : Int) < n := by omega
    clear hn
    go_enter Try.func8, Try.ntmps8
    go_wp2_with fail
    refine ret_row_tmp (by rfl) w.heap.size 32 zeroSt _ _ (by rfl) (by rfl) A0.out Try.underlying32 (by rfl) infoSt6 ?_
    exact ⟨rfl, B0.out⟩
set_option maxRecDepth 100000 in
set_option maxHeartbeats 1000000 in
theorem rnew_good (n : Nat) (w : World) (h1 : 1 ≤ n) (h2 : n ≤ 1024) : Calls Try.prog 8 #[.int .i64 (n : Int)] w fun e w' => ∃ vb, e = .returned (.tuple #[.agg (stRow n vb (.slice none 0 0) (.slice none 0 0) (.slice none 0 0)), .int .i64 0]) ∧ OwnB w' w.heap.size vb (List.replicate (n * 256) 0) ∧ Below w.heap.size w w' := by
  have a0 : At (w.alloc (.cells zeroSt 32)) w.heap.size zeroSt 32 := at_new w _ _
  have b0 : Below w.heap.size w (w.alloc (.cells zeroSt 32)) := (Below.refl _ _).alloc (Nat.le_refl _) _
  obtain ⟨i8, hi8, hz8, hs8, hb8⟩ := info_parts infoU8
  have g1 : ¬ (n : Int) < 1 := by omega
  have g2 : ¬ (1024 : Int) < (n : Int) := by omega
  obtain ⟨T, hT⟩ : ∃ T, T = n * 256 := ⟨_, rfl⟩
  have hTi : (n : Int) * 256 = (T : Int) := by omega
  have hT6 : T ≤ 262144 := by omega
  rw [← hT]
  have A0 := Lib.hid a0; have B0 := Lib.hid b0
  have I8 := Lib.hid hi8; have Z8 := Lib.hid hz8; have S8 := Lib.hid hs8; have B8' := Lib.hid hb8; have TI := Lib.hid hTi
  clear a0 b0 hi8 hz8 hs8 hb8 hT hTi
  go_enter Try.func8, Try.ntmps8
  go_wp2_with (first
    | (refine wpList_make_full _ (by rfl) _ _ 27 (by rfl) (w.alloc (.cells zeroSt 32)).heap.size 5 i8 (.int .u8 0) 1 Try.underlying27 I8.out Z8.out S8.out .i64 .i64 ((n : Int) * 256) ((n : Int) * 256) T (by rfl) (by rfl) TI.out TI.out (by rw [B8'.out]; omega) (by simp [maxLen]; omega) (Nat.le_refl _) ?_; intro w4 ho4 hg4; have R4 : Hid (At w4 (w.alloc (.cells zeroSt 32)).heap.size (u8s (List.replicate T 0)).toArray 5) := (by have h := own_full ho4; rw [made_zeros] at h; exact h); have O4 := Lib.hid ho4; have A4 : Hid (At w4 w.heap.size zeroSt 32) := (by have h := A0.out; have hl := h.lt; unfold At at *; show w4.heap[w.heap.size]? = _; rw [hg4.block _ hl (by simp)]; exact h); have B4 : Hid (Below w.heap.size w w4) := B0.out.grown hg4 B0.out.size (fun _ h => by cases h); clear ho4 hg4)
    | (refine wpList_store_all (by rfl) 32 _ _ (by rfl) (by rfl) w.heap.size (stRow n (.slice (some ⟨w.heap.size + 1, 0, none⟩) T T) (.slice none 0 0) (.slice none 0 0) (.slice none 0 0)) (by rfl) (by rfl) (by exact infoSt6) zeroSt 32 A4.out (by rfl) (by simp [stRow, Value.oneCell']) ?_))
  obtain ⟨D, hD⟩ : ∃ D, D = stRow n (.slice (some ⟨w.heap.size + 1, 0, none⟩) T T) (.slice none 0 0) (.slice none 0 0) (.slice none 0 0) := ⟨_, rfl⟩
  have hDs : D.size = 5 := by rw [hD]; rfl
  rw [← hD]
  refine ret_row_tmp (by rfl) w.heap.size 32 D _ _ (by rfl) (by rfl) (A4.out.row D) Try.underlying32 (by rfl) (by rw [hDs]; exact infoSt6) ?_
  refine ⟨.slice (some ⟨w.heap.size + 1, 0, none⟩) T T, by rw [hD]; rfl, ?_, below_row B4.out (Nat.le_refl _) D⟩
  have h := ownsRow_base (B' := w.heap.size) O4.out (by simp)
  rw [made_zeros] at h
  unfold OwnB
  rw [List.length_replicate]
  refine ownsRow_keep (by simpa using h) fun g hg => ?_
  have hgg : w.heap.size + 1 = g := by simpa [Value.ownBlock] using hg
  exact setRow_other w4 w.heap.size g D (by omega)
/-- What is read of a block: the last write that waits, of the first so many. -/
def readTo (n : Nat) (d : List (BitVec 8)) (l : List (Nat × List (BitVec 8))) : Nat → List (BitVec 8)
  | 0 => d
  | j + 1 => if (l.getD j (0, [])).1 = n then (l.getD j (0, [])).2 else readTo n d l j
def blkOf (b : List (BitVec 8)) (n : Nat) : List (BitVec 8) := (b.drop (n * 256)).take 256
abbrev rq (br : Nat) : Value := .pointer (some ⟨br, 0, none⟩)
/-- One of the writes that wait, in memory. -/
theorem wput_at {G : Foot} {w : World} {a : Option Addr} {cap n : Nat} {l : List (Nat × List (BitVec 8))} (h : WPut G w (.slice a n cap) l) {j : Nat} (hj : j < l.length) :
    ∃ b o vh, a = some ⟨b, o, none⟩ ∧ G b ∧ w.cell? ⟨b, o + j * 2, none⟩ = some (.int .i64 (((l.getD j (0, [])).1 : Nat) : Int)) ∧ w.cell? ⟨b, o + j * 2 + 1, none⟩ = some vh ∧ SlB G w vh (l.getD j (0, [])).2 := by
  obtain ⟨ws, h1, h2⟩ := h
  have hn : n = l.length := by obtain ⟨_, _, _, e, _⟩ := h2; injection e
  subst hn
  obtain ⟨b, o, ea, hG, hc⟩ := slR_at h2 hj
  obtain ⟨p, hp, hp1, hp2⟩ := h1.at (List.getElem?_eq_getElem hj)
  obtain ⟨q1, q2⟩ := putC_at ws j p hp
  have e : l.getD j (0, []) = l[j] := by simp [List.getD_eq_getElem?_getD, hj]
  rw [e]
  exact ⟨b, o, p.2, ea, hG, by rw [← hp1, ← q1, Nat.mul_comm]; exact hc 0 (by decide), by rw [← q2, Nat.mul_comm, Nat.add_assoc]; exact hc 1 (by decide), hp2⟩
set_option maxRecDepth 100000 in
set_option maxHeartbeats 1000000 in
theorem rread_bad {F : Foot} {br : Nat} {s : St6} (n : Int) (w : World) (hr : RSt F br w s) (_hb : s.n ≤ 1024) (hn : n < 0 ∨ (s.n : Int) ≤ n) :
    Calls Try.prog 27 #[rq br, .int .i64 n] w fun e w' => e = .returned (.tuple #[.slice none 0 0, .int .i64 1]) ∧ w = w' := by
  obtain ⟨vb, vw, vs, vt, hat, _⟩ := hr.h
  obtain ⟨N, hN⟩ : ∃ N, N = s.n := ⟨_, rfl⟩
  rw [← hN] at hn hat _hb
  have c0 : w.cell? ⟨br, 0, none⟩ = some (.int .i64 (N : Int)) := by rw [hat.cell]; rfl
  clear hat hr hN
  by_cases h1 : n < 0
  · clear hn
    go_enter Try.func27, Try.ntmps27
    go_wp2
    go_ret2
    exact ⟨rfl, rfl⟩
  · have h2 : (N : Int) ≤ n := by omega
    clear hn
    go_enter Try.func27, Try.ntmps27
    go_wp2
    go_ret2
    exact ⟨rfl, rfl⟩
set_option maxRecDepth 100000 in
set_option maxHeartbeats 2000000 in
theorem rread_good {F : Foot} {br : Nat} {s : St6} (n : Nat) (w : World) (hr : RSt F br w s) (hb : s.n ≤ 1024) (hn : n < s.n) (hl : s.b.length = s.n * 256) (hw : s.w.length ≤ 1000000) :
    Calls Try.prog 27 #[rq br, .int .i64 (n : Int)] w fun e w' => (∃ v, e = .returned (.tuple #[v, .int .i64 0]) ∧ Sl w v (readTo n (blkOf s.b n) s.w s.w.length)) ∧ w = w' := by
  obtain ⟨vb, vw, vs, vt, hat, hf⟩ := hr.h
  obtain ⟨N, hN⟩ : ∃ N, N = s.n := ⟨_, rfl⟩
  obtain ⟨ab, capb, rfl⟩ := hf.fb.hd
  obtain ⟨aw, capw, rfl⟩ := hf.fw.hd
  obtain ⟨T, hT⟩ : ∃ T, T = s.b.length := ⟨_, rfl⟩
  obtain ⟨M, hM⟩ : ∃ M, M = s.w.length := ⟨_, rfl⟩
  have hsl := hf.fb.sl
  have hwp := hf.fw
  rw [← hN] at hn hat hb hl
  rw [← hT] at hat hl hsl
  rw [← hM] at hat hw hwp ⊢
  have c0 : w.cell? ⟨br, 0, none⟩ = some (.int .i64 (N : Int)) := by rw [hat.cell]; rfl
  have c1 : w.cell? ⟨br, 1, none⟩ = some (.slice ab T capb) := by rw [hat.cell]; rfl
  have c2 : w.cell? ⟨br, 2, none⟩ = some (.slice aw M capw) := by rw [hat.cell]; rfl
  have g1 : ¬ (N : Int) ≤ (n : Int) := by omega
  have hk2 : n * 256 + 256 ≤ T := by omega
  have hi1 : (n : Int) * 256 = ((n * 256 : Nat) : Int) := by omega
  have hi2 : (n : Int) * 256 + 256 = ((n * 256 + 256 : Nat) : Int) := by omega
  have hpe : (s.b.drop (n * 256)).take (n * 256 + 256 - n * 256) = blkOf s.b n := by rw [Nat.add_sub_cancel_left]; rfl
  have SL := Lib.hid hsl; have WP := Lib.hid hwp; have HT := Lib.hid hT; have HM := Lib.hid hM; have K2 := Lib.hid hk2; have I1 := Lib.hid hi1; have I2 := Lib.hid hi2; have PE := Lib.hid hpe
  clear hf hr hat hsl hwp hT hM hN hl hk2 hi1 hi2 hpe
  go_enter Try.func27, Try.ntmps27
  go_wp2_with (refine wpList_piece (by rfl) 27 _ _ _ (by rfl) Try.underlying27 ab T capb (n * 256) (n * 256 + 256) s.b HT.out.symm (by rfl) SL.out (by rw [← I1.out]; rfl) (by rw [← I2.out]; rfl) (by omega) K2.out ?_; intro hp; rw [PE.out, Nat.add_sub_cancel_left] at hp; have P1 := Lib.hid hp; clear hp)
  go_loop [6, 7] (fun vo i => ∃ j : Nat, j ≤ M ∧ i = .int .i64 j ∧ Hid (Sl w vo (readTo n (blkOf s.b n) s.w j))) (fun _ i => M - (intOf i).toNat)
  case atStart => exact ⟨0, by omega, rfl, P1⟩
  case round =>
    obtain ⟨j, hj, rfl, hI⟩ := hrel
    by_cases hlt : j < M
    · obtain ⟨b1, o1, vh, rfl, _, cn, ch, hsh⟩ := wput_at WP.out (j := j) (by rw [← HM.out]; exact hlt)
      have hlt' : (j : Int) < (M : Int) := by omega
      have hst : readTo n (blkOf s.b n) s.w (j + 1) = if (s.w.getD j (0, [])).1 = n then (s.w.getD j (0, [])).2 else readTo n (blkOf s.b n) s.w j := rfl
      obtain ⟨q, hq⟩ : ∃ q, q = (s.w.getD j (0, [])).1 := ⟨_, rfl⟩
      rw [← hq] at cn hst
      have hsl := hsh.sl
      obtain ⟨a3, cap3, rfl⟩ := hsh.hd
      obtain ⟨L3, hL3⟩ : ∃ L3, L3 = (s.w.getD j (0, [])).2.length := ⟨_, rfl⟩
      rw [← hL3] at ch hsl
      by_cases hqn : q = n
      · rw [if_pos hqn] at hst
        rw [← hst] at hsl
        have hqi : (q : Int) = (n : Int) := by omega
        rw [hqi] at cn
        have NX := Lib.hid hsl
        clear hst hsl hsh hq hqn hqi hI hL3
        go_wp2
        go_round
        case rel => exact ⟨j + 1, by omega, by go_num, NX⟩
        case measure => simp [intOf]; omega
      · rw [if_neg hqn] at hst
        rw [← hst] at hI
        have hqi : ¬ (q : Int) = (n : Int) := by omega
        clear hst hsl hsh hq hqn ch hL3
        go_wp2
        go_round
        case rel => exact ⟨j + 1, by omega, by go_num, hI⟩
        case measure => simp [intOf]; omega
    · have hjm : j = M := by omega
      have hge : ¬ (j : Int) < (M : Int) := by omega
      rw [hjm] at hI
      clear hjm hlt hj
      go_wp2
      go_ret2
      exact ⟨⟨_, rfl, hI.out⟩, rfl⟩
end Sha
end Go.Proofs.Ytkgpcgkikenljaa
