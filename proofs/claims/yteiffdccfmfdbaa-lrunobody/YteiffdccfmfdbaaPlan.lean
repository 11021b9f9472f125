/- A region that draws its order, walked by a plan: what yields one value in every world of a class is taken first, what comes up alone is carried out. Over any program. -/
import Derived.Test.YteiffdccfmfdbaaMem
import Derived.Deep.RegionHeld3
import Derived.NoCompiler
import Derived.Great.Walk
import Derived.Stop.BytesEq
namespace Go.Proofs.Yteiffdccfmfdbaa
namespace Mem
open Go.RowKit
section
variable {P : Program} {ops : Array Oper} {md : Region.Mode} {Q : Exit → Act → World → Prop} {S : World → Prop}

theorem ev_tmp (l : List Value) (d : List Deferred) (t : Nat) : (⟨l.toArray, d⟩ : Act).eval (.tmp t) = l.getD t undef := by simp [Act.eval]
theorem ev_zero (v : Value) (l : List Value) (d : List Deferred) : (⟨(v :: l).toArray, d⟩ : Act).eval (.tmp 0) = v := by simp [Act.eval]
theorem ev_none (a : Act) : (#[] : Array Operand).map a.eval = #[] := Array.map_empty
theorem ev_const (a : Act) (v : Value) : a.eval (.const v) = v := rfl
/-- An operand's value, found as it is asked for. -/
theorem ev_a {a : Act} {x : Operand} {v : Value} (h : a.eval x = v := by first | (with_reducible exact Mem.ev_const _ _) | (with_reducible exact Mem.ev_zero _ _ _) | (with_reducible (apply Eq.trans (Mem.ev_tmp _ _ _)); simp only [List.getD_cons_succ, List.getD_cons_zero] <;> rfl)) : a.eval x = v := h
theorem ev_global (a : Act) (g : Nat) : a.eval (.global g) = .pointer (some ⟨g, 0, none⟩) := rfl
theorem u64_in (n : Nat) (h : n < 18446744073709551616) : IntKind.u64.wrap (n : Int) = (n : Int) := by
  simp [IntKind.wrap, IntKind.bits, IntKind.signed]; omega
/-- A cell of an array by value. -/
theorem run_index_row {P : Program} {ty e : TypeId} {n : Nat} (hu : P.underlying ty = some (.array n e)) {de : TypeDesc} (he : P.underlying e = some de) (hde : de.isRow = false) (hs : (P.info? e).map (·.size) = some 1) (C : Array Value) (k : Nat) (hk : k < n) (v : Value) (hv : C[k]? = some v) (w : World) :
    (Instr.index ty (.agg C) (.int .i64 (k : Int))).run P w = .ok v w := by
  have hagg : (isAgg e).run P w = .ok false w := by
    unfold isAgg
    rw [Sem.run_bind, run_underlying he w]
    cases de <;> simp_all
  cases hq : P.info? e with
  | none => simp [hq] at hs
  | some q =>
    have hs1 : q.size = 1 := by simpa [hq] using hs
    simp [Instr.index, asIntOf, Sem.run_bind, run_underlying hu, sizeOf, typeInfo, hq, hs1, hk, part, hagg, hv]
/-- An operation on two values in a plain region, guarded or not. -/
theorem wpList_bin {P : Program} {ops : Array Oper} {rest : List Oper} {o : Oper} {a : Act} {w : World} {Q : Exit → Act → World → Prop} (hw : Region.wanted o (yielded ops a.tmps) = true) (op : BinOp) (t t2 : TypeId) (x y : Operand) (vx vy v : Value)
    (hop : o.op = .binOp op t x y t2) (hx : a.eval x = vx) (hy : a.eval y = vy) (hv : ∀ w', (do eqGuard op t x y vx vy; binOp op t vx vy : Sem Value).run P w' = .ok v w') (h : wpList P ops Q rest (a.put o.dst v) w) : wpList P ops Q (o :: rest) a w := by
  unfold wpList
  rw [if_pos hw]
  left
  unfold Oper.wp
  have : (execOp a.eval o).run P w = .ok (.value v) w := by
    have := hv w
    simp only [execOp, hop, hx, hy]
    rw [Sem.run_bind, this]; rfl
  rw [this]
  exact h
/-- In which order the operations are walked: number i is taken first; it comes up alone; one of two, of three comes up. -/
inductive Plan where
  | done
  | take (i : Nat) (r : Plan)
  | sole (i : Nat) (r : Plan)
  | two (i j : Nat) (r s : Plan)
  | three (i j k : Nat) (r s t : Plan)
  | narrow (r : Plan)   -- from here on a narrower class of worlds
/-- Does it serve? -/
def planB (md : Region.Mode) (ops : Array Oper) : Plan → Nat → Array Bool → Bool
  | .done, _, listed => (Region.ready md ops listed).isEmpty
  | .take i r, n + 1, listed => (Region.ready md ops listed).contains i && Region.free md ops listed i && planB md ops r n (listed.setIfInBounds i true)
  | .sole i r, n + 1, listed => decide (Region.ready md ops listed = [i]) && planB md ops r n (listed.setIfInBounds i true)
  | .two i j r s, n + 1, listed => decide (Region.ready md ops listed = [i, j]) && planB md ops r n (listed.setIfInBounds i true) && planB md ops s n (listed.setIfInBounds j true)
  | .three i j k r s t, n + 1, listed => decide (Region.ready md ops listed = [i, j, k]) && planB md ops r n (listed.setIfInBounds i true) && planB md ops s n (listed.setIfInBounds j true) && planB md ops t n (listed.setIfInBounds k true)
  | .narrow r, n, listed => planB md ops r n listed
  | .take .., 0, _ => false
  | .sole .., 0, _ => false
  | .two .., 0, _ => false
  | .three .., 0, _ => false

def wpPlan (P : Program) (ops : Array Oper) (Q : Exit → Act → World → Prop) : (World → Prop) → Plan → Act → World → Prop
  | _, .done, a, w => Q .normal a w
  | S, .narrow r, a, w => ∃ S', (S' w ∧ ∀ x, S' x → S x) ∧ wpPlan P ops Q S' r a w
  | S, .take i r, a, w => ∃ o, ops[i]? = some o ∧
    ((Region.wanted o (yielded ops a.tmps) = false ∧ wpPlan P ops Q S r (a.put o.dst undef) w) ∨
      (Region.wanted o (yielded ops a.tmps) = true ∧ ∃ v, (∀ w', S w' → (execOp a.eval o).run P w' = .ok (.value v) w') ∧ wpPlan P ops Q S r (a.put o.dst v) w))
  | S, .sole i r, a, w => wpOp P ops Q i (fun a' w' => S w' ∧ wpPlan P ops Q S r a' w') a w
  | S, .two i j r s, a, w => wpOp P ops Q i (fun a' w' => S w' ∧ wpPlan P ops Q S r a' w') a w ∧ wpOp P ops Q j (fun a' w' => S w' ∧ wpPlan P ops Q S s a' w') a w
  | S, .three i j k r s t, a, w => wpOp P ops Q i (fun a' w' => S w' ∧ wpPlan P ops Q S r a' w') a w ∧ wpOp P ops Q j (fun a' w' => S w' ∧ wpPlan P ops Q S s a' w') a w ∧ wpOp P ops Q k (fun a' w' => S w' ∧ wpPlan P ops Q S t a' w') a w

theorem wpAnyH_narrow {S S' : World → Prop} (hle : ∀ x, S' x → S x) : ∀ (n : Nat) (listed : Array Bool) (a : Act) (w : World), wpAnyH P md ops Q S' n listed a w → wpAnyH P md ops Q S n listed a w
  | 0, _, _, _, h => h
  | n + 1, _, _, _, h => ⟨h.1, fun i hi => wpOp_mono (fun a' w' h' => ⟨hle _ h'.1, wpAnyH_narrow hle n _ a' w' h'.2⟩) (h.2 i hi)⟩
theorem wpAnyH_of_plan (hs : Region.noSelect ops = true) (hQ : ∀ c (a : Act) d v w, Q (.panic c) (a.put d v) w → Q (.panic c) a w) :
    ∀ (l : Plan) (S : World → Prop) (n : Nat) (listed : Array Bool) (a : Act) (w : World), planB md ops l n listed = true → S w → wpPlan P ops Q S l a w → wpAnyH P md ops Q S n listed a w
  | .narrow r, S, n, listed, a, w, hB, _, h => by
    obtain ⟨S', ⟨h1, h2⟩, h3⟩ := h
    exact wpAnyH_narrow h2 n listed a w (wpAnyH_of_plan hs hQ r S' n listed a w (by cases n <;> simpa [planB] using hB) h1 h3)
  | .done, S, n, listed, a, w, hB, _, h => wpAnyH_done (by cases n <;> simpa [planB] using hB) h _
  | .take i r, S, n + 1, listed, a, w, hB, hS, h => by
    simp only [planB, Bool.and_eq_true] at hB
    obtain ⟨⟨hr, hf⟩, hB'⟩ := hB
    obtain ⟨o, ho, h⟩ := h
    rcases h with ⟨hw, h⟩ | ⟨hw, v, hv, h⟩
    · exact wpAnyH_take ho hs hf hr (fun c a w => hQ c a _ _ w) (.inr ⟨hw, rfl⟩) hS (wpAnyH_of_plan hs hQ r S n _ _ w hB' hS h)
    · exact wpAnyH_take ho hs hf hr (fun c a w => hQ c a _ _ w) (.inl ⟨hw, hv⟩) hS (wpAnyH_of_plan hs hQ r S n _ _ w hB' hS h)
  | .sole i r, S, n + 1, listed, a, w, hB, hS, h => by
    simp only [planB, Bool.and_eq_true, decide_eq_true_eq] at hB
    obtain ⟨hr, hB'⟩ := hB
    refine wpAnyH_all hr (by simp) fun j hj => ?_
    obtain rfl : j = i := by simpa using hj
    exact wpOp_mono (fun a' w' h' => ⟨h'.1, wpAnyH_of_plan hs hQ r S n _ _ w' hB' h'.1 h'.2⟩) h
  | .two i j r s, S, n + 1, listed, a, w, hB, hS, h => by
    simp only [planB, Bool.and_eq_true, decide_eq_true_eq] at hB
    obtain ⟨⟨hr, hB1⟩, hB2⟩ := hB
    refine wpAnyH_all hr (by simp) fun x hx => ?_
    rcases List.mem_cons.1 hx with rfl | hx
    · exact wpOp_mono (fun a' w' h' => ⟨h'.1, wpAnyH_of_plan hs hQ r S n _ _ w' hB1 h'.1 h'.2⟩) h.1
    · obtain rfl : x = j := by simpa using hx
      exact wpOp_mono (fun a' w' h' => ⟨h'.1, wpAnyH_of_plan hs hQ s S n _ _ w' hB2 h'.1 h'.2⟩) h.2
  | .three i j k r s t, S, n + 1, listed, a, w, hB, hS, h => by
    simp only [planB, Bool.and_eq_true, decide_eq_true_eq] at hB
    obtain ⟨⟨⟨hr, hB1⟩, hB2⟩, hB3⟩ := hB
    refine wpAnyH_all hr (by simp) fun x hx => ?_
    rcases List.mem_cons.1 hx with rfl | hx
    · exact wpOp_mono (fun a' w' h' => ⟨h'.1, wpAnyH_of_plan hs hQ r S n _ _ w' hB1 h'.1 h'.2⟩) h.1
    · rcases List.mem_cons.1 hx with rfl | hx
      · exact wpOp_mono (fun a' w' h' => ⟨h'.1, wpAnyH_of_plan hs hQ s S n _ _ w' hB2 h'.1 h'.2⟩) h.2.1
      · obtain rfl : x = k := by simpa using hx
        exact wpOp_mono (fun a' w' h' => ⟨h'.1, wpAnyH_of_plan hs hQ t S n _ _ w' hB3 h'.1 h'.2⟩) h.2.2
  | .take .., _, 0, _, _, _, hB, _, _ => by simp [planB] at hB
  | .sole .., _, 0, _, _, _, hB, _, _ => by simp [planB] at hB
  | .two .., _, 0, _, _, _, hB, _, _ => by simp [planB] at hB
  | .three .., _, 0, _, _, _, hB, _, _ => by simp [planB] at hB

/-- The beginning: the class is 'all that was there is as it was'; no way out by panic is borne. -/
theorem wp_region_plan {id : Nat} {a : Act} {w : World} (l : Plan) (hm : P.follows .mixedOrders = true) (hs : Region.noSelect ops = true) (hB : planB .any ops l ops.size (Array.replicate ops.size false) = true)
    (h : wpPlan P ops (NoPanic Q) (fun w' => Below w.heap.size w w') l a w.drew) : (Code.region id ops true).wp P Q a w :=
  wp_region_noPanic (wp_region_held (S := fun w' => Below w.heap.size w w') hm
    (wpAnyH_of_plan (md := .any) hs (fun _ _ _ _ _ h => h) l _ _ _ a _ hB ((Below.refl _ _).drew) h))

/-- The same, the class chosen by hand. -/
theorem wp_region_plan_in {id : Nat} {a : Act} {w : World} (S : World → Prop) (l : Plan) (hm : P.follows .mixedOrders = true) (hs : Region.noSelect ops = true) (hB : planB .any ops l ops.size (Array.replicate ops.size false) = true) (hS : S w.drew)
    (h : wpPlan P ops (NoPanic Q) S l a w.drew) : (Code.region id ops true).wp P Q a w :=
  wp_region_noPanic (wp_region_held (S := S) hm (wpAnyH_of_plan (md := .any) hs (fun _ _ _ _ _ h => h) l _ _ _ a _ hB hS h))
/-- All blocks but one are as they were. -/
structure But (b : Nat) (w w' : World) : Prop where
  size : w.heap.size ≤ w'.heap.size
  block : ∀ k, k < w.heap.size → k ≠ b → w'.heap[k]? = w.heap[k]?
theorem But.refl (b : Nat) (w : World) : But b w w := ⟨Nat.le_refl _, fun _ _ _ => rfl⟩
theorem But.below {b : Nat} {w w' w2 : World} (h : But b w w') (hb : Below w'.heap.size w' w2) : But b w w2 :=
  ⟨Nat.le_trans h.size hb.size, fun k hk hne => (hb.block k (Nat.lt_of_lt_of_le hk h.size)).trans (h.block k hk hne)⟩
theorem But.row {b : Nat} {w w' w2 : World} (h : But b w w') (hs : w'.heap.size ≤ w2.heap.size) (o : ∀ k, k ≠ b → w2.heap[k]? = w'.heap[k]?) : But b w w2 :=
  ⟨Nat.le_trans h.size hs, fun k hk hne => (o k hne).trans (h.block k hk hne)⟩
theorem At.but {b c : Nat} {w w' : World} {C : Array Value} {t : TypeId} (h : At w c C t) (hb : But b w w') (hne : c ≠ b) : At w' c C t := by
  have := h.lt
  unfold At at *
  rw [hb.block c this hne]; exact h
variable {i j k : Nat} {r s t : Plan} {a : Act} {w : World} {o : Oper}
theorem plan_nil (h : Q .normal a w) : wpPlan P ops (NoPanic Q) S .done a w := h
theorem plan_narrow {S : World → Prop} (S' : World → Prop) (h1 : S' w) (h2 : ∀ x, S' x → S x) (h : wpPlan P ops Q S' r a w) : wpPlan P ops Q S (.narrow r) a w := ⟨S', ⟨h1, h2⟩, h⟩
theorem plan_skip (ho : ops.toList[i]? = some o) (hw : Region.wanted o (yielded ops a.tmps) = false) (h : wpPlan P ops Q S r (a.put o.dst undef) w) : wpPlan P ops Q S (.take i r) a w :=
  ⟨o, by rw [← Array.getElem?_toList]; exact ho, .inl ⟨hw, h⟩⟩
theorem plan_take (v : Value) (ho : ops.toList[i]? = some o) (hw : Region.wanted o (yielded ops a.tmps) = true) (hv : ∀ w', S w' → (execOp a.eval o).run P w' = .ok (.value v) w') (h : wpPlan P ops Q S r (a.put o.dst v) w) :
    wpPlan P ops Q S (.take i r) a w :=
  ⟨o, by rw [← Array.getElem?_toList]; exact ho, .inr ⟨hw, v, hv, h⟩⟩
theorem wpOp_at {K : Act → World → Prop} (ho : ops.toList[i]? = some o) (hw : Region.wanted o (yielded ops a.tmps) = true) (h : o.wp P a w K Q) : wpOp P ops Q i K a w := by
  have ho' : ops[i]? = some o := by rw [← Array.getElem?_toList]; exact ho
  unfold wpOp
  simp only [ho', hw, if_true]
  exact .inl h
/-- Whichever of two, of three comes up: each as if it came up alone. -/
theorem plan_two (h1 : wpPlan P ops Q S (.sole i r) a w) (h2 : wpPlan P ops Q S (.sole j s) a w) : wpPlan P ops Q S (.two i j r s) a w := ⟨h1, h2⟩
theorem plan_three (h1 : wpPlan P ops Q S (.sole i r) a w) (h2 : wpPlan P ops Q S (.sole j s) a w) (h3 : wpPlan P ops Q S (.sole k t) a w) : wpPlan P ops Q S (.three i j k r s t) a w := ⟨h1, h2, h3⟩
theorem plan_move (x : Operand) (v : Value) (ho : ops.toList[i]? = some o) (hw : Region.wanted o (yielded ops a.tmps) = true) (hop : o.op = .move x ∨ o.op = .assign x) (hx : a.eval x = v) (h : wpPlan P ops Q S r (a.put o.dst v) w) :
    wpPlan P ops Q S (.take i r) a w :=
  plan_take v ho hw (fun w' _ => by rcases hop with hop | hop <;> simp [execOp, hop, hx]) h
theorem plan_pick (c x y : Operand) (b : Bool) (v : Value) (ho : ops.toList[i]? = some o) (hw : Region.wanted o (yielded ops a.tmps) = true) (hop : o.op = .pick c x y) (hc : a.eval c = .bool b) (hx : (if b then a.eval x else a.eval y) = v) (h : wpPlan P ops Q S r (a.put o.dst v) w) :
    wpPlan P ops Q S (.take i r) a w :=
  plan_take v ho hw (fun w' _ => by simp [execOp, hop, hc, asBool, ← hx]) h
theorem plan_pick_t (c x y : Operand) (v : Value) (ho : ops.toList[i]? = some o) (hw : Region.wanted o (yielded ops a.tmps) = true) (hop : o.op = .pick c x y) (hc : a.eval c = .bool true) (hx : a.eval x = v) (h : wpPlan P ops Q S r (a.put o.dst v) w) :
    wpPlan P ops Q S (.take i r) a w := plan_pick c x y true v ho hw hop hc hx h
theorem plan_pick_f (c x y : Operand) (v : Value) (ho : ops.toList[i]? = some o) (hw : Region.wanted o (yielded ops a.tmps) = true) (hop : o.op = .pick c x y) (hc : a.eval c = .bool false) (hx : a.eval y = v) (h : wpPlan P ops Q S r (a.put o.dst v) w) :
    wpPlan P ops Q S (.take i r) a w := plan_pick c x y false v ho hw hop hc hx h
theorem plan_bin (op : BinOp) (t t2 : TypeId) (x y : Operand) (vx vy v : Value) (ho : ops.toList[i]? = some o) (hw : Region.wanted o (yielded ops a.tmps) = true) (hop : o.op = .binOp op t x y t2) (hx : a.eval x = vx) (hy : a.eval y = vy)
    (hv : ∀ w', (do eqGuard op t x y vx vy; binOp op t vx vy : Sem Value).run P w' = .ok v w') (h : wpPlan P ops Q S r (a.put o.dst v) w) :
    wpPlan P ops Q S (.take i r) a w :=
  plan_take v ho hw (fun w' _ => by
    have := hv w'
    simp only [execOp, hop, hx, hy]
    rw [Sem.run_bind, this]; rfl) h
theorem plan_conv (t1 t2 : TypeId) (x : Operand) (vx v : Value) (ho : ops.toList[i]? = some o) (hw : Region.wanted o (yielded ops a.tmps) = true) (hop : o.op = .convert t1 t2 x) (hx : a.eval x = vx)
    (hv : ∀ w', (convert t1 t2 vx).run P w' = .ok v w') (h : wpPlan P ops Q S r (a.put o.dst v) w) : wpPlan P ops Q S (.take i r) a w :=
  plan_take v ho hw (fun w' _ => by
    have := hv w'
    simp only [execOp, hop, hx]
    rw [Sem.run_bind, this]; rfl) h
theorem plan_build (ty : TypeId) (parts : Array (Nat × Operand)) (ps : Array (Nat × Value)) (v : Value) (ho : ops.toList[i]? = some o) (hw : Region.wanted o (yielded ops a.tmps) = true) (hop : o.op = .build ty parts) (hps : (parts.map fun (i, x) => (i, a.eval x)) = ps)
    (hv : ∀ w', (Instr.build ty ps).run P w' = .ok v w') (h : wpPlan P ops Q S r (a.put o.dst v) w) : wpPlan P ops Q S (.take i r) a w :=
  plan_take v ho hw (fun w' _ => by
    have := hv w'
    simp only [execOp, hop, hps]
    rw [Sem.run_bind, this]; rfl) h
/-- An array cut from end to end. -/
theorem plan_cut (ty : TypeId) (x : Operand) (n : Nat) (elem : TypeId) (b c : Nat) (ho : ops.toList[i]? = some o) (hw : Region.wanted o (yielded ops a.tmps) = true) (hop : o.op = .slice ty x none none none) (hx : a.eval x = .pointer (some ⟨b, c, none⟩))
    (hu : P.underlying ty = some (.array n elem)) (hs : (P.info? elem).map (·.size) = some 1) (h : wpPlan P ops Q S r (a.put o.dst (.slice (some ⟨b, c, none⟩) n n)) w) : wpPlan P ops Q S (.take i r) a w :=
  plan_take _ ho hw (fun w' _ => by
    cases hq : P.info? elem with
    | none => simp [hq] at hs
    | some q =>
      have hs1 : q.size = 1 := by simpa [hq] using hs
      have hat : (Instr.sliceAt ty (.pointer (some ⟨b, c, none⟩)) none none none).run P w' = .ok (.slice (some ⟨b, c, none⟩) n n) w' := by
        simp [Instr.sliceAt, Instr.sureAddr, Instr.sliceBounds, Sem.run_bind, run_underlying hu, sizeOf, typeInfo, hq, Addr.add_mid]
      unfold execOp
      simp only [hop, hx, Option.map_none, Sem.run_bind, hat, Result.andThen_ok, Sem.run_pure]) h
/-- A load of several cells that all of the class have. -/
theorem plan_row (ty : TypeId) (x : Operand) (b : Nat) (d : TypeDesc) (C : Array Value) (t : TypeId) (ho : ops.toList[i]? = some o) (hw : Region.wanted o (yielded ops a.tmps) = true) (hop : o.op = .load ty x) (hx : a.eval x = .pointer (some ⟨b, 0, none⟩))
    (hC : ∀ w', S w' → At w' b C t) (hu : P.underlying ty = some d) (hd : d.isRow = true) (hi : (P.info? ty).map (·.size) = some C.size) (h : wpPlan P ops Q S r (a.put o.dst (.agg C)) w) :
    wpPlan P ops Q S (.take i r) a w :=
  plan_take _ ho hw (fun w' hw' => by
    have hr := run_loadAt_mid (P := P) w' b 0 ty (C.extract 0 (0 + C.size)).toList d ((hC w' hw').range 0 C.size) hu hd (by rw [hi]; simp)
    unfold execOp
    simp only [hop, hx, Sem.run_bind, hr, Result.andThen_ok, Sem.run_pure]
    simp) h
theorem plan_len (xs : Array Operand) (ats : Array TypeId) (x : Operand) (s : Option Addr) (n c : Nat) (ho : ops.toList[i]? = some o) (hw : Region.wanted o (yielded ops a.tmps) = true) (hop : o.op = .call { callee := .builtin .len, args := xs, argTypes := ats }) (hxs : xs = #[x]) (hx : a.eval x = .slice s n c)
    (hr : ∀ w' : World, (Builtin.len_ ats o.type #[.slice s n c]).run P w' = .ok (.int .i64 n) w')
    (h : wpPlan P ops Q S r (a.put o.dst (.int .i64 n)) w) : wpPlan P ops Q S (.take i r) a w :=
  plan_take _ ho hw (fun w' _ => by
    subst hxs
    obtain ⟨dst, op, type, pos, after, guard⟩ := o
    simp only at hop
    subst hop
    rw [BigFrame.execOp_builtin]
    simp [hx, BigFrame.builtin_len, hr w']) h
/-- Is it a function with a body? -/
def enters (P : Program) (f : FuncId) : Bool := match P.funcs[f]? with
  | some fn => !(fn.name == "runtime.NumGoroutine") && !fn.body.isNone
  | none => false
theorem run_enters {f : FuncId} (h : enters P f = true) (vs : Array Value) (w : World) : (callFunc f vs).run P w = .ok (.enter f vs) w := by
  unfold enters at h
  split at h
  · rename_i fn hf
    simp only [Bool.and_eq_true, Bool.not_eq_true'] at h
    have hn : ¬ fn.name = "runtime.NumGoroutine" := fun e => by have := h.1; rw [e] at this; exact absurd this (by decide)
    have hb : ¬ fn.body = none := fun e => by have := h.2; rw [e] at this; cases this
    simp [callFunc, Sem.run_bind, run_program, hf, hn, hb]
  · cases h
/-- A call that comes up alone. -/
theorem plan_call (f : FuncId) (xs : Array Operand) (ats : Array TypeId) (vs : Array Value) (hf : enters P f = true) (ho : ops.toList[i]? = some o) (hw : Region.wanted o (yielded ops a.tmps) = true) (hop : o.op = .call { callee := .value (.func f), args := xs, argTypes := ats }) (hxs : xs.map a.eval = vs)
    (h : Calls P f vs w fun e w' => ∃ v, e = .returned v ∧ S w' ∧ wpPlan P ops Q S r (a.put o.dst v) w') : wpPlan P ops Q S (.sole i r) a w := by
  refine wpOp_at ho hw ?_
  obtain ⟨dst, op, type, pos, after, guard⟩ := o
  simp only at hop
  subst hop
  unfold Oper.wp
  rw [execOp_call_go]
  have : (callFunc f (#[] ++ xs.map a.eval ++ #[])).run P w = .ok (.enter f vs) w := by
    rw [hxs]; simp [run_enters hf]
  rw [this]
  exact h.mono fun e w' ⟨v, he, hS, hp⟩ => by subst he; exact ⟨hS, hp⟩
/-- An unwanted operation that comes up alone. -/
theorem plan_sole_skip (ho : ops.toList[i]? = some o) (hw : Region.wanted o (yielded ops a.tmps) = false) (hS : S w) (h : wpPlan P ops Q S r (a.put o.dst undef) w) : wpPlan P ops Q S (.sole i r) a w := by
  have ho' : ops[i]? = some o := by rw [← Array.getElem?_toList]; exact ho
  unfold wpPlan wpOp
  simp only [ho', hw, Bool.false_eq_true, if_false]
  exact ⟨hS, h⟩
/-- A variable that is made. -/
theorem plan_alloc (ty : TypeId) (Z : Array Value) (ho : ops.toList[i]? = some o) (hw : Region.wanted o (yielded ops a.tmps) = true) (hop : o.op = .alloc ty) (hr : ∀ w : World, (Instr.alloc ty true (.tuple #[])).run P w = .ok (.pointer (some ⟨w.heap.size, 0, none⟩)) (w.alloc (.cells Z ty)))
    (hS : S (w.alloc (.cells Z ty))) (h : wpPlan P ops Q S r (a.put o.dst (.pointer (some ⟨w.heap.size, 0, none⟩))) (w.alloc (.cells Z ty))) : wpPlan P ops Q S (.sole i r) a w := by
  refine wpOp_at ho hw ?_
  unfold Oper.wp execOp
  simp only [hop, Sem.run_bind, hr, Result.andThen_ok, Sem.run_pure]
  exact ⟨hS, h⟩
/-- A store of several cells over a block known whole that the class does not speak of. -/
theorem plan_store (ty : TypeId) (x y : Operand) (b : Nat) (D C : Array Value) (t : TypeId) (ho : ops.toList[i]? = some o) (hw : Region.wanted o (yielded ops a.tmps) = true) (hop : o.op = .store ty x y) (hdst : o.dst = none)
    (hx : a.eval x = .pointer (some ⟨b, 0, none⟩)) (hy : a.eval y = .agg D) (hi : (P.info? ty).map (·.size) = some D.size) (hC : At w b C t) (hn : D.size = C.size) (h1 : D.all (·.oneCell') = true) (hS : S (w.setRow b D))
    (h : wpPlan P ops Q S r a (w.setRow b D)) : wpPlan P ops Q S (.sole i r) a w := by
  refine wpOp_at ho hw ?_
  have hput : a.put o.dst undef = a := by rw [hdst]; rfl
  refine wp_store_mid ty x y hop b 0 D hx hy (fun j hj => ?_) hi h1 ?_
  · rw [hC.cell, hC.free]
    exact ⟨by simp; omega, rfl⟩
  · rw [setCells_row _ _ _ _ _ hC (by simpa using Nat.le_of_eq hn), hput, splice_all C D hn]; exact ⟨hS, h⟩
/-- The same, what follows asked in a world of which this is known. -/
theorem plan_alloc_any (ty : TypeId) (Z : Array Value) (ho : ops.toList[i]? = some o) (hw : Region.wanted o (yielded ops a.tmps) = true) (hop : o.op = .alloc ty) (hr : ∀ w : World, (Instr.alloc ty true (.tuple #[])).run P w = .ok (.pointer (some ⟨w.heap.size, 0, none⟩)) (w.alloc (.cells Z ty)))
    (hS : ∀ W', (∀ B x, Below B x w → B ≤ w.heap.size → Below B x W') → S W')
    (h : ∀ b W', At W' b Z ty → w.heap.size ≤ b → (∀ k C t', At w k C t' → At W' k C t' ∧ k ≠ b) → (∀ B x, Below B x w → B ≤ w.heap.size → Below B x W') → wpPlan P ops Q S r (a.put o.dst (.pointer (some ⟨b, 0, none⟩))) W') : wpPlan P ops Q S (.sole i r) a w :=
  plan_alloc ty Z ho hw hop hr (hS _ fun _ _ hb hB => hb.alloc hB _) (h _ _ (at_new w Z ty) (Nat.le_refl _) (fun _ _ _ hk => ⟨hk.alloc _, Nat.ne_of_lt hk.lt⟩) fun _ _ hb hB => hb.alloc hB _)
theorem plan_store_any (ty : TypeId) (x y : Operand) (b : Nat) (D C : Array Value) (t : TypeId) (ho : ops.toList[i]? = some o) (hw : Region.wanted o (yielded ops a.tmps) = true) (hop : o.op = .store ty x y) (hdst : o.dst = none)
    (hx : a.eval x = .pointer (some ⟨b, 0, none⟩)) (hy : a.eval y = .agg D) (hi : (P.info? ty).map (·.size) = some D.size) (hC : At w b C t) (hn : D.size = C.size) (h1 : D.all (·.oneCell') = true)
    (hS : ∀ W', (∀ B x, Below B x w → B ≤ b → Below B x W') → S W')
    (h : ∀ W', At W' b D t → (∀ k E t', At w k E t' → k ≠ b → At W' k E t') → (∀ B x, Below B x w → B ≤ b → Below B x W') → wpPlan P ops Q S r a W') : wpPlan P ops Q S (.sole i r) a w :=
  plan_store ty x y b D C t ho hw hop hdst hx hy hi hC hn h1 (hS _ fun _ _ hb hB => below_row hb hB D) (h _ (hC.row D) (fun _ _ _ hk hne => hk.row_other D hne) fun _ _ hb hB => below_row hb hB D)
/-- A slice literal that comes up alone. -/
theorem plan_slice (t e : TypeId) (len : Nat) (parts : Array (Nat × Operand)) (cells : Array Value) (ho : ops.toList[i]? = some o) (hw : Region.wanted o (yielded ops a.tmps) = true) (hop : o.op = .buildSlice t len parts) (hu : P.underlying t = some (.slice e))
    (hf : P.builtSlice e len (parts.map fun (i, x) => (i, a.eval x)).toList = some cells) (hS : S (w.alloc (.cells cells e)))
    (h : wpPlan P ops Q S r (a.put o.dst (.slice (some ⟨w.heap.size, 0, none⟩) len len)) (w.alloc (.cells cells e))) : wpPlan P ops Q S (.sole i r) a w := by
  refine wpOp_at ho hw ?_
  unfold Program.builtSlice at hf
  cases hie : P.info? e with
  | none => simp [hie] at hf
  | some ie =>
    simp only [hie] at hf
    cases hz : ie.zero with
    | none => simp [hz] at hf
    | some z =>
      simp only [hz] at hf
      by_cases hc : len * ie.size > 2 ^ 24 ∨ len * ie.size = 0
      · simp [hc] at hf
      · rw [if_neg hc] at hf
        exact wp_buildSlice t e len parts hop cells ie z hu hie hz (fun h' => hc (Or.inl h')) (fun h' => hc (Or.inr h')) hf ⟨hS, h⟩
end
end Mem
end Go.Proofs.Yteiffdccfmfdbaa
