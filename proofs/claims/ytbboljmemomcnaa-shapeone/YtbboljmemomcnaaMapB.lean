/- A set that is kept in a map whose stored values are all alike (map[K]bool with true alone, map[K]struct{}): made, looked up, stored into; in a plain region and in a plan. Over any program. -/
import Derived.Maps.OwnSet
import Derived.Test.YtbboljmemomcnaaFoot
import Derived.Test.YtbboljmemomcnaaWanted
import Derived.Test.YtbboljmemomcnaaPlan3
namespace Go.Proofs.Ytbboljmemomcnaa
namespace Mem
open Go.RowKit Go.Maps
/-- How the members stand in the program: val (as a value), key (as it reads), of those that are ok. -/
structure KeyTy (P : Program) (k : TypeId) {α : Type} (ok : α → Prop) (val : α → Value) (key : α → Lit) : Prop where
  keyed : Keyed P k
  read : ∀ a, ok a → keyOf P k (val a) = some (key a)
  one : ∀ a b, ok a → ok b → val a = val b → a = b
theorem KeyTy.key_one {P : Program} {k : TypeId} {α : Type} {ok : α → Prop} {val : α → Value} {key : α → Lit} (T : KeyTy P k ok val key) {a b : α} (ha : ok a) (hb : ok b) (h : key a = key b) : a = b :=
  T.one a b ha hb (T.keyed.inj (T.read a ha) (h ▸ T.read b hb))
/-- An int's numbers. -/
theorem keyTy_int {P : Program} {k : TypeId} {q : IntKind} (hk : P.underlying k = some (.int q)) : KeyTy P k (fun x : Int => (Lit.int q x).wf = true) (fun x => .int q x) (fun x => .int q x) where
  keyed := int_keyed hk
  read a ha := keyOf_int_mk hk ha
  one a b _ _ h := by simpa using h
/-- Block b is a map whose keys are just the members xs, with u behind each (R: how what is stored reads). -/
def SetM {α : Type} [DecidableEq α] (w : World) (P : Program) (k : TypeId) (R : Value → Option (DataW Unit × List MemPlace)) (u : DataW Unit) (ok : α → Prop) (key : α → Lit) (b : Nat) (xs : List α) : Prop :=
  ∃ (n : Nat) (D : DataW Unit), w.ownsMap P k R b n D ∧ n ≤ xs.length ∧ ∀ a, ok a → has D (key a) = decide (a ∈ xs) ∧ ∀ z, D.atKey (key a) z = if a ∈ xs then u else z
section
variable {α : Type} [DecidableEq α] {w : World} {P : Program} {k : TypeId} {R : Value → Option (DataW Unit × List MemPlace)} {u : DataW Unit} {ok : α → Prop} {val : α → Value} {key : α → Lit} {b : Nat} {xs : List α}
theorem SetM.lt (h : SetM w P k R u ok key b xs) : b < w.heap.size := let ⟨_, _, ho, _⟩ := h; ho.lt
theorem setM_made (w : World) (P : Program) (k : TypeId) (R : Value → Option (DataW Unit × List MemPlace)) (u : DataW Unit) (ok : α → Prop) (key : α → Lit) : SetM (w.alloc (.map #[] 0)) P k R u ok key w.heap.size [] :=
  ⟨0, _, World.ownsMap_made w P k R, Nat.le_refl _, fun a _ => ⟨by simp [has], fun z => by simp [DataW.atKey]⟩⟩
theorem SetM.same {w' : World} (h : SetM w P k R u ok key b xs) (hb : w'.heap[b]? = w.heap[b]?) : SetM w' P k R u ok key b xs := by
  obtain ⟨n, D, ⟨es, clock, h1, h2⟩, hr⟩ := h
  exact ⟨n, D, ⟨es, clock, hb.trans h1, h2⟩, hr⟩
theorem SetM.below {w' : World} {B : Nat} (h : SetM w P k R u ok key b xs) (hb : Below B w w') (hlt : b < B) : SetM w' P k R u ok key b xs := h.same (hb.block b hlt)
theorem SetM.chg {w' : World} {F : Foot} (h : SetM w P k R u ok key b xs) (hc : Chg F w w') (hn : ¬ F b) : SetM w' P k R u ok key b xs := h.same (hc.block b h.lt hn)
theorem SetM.alloc (h : SetM w P k R u ok key b xs) (o : Obj) : SetM (w.alloc o) P k R u ok key b xs := by
  obtain ⟨n, D, ho, hr⟩ := h
  exact ⟨n, D, ho.alloc o, hr⟩
theorem SetM.drew (h : SetM w P k R u ok key b xs) : SetM w.drew P k R u ok key b xs := h
/-- Members that stand in other order, or more than once, are the same set. -/
theorem SetM.alike {ys : List α} (h : SetM w P k R u ok key b xs) (hm : ∀ a, a ∈ xs ↔ a ∈ ys) (hl : xs.length ≤ ys.length) : SetM w P k R u ok key b ys := by
  obtain ⟨n, D, ho, hn, hr⟩ := h
  refine ⟨n, D, ho, Nat.le_trans hn hl, fun a ha => ⟨?_, fun z => ?_⟩⟩
  · rw [(hr a ha).1]; simp [hm a]
  · rw [(hr a ha).2 z]; simp [hm a]
/-- 'm[k]' of a map[K]bool. -/
theorem SetM.look {t e : TypeId} (h : SetM w P k (plainElem P e) (.lit (.bool true)) ok key b xs) (T : KeyTy P k ok val key) (ht : P.underlying t = some (.map k e)) (he : P.underlying e = some .bool)
    (hz : (zeroValue e).run P w = .ok (.bool false) w) {a : α} (ha : ok a) : (Instr.lookup t (.map (some b)) (val a) false).run P w = .ok (.bool (decide (a ∈ xs))) w := by
  obtain ⟨n, D, ho, hn, hr⟩ := h
  obtain ⟨v, ps, hrun, hv⟩ := ho.lookup T.keyed ht hz (plainElem_bool he false) (T.read a ha)
  rw [(hr a ha).2] at hv
  rw [hrun]
  congr 1
  unfold plainElem at hv
  rw [he] at hv
  cases v <;> simp at hv
  rename_i x
  by_cases hm : a ∈ xs
  · simp [hm] at hv; simp [hm, hv.1]
  · simp [hm] at hv; simp [hm, hv.1]
/-- '_, ok := m[k]': v, whatever it is, and whether k is a member. -/
theorem SetM.look_ok {t e : TypeId} (h : SetM w P k R u ok key b xs) (T : KeyTy P k ok val key) (ht : P.underlying t = some (.map k e))
    {z : Value} (hz : (zeroValue e).run P w = .ok z w) {zd : DataW Unit} {zp : List MemPlace} (hzd : R z = some (zd, zp)) {a : α} (ha : ok a) :
    ∃ v ps, (Instr.lookup t (.map (some b)) (val a) true).run P w = .ok (.tuple #[v, .bool (decide (a ∈ xs))]) w ∧ R v = some (if a ∈ xs then u else zd, ps) := by
  obtain ⟨n, D, ho, hn, hr⟩ := h
  obtain ⟨v, ps, hrun, hv⟩ := ho.look_ok T.keyed ht hz hzd (T.read a ha)
  rw [(hr a ha).1] at hrun
  rw [(hr a ha).2] at hv
  exact ⟨v, ps, hrun, hv⟩
/-- 'm[k] = u'. -/
theorem SetM.put {t e : TypeId} (h : SetM w P k R u ok key b xs) (T : KeyTy P k ok val key) (ht : P.underlying t = some (.map k e)) (hl : xs.length < maxLen)
    {v : Value} {ps : List MemPlace} (hv : R v = some (u, ps)) {a : α} (ha : ok a) :
    ∃ w', (Instr.mapUpdate t (.map (some b)) (val a) v).run P w = .ok () w' ∧ SetM w' P k R u ok key b (a :: xs) ∧ Chg (fun x => x = b) w w' ∧ w'.heap.size = w.heap.size := by
  obtain ⟨n, D, ho, hn, hr⟩ := h
  obtain ⟨w', hrun, ho', hturn⟩ := ho.store T.keyed ht (Nat.lt_of_le_of_lt hn hl) (T.read a ha) hv
  have hg := hturn.grown
  refine ⟨w', hrun, ⟨n + 1, _, ho', by simpa using hn, fun c hc => ?_⟩, ⟨hg.os, hg.tape, hg.output, hg.size, fun x hx hne => hg.block x hx (fun e => hne (by simpa using e))⟩, ?_⟩
  · by_cases hca : c = a
    · subst hca
      exact ⟨by rw [has_put_same ho.isMap (T.keyed.key (T.read c ha))]; simp, fun z => by rw [atKey_put_same ho.isMap (T.keyed.key (T.read c ha))]; simp⟩
    · have hk : key c ≠ key a := fun e => hca (T.key_one hc ha e)
      exact ⟨by rw [has_put_other hk, (hr c hc).1]; simp [hca], fun z => by rw [atKey_put_other hk, (hr c hc).2 z]; simp [hca]⟩
  · obtain ⟨es, clock, es', clock', _, rfl⟩ := hturn
    simp [ChangeMaps.setBlock]
/-- 'len(m)' is at most how many there are. -/
theorem SetM.len_le {t e : TypeId} (h : SetM w P k R u ok key b xs) (ht : P.underlying t = some (.map k e)) (ty : TypeId) : ∃ n : Nat, n ≤ xs.length ∧ (Builtin.len_ #[t] ty #[.map (some b)]).run P w = .ok (.int .i64 (n : Int)) w := by
  obtain ⟨n, D, ho, hn, _⟩ := h
  exact ⟨size D, Nat.le_trans ho.size_le hn, ho.len ht ty⟩
end
section
variable {α : Type} [DecidableEq α] {P : Program} {k : TypeId} {ok : α → Prop} {val : α → Value} {key : α → Lit} {xs : List α} {ops : Array Oper} {rest : List Oper} {o : Oper} {a : Act} {w : World} {Q : Exit → Act → World → Prop} {S : World → Prop} {i : Nat} {r : Plan}
/-- 'make(map[K]V)' in a plain region. -/
theorem wpList_map_made (hw : Region.wanted o (yielded ops a.tmps) = true) (t : TypeId) (hop : o.op = .makeMap t none)
    (h : wpList P ops Q rest (a.put o.dst (.map (some w.heap.size))) (w.alloc (.map #[] 0))) : wpList P ops Q (o :: rest) a w := by
  unfold wpList
  rw [if_pos hw]
  left
  unfold Oper.wp
  have : (execOp a.eval o).run P w = .ok (.value (.map (some w.heap.size))) (w.alloc (.map #[] 0)) := by
    simp [execOp, hop, run_makeMap, Result.andThen]
  rw [this]
  exact h
theorem wpList_set_look (hw : Region.wanted o (yielded ops a.tmps) = true) (t : TypeId) (m x : Operand) (hop : o.op = .lookup t m x false) (e : TypeId) (b : Nat) (c : α)
    (hm : a.eval m = .map (some b)) (hx : a.eval x = val c) (hs : SetM w P k (plainElem P e) (.lit (.bool true)) ok key b xs) (T : KeyTy P k ok val key) (ht : P.underlying t = some (.map k e)) (he : P.underlying e = some .bool)
    (hz : (zeroValue e).run P w = .ok (.bool false) w) (hc : ok c) (u : Bool) (hu : u = true ↔ c ∈ xs) (h : wpList P ops Q rest (a.put o.dst (.bool u)) w) : wpList P ops Q (o :: rest) a w := by
  have hd : decide (c ∈ xs) = u := by rw [Bool.eq_iff_iff, hu]; simp
  rw [← hd] at h
  unfold wpList
  rw [if_pos hw]
  left
  unfold Oper.wp
  have : (execOp a.eval o).run P w = .ok (.value (.bool (decide (c ∈ xs)))) w := by
    simp [execOp, hop, hm, hx, hs.look T ht he hz hc, Result.andThen]
  rw [this]
  exact h
theorem wpList_set_put (hw : Region.wanted o (yielded ops a.tmps) = true) (t : TypeId) (m x y : Operand) (hop : o.op = .mapUpdate t m x y) (e : TypeId) (b : Nat) (c : α) (v : Value) (R : Value → Option (DataW Unit × List MemPlace)) (u : DataW Unit) (ps : List MemPlace)
    (hm : a.eval m = .map (some b)) (hx : a.eval x = val c) (hy : a.eval y = v) (hv : R v = some (u, ps)) (hs : SetM w P k R u ok key b xs) (T : KeyTy P k ok val key) (ht : P.underlying t = some (.map k e)) (hl : xs.length < maxLen)
    (hc : ok c) (h : ∀ w', SetM w' P k R u ok key b (c :: xs) → Chg (fun x => x = b) w w' → w'.heap.size = w.heap.size → wpList P ops Q rest (a.put o.dst undef) w') : wpList P ops Q (o :: rest) a w := by
  unfold wpList
  rw [if_pos hw]
  left
  unfold Oper.wp
  obtain ⟨w', hrun, h1, h2, h3⟩ := hs.put T ht hl hv hc
  have : (execOp a.eval o).run P w = .ok .skip w' := by
    simp [execOp, hop, hm, hx, hy, hrun, Result.andThen]
  rw [this]
  exact h w' h1 h2 h3
/-- In a plan: the look-up, in a class of worlds in which the set stands. -/
theorem plan_set_look (t : TypeId) (m x : Operand) (e : TypeId) (b : Nat) (c : α) (ho : ops.toList[i]? = some o) (hw : Region.wanted o (yielded ops a.tmps) = true) (hop : o.op = .lookup t m x false)
    (hm : a.eval m = .map (some b)) (hx : a.eval x = val c) (hs : ∀ w', S w' → SetM w' P k (plainElem P e) (.lit (.bool true)) ok key b xs) (T : KeyTy P k ok val key) (ht : P.underlying t = some (.map k e)) (he : P.underlying e = some .bool)
    (hz : ∀ w' : World, (zeroValue e).run P w' = .ok (.bool false) w') (hc : ok c) (u : Bool) (hu : u = true ↔ c ∈ xs) (h : wpPlan P ops Q S r (a.put o.dst (.bool u)) w) : wpPlan P ops Q S (.take i r) a w := by
  have hd : decide (c ∈ xs) = u := by rw [Bool.eq_iff_iff, hu]; simp
  rw [← hd] at h
  exact plan_take _ ho hw (fun w' hS => by simp [execOp, hop, hm, hx, (hs w' hS).look T ht he (hz w') hc, Result.andThen]) h
/-- .. the store, where it comes up alone. -/
theorem plan_set_put (t : TypeId) (m x y : Operand) (e : TypeId) (b : Nat) (c : α) (v : Value) (R : Value → Option (DataW Unit × List MemPlace)) (u : DataW Unit) (ps : List MemPlace)
    (ho : ops.toList[i]? = some o) (hw : Region.wanted o (yielded ops a.tmps) = true) (hop : o.op = .mapUpdate t m x y)
    (hm : a.eval m = .map (some b)) (hx : a.eval x = val c) (hy : a.eval y = v) (hv : R v = some (u, ps)) (hs : SetM w P k R u ok key b xs) (T : KeyTy P k ok val key) (ht : P.underlying t = some (.map k e)) (hl : xs.length < maxLen)
    (hc : ok c) (h : ∀ w', SetM w' P k R u ok key b (c :: xs) → Chg (fun x => x = b) w w' → w'.heap.size = w.heap.size → S w' ∧ wpPlan P ops Q S r (a.put o.dst undef) w') : wpPlan P ops Q S (.sole i r) a w := by
  refine wpOp_at ho hw ?_
  unfold Oper.wp
  obtain ⟨w', hrun, h1, h2, h3⟩ := hs.put T ht hl hv hc
  have : (execOp a.eval o).run P w = .ok .skip w' := by
    simp [execOp, hop, hm, hx, hy, hrun, Result.andThen]
  rw [this]
  exact h w' h1 h2 h3
/-- .. the making, where it comes up alone. -/
theorem plan_map_made (t : TypeId) (ho : ops.toList[i]? = some o) (hw : Region.wanted o (yielded ops a.tmps) = true) (hop : o.op = .makeMap t none) (hS : S (w.alloc (.map #[] 0)))
    (h : wpPlan P ops Q S r (a.put o.dst (.map (some w.heap.size))) (w.alloc (.map #[] 0))) : wpPlan P ops Q S (.sole i r) a w := by
  refine wpOp_at ho hw ?_
  unfold Oper.wp
  have : (execOp a.eval o).run P w = .ok (.value (.map (some w.heap.size))) (w.alloc (.map #[] 0)) := by
    simp [execOp, hop, run_makeMap, Result.andThen]
  rw [this]
  exact ⟨hS, h⟩
end
end Mem
end Go.Proofs.Ytbboljmemomcnaa
