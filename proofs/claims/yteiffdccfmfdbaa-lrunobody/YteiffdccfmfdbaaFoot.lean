/- Blocks that are an object's own, and what changes no others; slices of rows of cells; appends of rows. Over any program. -/
import Derived.Test.YteiffdccfmfdbaaPlan2
import Derived.Test.YteiffdccfmfdbaaOwn
namespace Go.Proofs.Yteiffdccfmfdbaa
namespace Mem
open Go.RowKit
abbrev Foot := Nat → Prop
/-- All blocks but those of F are as they were. -/
structure Chg (F : Foot) (w w' : World) : Prop where
  os : w'.os = w.os
  tape : w'.tape = w.tape
  output : w'.output = w.output
  size : w.heap.size ≤ w'.heap.size
  block : ∀ k, k < w.heap.size → ¬ F k → w'.heap[k]? = w.heap[k]?
theorem Chg.refl (F : Foot) (w : World) : Chg F w w := ⟨rfl, rfl, rfl, Nat.le_refl _, fun _ _ _ => rfl⟩
theorem Chg.of_below {F : Foot} {w w' : World} (h : Below w.heap.size w w') : Chg F w w' := ⟨h.os, h.tape, h.output, h.size, fun k hk _ => h.block k hk⟩
theorem Chg.trans {F F1 : Foot} {w w1 w2 : World} (h : Chg F w w1) (k : Chg F1 w1 w2) (hs : ∀ x, F1 x → F x ∨ w.heap.size ≤ x) : Chg F w w2 :=
  ⟨k.os.trans h.os, k.tape.trans h.tape, k.output.trans h.output, Nat.le_trans h.size k.size, fun x hx hn => (k.block x (Nat.lt_of_lt_of_le hx h.size) (fun h1 => (hs x h1).elim hn (fun h2 => by omega))).trans (h.block x hx hn)⟩
theorem Chg.mono {F G : Foot} {w w' : World} (h : Chg F w w') (hs : ∀ x, F x → G x ∨ w.heap.size ≤ x) : Chg G w w' :=
  ⟨h.os, h.tape, h.output, h.size, fun x hx hn => h.block x hx (fun h1 => (hs x h1).elim hn (fun h2 => by omega))⟩
theorem Chg.below {F : Foot} {B : Nat} {x w w' : World} (h : Chg F w w') (hb : Below B x w) (hF : ∀ k, F k → B ≤ k) (hB : B ≤ w.heap.size) : Below B x w' :=
  ⟨h.os.trans hb.os, h.tape.trans hb.tape, h.output.trans hb.output, Nat.le_trans hb.size h.size, fun k hk => (h.block k (Nat.lt_of_lt_of_le hk hB) (fun h1 => by have := hF k h1; omega)).trans (hb.block k hk)⟩
theorem Chg.drew {F : Foot} {w w' : World} (h : Chg F w w') : Chg F w w'.drew := ⟨h.os, h.tape, h.output, h.size, h.block⟩
theorem At.chg {F : Foot} {w w' : World} {b : Nat} {C : Array Value} {t : TypeId} (h : At w b C t) (hc : Chg F w w') (hn : ¬ F b) : At w' b C t := by
  have hl := h.lt
  unfold At at *
  rw [hc.block b hl hn]; exact h
/-- F, and all blocks that were made since. -/
def grow (F : Foot) (w w' : World) : Foot := fun k => (F k ∨ w.heap.size ≤ k) ∧ k < w'.heap.size
theorem grow_ext {F : Foot} {w w' : World} : ∀ k, grow F w w' k → F k ∨ w.heap.size ≤ k := fun _ h => h.1
theorem grow_lt {F : Foot} {w w' : World} : ∀ k, grow F w w' k → k < w'.heap.size := fun _ h => h.2
theorem grow_grow {F : Foot} {w w1 w2 : World} (h : w.heap.size ≤ w1.heap.size) : ∀ k, grow (grow F w w1) w1 w2 k → grow F w w2 k := fun k hk =>
  ⟨hk.1.elim (fun h1 => h1.1) (fun h1 => .inr (by omega)), hk.2⟩
/-- A slice of n rows of z cells each, in a block of F, that reads as the cells xs. -/
def SlR (F : Foot) (w : World) (z : Nat) (v : Value) (n : Nat) (xs : List Value) : Prop :=
  xs.length = n * z ∧ ∃ a cap, v = .slice a n cap ∧ n ≤ cap ∧ (n ≠ 0 → ∃ bb oo, a = some ⟨bb, oo, none⟩ ∧ F bb ∧ bb < w.heap.size ∧ ∀ (j : Nat) u, xs[j]? = some u → w.cell? ⟨bb, oo + j, none⟩ = some u)
theorem SlR.nil (F : Foot) (w : World) (z : Nat) : SlR F w z (.slice none 0 0) 0 [] := ⟨by simp, none, 0, rfl, Nat.le_refl _, fun h => absurd rfl h⟩
theorem SlR.keep {F : Foot} {w w' : World} {z n : Nat} {v : Value} {xs : List Value} (h : SlR F w z v n xs) (hs : w.heap.size ≤ w'.heap.size) (hk : ∀ k, F k → k < w.heap.size → w'.heap[k]? = w.heap[k]?) : SlR F w' z v n xs := by
  obtain ⟨hl, a, cap, e, hc, hr⟩ := h
  refine ⟨hl, a, cap, e, hc, fun hne => ?_⟩
  obtain ⟨bb, oo, ea, hF, hlt, hcell⟩ := hr hne
  exact ⟨bb, oo, ea, hF, Nat.lt_of_lt_of_le hlt hs, fun j u hu => by rw [World.cell?_of_block (w := w) (w' := w') (a := ⟨bb, oo + j, none⟩) (hk bb hF hlt)]; exact hcell j u hu⟩
theorem SlR.mono {F G : Foot} {w : World} {z n : Nat} {v : Value} {xs : List Value} (h : SlR F w z v n xs) (hs : ∀ k, F k → k < w.heap.size → G k) : SlR G w z v n xs := by
  obtain ⟨hl, a, cap, e, hc, hr⟩ := h
  refine ⟨hl, a, cap, e, hc, fun hne => ?_⟩
  obtain ⟨bb, oo, ea, hF, hlt, hcell⟩ := hr hne
  exact ⟨bb, oo, ea, hs bb hF hlt, hlt, hcell⟩
theorem SlR.below {F : Foot} {w w' : World} {z n : Nat} {v : Value} {xs : List Value} (h : SlR F w z v n xs) (hb : Below w.heap.size w w') : SlR F w' z v n xs :=
  h.keep hb.size fun k _ hk => hb.block k hk
theorem slR_at {F : Foot} {w : World} {z n cap : Nat} {a : Option Addr} {xs : List Value} (h : SlR F w z (.slice a n cap) n xs) {i : Nat} (hi : i < n) :
    ∃ b o, a = some ⟨b, o, none⟩ ∧ F b ∧ ∀ j, j < z → w.cell? ⟨b, o + (z * i + j), none⟩ = xs[z * i + j]? := by
  obtain ⟨hl, a', cap', e, _, hr⟩ := h
  injection e with e1 _ _
  obtain ⟨b, o, ea, hF, _, hc⟩ := hr (by omega)
  refine ⟨b, o, by rw [e1]; exact ea, hF, fun j hj => ?_⟩
  have hlt : z * i + j < xs.length := by
    rw [hl]
    have : z * i + z ≤ n * z := by rw [← Nat.mul_succ, Nat.mul_comm]; exact Nat.mul_le_mul_right z hi
    omega
  rw [List.getElem?_eq_getElem hlt]
  exact hc _ _ (List.getElem?_eq_getElem hlt)
/-- What the law of append asks of an element's type of z cells. -/
def elemR (P : Program) (t e : TypeId) (zv : Value) (z bytes : Nat) : Prop := P.underlying t = some (.slice e) ∧ (P.info? e).map (fun i => (i.zero, i.size, i.bytes)) = some (some zv, z, bytes)
/-- v reads as n rows. -/
def RdR (w : World) (z : Nat) (v : Value) (n : Nat) (xs : List Value) : Prop := xs.length = n * z ∧ ∃ a cap, v = .slice a n cap ∧ (n ≠ 0 → ∃ p, a = some p ∧ ∀ i u, xs[i]? = some u → w.cell? (p.add i) = some u)
theorem SlR.rd {F : Foot} {w : World} {z n : Nat} {v : Value} {xs : List Value} (h : SlR F w z v n xs) : RdR w z v n xs := by
  obtain ⟨hl, a, cap, e, _, hr⟩ := h
  refine ⟨hl, a, cap, e, fun hne => ?_⟩
  obtain ⟨bb, oo, ea, _, _, hc⟩ := hr hne
  exact ⟨_, ea, fun i u hu => by rw [Addr.add_mid]; exact hc i u hu⟩
theorem rdR_new {w : World} {e : TypeId} {C : Array Value} : RdR (w.alloc (.cells C e)) C.size (.slice (some ⟨w.heap.size, 0, none⟩) 1 1) 1 C.toList :=
  ⟨by simp, _, _, rfl, fun _ => ⟨_, rfl, fun i u hu => by rw [Addr.add_mid, Nat.zero_add, (at_new w C e).cell, ← hu, Array.getElem?_toList]⟩⟩
theorem rdR_at {w : World} {g : Nat} {e : TypeId} {C : Array Value} (h : At w g C e) : RdR w C.size (.slice (some ⟨g, 0, none⟩) 1 1) 1 C.toList :=
  ⟨by simp, _, _, rfl, fun _ => ⟨_, rfl, fun i u hu => by rw [Addr.add_mid, Nat.zero_add, h.cell, ← hu, Array.getElem?_toList]⟩⟩
theorem ownsRow_slR {w : World} {B : Nat} {e : TypeId} {z n : Nat} {v : Value} {xs : List Value} (h : w.ownsRow B e z v n xs) : SlR (fun k => B ≤ k) w z v n xs := by
  obtain ⟨hl, h | ⟨g, cap, cur, rfl, hg, hh, hn, hc, hs, ht⟩⟩ := h
  · obtain ⟨rfl, rfl⟩ := h
    have : xs = [] := List.eq_nil_of_length_eq_zero (by simpa using hl)
    subst this
    exact SlR.nil _ _ _
  · refine ⟨hl, _, cap, rfl, hn, fun _ => ⟨g, 0, rfl, hg, (Array.getElem?_eq_some_iff.1 hh).1, fun j u hu => ?_⟩⟩
    have hi := (List.getElem?_eq_some_iff.1 hu).1
    rw [Nat.zero_add, cell_of_row w g j cur _ (0, 0) hh]
    have h1 : (cur.toList.take (n * z))[j]? = xs[j]? := by rw [ht]
    rw [List.getElem?_take, if_pos (by omega)] at h1
    rw [← Array.getElem?_toList, h1, hu]
theorem ownsRow_keep {w w' : World} {B : Nat} {e : TypeId} {z n : Nat} {v : Value} {xs : List Value} (h : w.ownsRow B e z v n xs) (hk : ∀ g, v.ownBlock = some g → w'.heap[g]? = w.heap[g]?) : w'.ownsRow B e z v n xs := by
  refine ⟨h.1, ?_⟩
  rcases h.2 with hn | ⟨g, cap, cur, rfl, hg, hh, hr⟩
  · exact .inl hn
  · exact .inr ⟨g, cap, cur, rfl, hg, by rw [hk g rfl]; exact hh, hr⟩
theorem ownsRow_below {w w' : World} {B : Nat} {e : TypeId} {z n : Nat} {v : Value} {xs : List Value} (h : w.ownsRow B e z v n xs) (hb : Below w.heap.size w w') : w'.ownsRow B e z v n xs :=
  ownsRow_keep h fun g hg => hb.block g (World.ownsRow.lt h g hg).2
theorem ownsRow_base {w : World} {B B' : Nat} {e : TypeId} {z n : Nat} {v : Value} {xs : List Value} (h : w.ownsRow B e z v n xs) (hB : B' ≤ B) : w.ownsRow B' e z v n xs := by
  refine ⟨h.1, ?_⟩
  rcases h.2 with hn | ⟨g, cap, cur, e, hg, hr⟩
  · exact .inl hn
  · exact .inr ⟨g, cap, cur, e, Nat.le_trans hB hg, hr⟩
/-- Own rows of other types lie in other blocks. -/
theorem ownsRow_ne {w : World} {B B' : Nat} {e e' : TypeId} {z z' n n' : Nat} {v v' : Value} {xs ys : List Value} (h : w.ownsRow B e z v n xs) (k : w.ownsRow B' e' z' v' n' ys) (he : e ≠ e') : ∀ g, v.ownBlock = some g → v'.ownBlock ≠ some g := by
  intro g hg hg'
  rcases h.2 with ⟨rfl, _⟩ | ⟨b, cap, cur, rfl, _, hh, _⟩
  · simp [Value.ownBlock] at hg
  rcases k.2 with ⟨rfl, _⟩ | ⟨b', cap', cur', rfl, _, hh', _⟩
  · simp [Value.ownBlock] at hg'
  have e1 : b = g := by simpa [Value.ownBlock] using hg
  have e2 : b' = g := by simpa [Value.ownBlock] using hg'
  subst e1; subst e2
  rw [hh] at hh'
  injection hh' with hh'
  injection hh' with _ h2
  exact he h2
theorem ownsRow_nil0 (w : World) (B : Nat) (e : TypeId) (z : Nat) : w.ownsRow B e z (.slice none 0 0) 0 [] := ⟨by simp, .inl ⟨rfl, rfl⟩⟩
section
variable {P : Program} {w : World} {B : Nat} {e : TypeId} {v : Value} {xs : List Value}
theorem run_append_rows {t ty : TypeId} {zv vx : Value} {n m z : Nat} {ys : List Value} {bytes : Nat} (he : elemR P t e zv z bytes) (hzv : zv.cells.size = z) (hz0 : 0 < z) (hown : w.ownsRow B e z v n xs) (hrd : RdR w z vx m ys) (h1 : ∀ u ∈ ys, u.oneCell' = true) (hlen : (n + m) * bytes ≤ 140737488355328) (hl2 : n + m < 140737488355328) (hB : B ≤ w.heap.size) :
    ∃ v' w', (Builtin.append_ #[t, t] ty #[v, vx]).run P w = .ok v' w' ∧ w'.ownsRow B e z v' (n + m) (xs ++ ys) ∧ (∀ k, k < w.heap.size → v.ownBlock ≠ some k → w'.heap[k]? = w.heap[k]?) ∧ Below B w w' := by
  obtain ⟨i0, hi, hzz, hs, hb⟩ := info_parts he.2
  obtain ⟨hyl, a0, cap, rfl, hr⟩ := hrd
  have hml : 140737488355328 ≤ maxLen := by simp [maxLen]
  have hlt : ∀ g, v.ownBlock = some g → B ≤ g := fun g hg => (World.ownsRow.lt hown g hg).1
  by_cases hne : m = 0
  · subst hne
    have hys : ys = [] := List.eq_nil_of_length_eq_zero (by simpa using hyl)
    subst hys
    cases a0 with
    | none =>
      refine ⟨v, w, ?_, by simpa using hown, fun _ _ _ => rfl, Below.refl _ _⟩
      rcases hown.2 with ⟨rfl, rfl⟩ | ⟨g, cap', cur, rfl, _, _, hn, _⟩
      · simp [Builtin.append_, run_underlying he.1, sizeOf, typeInfo, hi, Builtin.lenOf, Builtin.firstCells]
      · simp [Builtin.append_, run_underlying he.1, sizeOf, typeInfo, hi, Builtin.lenOf, Builtin.firstCells, hn, storeCells]
    | some ad =>
      obtain ⟨v', w', hrun, h2, h3, _, _⟩ := run_append_own_at (P := P) w B t ty e i0 zv z bytes he.1 hi hzz hs hb hzv hz0 v n xs hown ad 0 cap [] (by simp) (fun j u hu => by simp at hu) (fun u hu => by simp at hu) (by omega) (by simpa using hlen) hB
      exact ⟨v', w', hrun, h2, fun k hk hne => h3.block k hk (fun e => hne e.symm), (Below.refl _ _).grown h3 hB hlt⟩
  · obtain ⟨ad, rfl, hc⟩ := hr hne
    obtain ⟨v', w', hrun, h2, h3, _, _⟩ := run_append_own_at (P := P) w B t ty e i0 zv z bytes he.1 hi hzz hs hb hzv hz0 v n xs hown ad m cap ys hyl hc h1 (by omega) hlen hB
    exact ⟨v', w', hrun, h2, fun k hk hne => h3.block k hk (fun e => hne e.symm), (Below.refl _ _).grown h3 hB hlt⟩
theorem wpList_append_rows {ops : Array Oper} {rest : List Oper} {o : Oper} {a : Act} {Q : Exit → Act → World → Prop} (hgd : o.guard = none) (s x : Operand) (t : TypeId) (ho : o.op = .call { callee := .builtin .append, args := #[s, x], argTypes := #[t, t] })
    (vx : Value) (n m z : Nat) (ys : List Value) (zv : Value) (bytes : Nat) (he : elemR P t e zv z bytes) (hzv : zv.cells.size = z) (hz0 : 0 < z) (hs : a.eval s = v) (hown : w.ownsRow B e z v n xs) (hx : a.eval x = vx) (hrd : RdR w z vx m ys) (h1 : ∀ u ∈ ys, u.oneCell' = true) (hlen : (n + m) * bytes ≤ 140737488355328) (hl2 : n + m < 140737488355328) (hB : B ≤ w.heap.size)
    (h : ∀ v' w', w'.ownsRow B e z v' (n + m) (xs ++ ys) → (∀ k, k < w.heap.size → v.ownBlock ≠ some k → w'.heap[k]? = w.heap[k]?) → Below B w w' → wpList P ops Q rest (a.put o.dst v') w') :
    wpList P ops Q (o :: rest) a w := by
  refine wpList_plain hgd fun K hK => ?_
  obtain ⟨v', w', hrun, h2, h3, h4⟩ := run_append_rows (P := P) (ty := o.type) he hzv hz0 hown hrd h1 hlen hl2 hB
  unfold Oper.wp execOp
  simp only [ho, resolve, invoke, builtin, Sem.run_bind, Sem.run_pure, Result.andThen_ok, List.map_toArray, List.map_cons, List.map_nil, hs, hx, hrun]
  exact hK _ _ (h v' w' h2 h3 h4)
theorem plan_append_rows {ops : Array Oper} {o : Oper} {a : Act} {Q : Exit → Act → World → Prop} {S : World → Prop} {i : Nat} {r : Plan} (s x : Operand) (t : TypeId) (ho : ops.toList[i]? = some o) (hw : Region.wanted o (yielded ops a.tmps) = true) (hop : o.op = .call { callee := .builtin .append, args := #[s, x], argTypes := #[t, t] })
    (vx : Value) (n m z : Nat) (ys : List Value) (zv : Value) (bytes : Nat) (he : elemR P t e zv z bytes) (hzv : zv.cells.size = z) (hz0 : 0 < z) (hs : a.eval s = v) (hown : w.ownsRow B e z v n xs) (hx : a.eval x = vx) (hrd : RdR w z vx m ys) (h1 : ∀ u ∈ ys, u.oneCell' = true) (hlen : (n + m) * bytes ≤ 140737488355328) (hl2 : n + m < 140737488355328) (hB : B ≤ w.heap.size)
    (h : ∀ v' w', w'.ownsRow B e z v' (n + m) (xs ++ ys) → (∀ k, k < w.heap.size → v.ownBlock ≠ some k → w'.heap[k]? = w.heap[k]?) → Below B w w' → S w' ∧ wpPlan P ops Q S r (a.put o.dst v') w') :
    wpPlan P ops Q S (.sole i r) a w := by
  refine wpOp_at ho hw ?_
  obtain ⟨v', w', hrun, h2, h3, h4⟩ := run_append_rows (P := P) (ty := o.type) he hzv hz0 hown hrd h1 hlen hl2 hB
  unfold Oper.wp execOp
  simp only [hop, resolve, invoke, builtin, Sem.run_bind, Sem.run_pure, Result.andThen_ok, List.map_toArray, List.map_cons, List.map_nil, hs, hx, hrun]
  exact h v' w' h2 h3 h4
end
/-- The end of a function whose results are a row in a block known whole, and a value. -/
theorem ret_row_tmp {P : Program} {fn : Func} {R : Ending → World → Prop} {tmps : Array Value} {w : World} {p u : Tmp} {ty : TypeId} (h : fn.results = #[.cell p ty, .tmp u]) (g : Nat) (t : TypeId) (cs : Array Value) (d : TypeDesc) (v : Value)
    (hp : tmps.getD p undef = .pointer (some ⟨g, 0, none⟩)) (hv : tmps.getD u undef = v) (hg : At w g cs t) (hu : P.underlying ty = some d) (hd : d.isRow = true) (hi : (P.info? ty).map (·.size) = some cs.size)
    (hR : R (.returned (.tuple #[.agg cs, v])) w) : bodyPost P fn R .ret ⟨tmps, []⟩ w := by
  refine bodyPost_ret (v := .tuple #[.agg cs, v]) ?_ rfl hR
  rw [results_cell_tmp h, hp, hv]
  have hrow := run_loadVar_row (P := P) w g t ty cs (0, 0) d hg hu (by cases d <;> first | rfl | exact hd) hi
  simp [asAddr, Result.andThen, hrow]
/-- Two lists, member by member. -/
def Each2 {α β : Type} (R : α → β → Prop) : List α → List β → Prop
  | [], [] => True
  | x :: l, y :: m => R x y ∧ Each2 R l m
  | _, _ => False
theorem Each2.length {α β : Type} {R : α → β → Prop} : ∀ {l : List α} {m : List β}, Each2 R l m → l.length = m.length
  | [], [], _ => rfl
  | _ :: l, _ :: m, h => by simp [Each2.length h.2]
theorem Each2.mono {α β : Type} {R S : α → β → Prop} (hs : ∀ x y, R x y → S x y) : ∀ {l : List α} {m : List β}, Each2 R l m → Each2 S l m
  | [], [], _ => trivial
  | _ :: _, _ :: _, h => ⟨hs _ _ h.1, Each2.mono hs h.2⟩
theorem Each2.snoc {α β : Type} {R : α → β → Prop} {x : α} {y : β} (hr : R x y) : ∀ {l : List α} {m : List β}, Each2 R l m → Each2 R (l ++ [x]) (m ++ [y])
  | [], [], _ => ⟨hr, trivial⟩
  | _ :: _, _ :: _, h => ⟨h.1, Each2.snoc hr h.2⟩
theorem Each2.at {α β : Type} {R : α → β → Prop} : ∀ {l : List α} {m : List β}, Each2 R l m → ∀ {i : Nat} {y : β}, m[i]? = some y → ∃ x, l[i]? = some x ∧ R x y
  | [], [], _, _, _, hy => by simp at hy
  | _ :: _, z :: _, h, 0, y, hy => by
    have hzy : z = y := by simpa using hy
    subst hzy
    exact ⟨_, rfl, h.1⟩
  | _ :: l, _ :: m, h, i + 1, y, hy => by
    have hy' : m[i]? = some y := by simpa using hy
    simpa using Each2.at h.2 hy'
end Mem
end Go.Proofs.Yteiffdccfmfdbaa
