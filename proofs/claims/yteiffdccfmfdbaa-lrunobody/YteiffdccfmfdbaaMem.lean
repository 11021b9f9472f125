/- Blocks of cells known whole: what a load of a part of them reads, what a store of a part of them leaves. Over any program. -/
import Derived.WalkKit
import Derived.Deep.MidRow
import Derived.Deep.Draws
import Derived.Deep.WholeRow
import Derived.Laws.CopyOwn
namespace Go.Proofs.Yteiffdccfmfdbaa
namespace Mem
open Go.RowKit

/-- Block b is the cells C (nothing frozen). -/
def At (w : World) (b : Nat) (C : Array Value) (t : TypeId) : Prop := w.heap[b]? = some (.cells C t (0, 0))

theorem At.cell {w : World} {b : Nat} {C : Array Value} {t : TypeId} (h : At w b C t) (i : Nat) : w.cell? ⟨b, i, none⟩ = C[i]? := cell_of_row w b i C t (0, 0) h
theorem At.free {w : World} {b : Nat} {C : Array Value} {t : TypeId} (h : At w b C t) (i : Nat) : w.frozen? ⟨b, i, none⟩ = false := frozen_of_row w b i C t h
theorem At.lt {w : World} {b : Nat} {C : Array Value} {t : TypeId} (h : At w b C t) : b < w.heap.size := by
  unfold At at h
  exact (Array.getElem?_eq_some_iff.1 h).1
theorem At.below {w w' : World} {B b : Nat} {C : Array Value} {t : TypeId} (h : At w b C t) (hb : Below B w w') (hlt : b < B) : At w' b C t := by
  unfold At at *; rw [hb.block b hlt]; exact h
theorem At.drew {w : World} {b : Nat} {C : Array Value} {t : TypeId} (h : At w b C t) : At w.drew b C t := h
theorem At.set {w : World} {b : Nat} {C : Array Value} {t : TypeId} (h : At w b C t) (i : Nat) (v : Value) : At (w.setCell ⟨b, i, none⟩ v) b (C.setIfInBounds i v) t := heap_setCell_same w b i C t v h
theorem At.set_other {w : World} {b : Nat} {C : Array Value} {t : TypeId} (h : At w b C t) (a : Addr) (v : Value) (hne : b ≠ a.block) : At (w.setCell a v) b C t := by
  unfold At; rw [heap_setCell_other w a b v hne]; exact h
theorem At.alloc {w : World} {b : Nat} {C : Array Value} {t : TypeId} (h : At w b C t) (o : Obj) : At (w.alloc o) b C t := by
  have hl := h.lt
  unfold At; rw [Below.heap_alloc w o b hl]; exact h
theorem at_new (w : World) (C : Array Value) (t : TypeId) : At (w.alloc (.cells C t)) w.heap.size C t := heap_alloc_new w _
theorem At.row {w : World} {b : Nat} {C : Array Value} {t : TypeId} (h : At w b C t) (D : Array Value) : At (w.setRow b D) b D t := setRow_heap w b C D t _ h
theorem At.row_other {w : World} {b g : Nat} {C : Array Value} {t : TypeId} (h : At w b C t) (D : Array Value) (hne : b ≠ g) : At (w.setRow g D) b C t := by
  unfold At; rw [setRow_other w g b D hne]; exact h
theorem below_row {B : Nat} {a w : World} (h : Below B a w) {g : Nat} (hg : B ≤ g) (D : Array Value) : Below B a (w.setRow g D) :=
  h.trans ⟨rfl, rfl, rfl, by simp, fun k hk => setRow_other w g k D (by omega)⟩

/-- The part of a row from o on, n cells. -/
theorem At.range {w : World} {b : Nat} {C : Array Value} {t : TypeId} (h : At w b C t) (o n : Nat) : w.rangeAt b o (C.extract o (o + n)).toList := World.rangeAt_of_block h o n

/-- A row with the cells from o on written over. -/
def splice (C : Array Value) (o : Nat) (D : List Value) : Array Value := (C.toList.take o ++ D ++ C.toList.drop (o + D.length)).toArray

theorem setCells_row {t : TypeId} : ∀ (D : List Value) (o : Nat) (w : World) (b : Nat) (C : Array Value), At w b C t → o + D.length ≤ C.size → w.setCells b o D = w.setRow b (splice C o D)
  | [], o, w, b, C, h, _ => by
    have e : splice C o [] = C := by simp [splice]
    rw [e, World.setCells]
    have hlt := h.lt
    have hv : w.heap[b] = .cells C t (0, 0) := (Array.getElem?_eq_some_iff.1 h).2
    unfold World.setRow
    cases w with
    | mk heap tape drawn os output =>
      congr 1
      apply Array.ext
      · simp
      · intro k h1 h2
        simp only [Array.getElem_modify]
        split
        · rename_i hk; subst hk; simp at hv; simp [hv]
        · rfl
  | v :: r, o, w, b, C, h, hl => by
    have hs : (C.setIfInBounds o v).size = C.size := by simp
    rw [World.setCells, setCells_row r (o + 1) _ b _ (h.set o v) (by simp at hl ⊢; omega), setCell_eq_setRow w b o C t (0, 0) v h, setRow_setRow]
    congr 1
    simp only [List.length_cons] at hl
    unfold splice
    congr 1
    apply List.ext_getElem?
    intro k
    simp only [Array.toList_setIfInBounds, List.getElem?_append, List.length_append, List.length_take, List.length_set, Array.length_toList, List.length_cons, List.getElem?_drop, List.drop_set]
    have e1 : min (o + 1) C.size = o + 1 := by omega
    have e2 : min o C.size = o := by omega
    rw [e1, e2]
    by_cases h1 : k < o
    · simp [h1, show k < o + 1 by omega, show k < o + 1 + r.length by omega, show k < o + (r.length + 1) by omega, show o ≠ k by omega]
    · by_cases h2 : k = o
      · subst h2
        simp [show k < C.size by omega]
        omega
      · by_cases h3 : k < o + 1 + r.length
        · simp [h1, h3, show ¬ k < o + 1 by omega, show k < o + (r.length + 1) by omega, show k - o = (k - (o + 1)) + 1 by omega]
        · simp [h3, show ¬ k < o + (r.length + 1) by omega, show o < o + 1 + r.length by omega]
          congr 1; omega

section
variable {P : Program}
/-- A LOAD OF SEVERAL CELLS out of a block known whole. -/
theorem wpList_load_at {ops : Array Oper} {rest : List Oper} {op : Oper} {a : Act} {w : World} {Q : Exit → Act → World → Prop} (hgd : op.guard = none) (ty : TypeId) (x : Operand) (ho : op.op = .load ty x)
    (b o n : Nat) (hx : a.eval x = .pointer (some ⟨b, o, none⟩)) (d : TypeDesc) (hu : P.underlying ty = some d) (hd : d.isRow = true) (hi : (P.info? ty).map (·.size) = some n)
    (C : Array Value) (t : TypeId) (hC : At w b C t) (hn : o + n ≤ C.size)
    (h : wpList P ops Q rest (a.put op.dst (.agg (C.extract o (o + n)))) w) : wpList P ops Q (op :: rest) a w := by
  refine wpList_load_mid hgd ty x ho b o hx _ d (hC.range o n) hu hd ?_ ?_
  · rw [hi]; simp; omega
  · rw [Array.toArray_toList]; exact h
/-- .. OF A WHOLE BLOCK. -/
theorem wpList_load_all {ops : Array Oper} {rest : List Oper} {op : Oper} {a : Act} {w : World} {Q : Exit → Act → World → Prop} (hgd : op.guard = none) (ty : TypeId) (x : Operand) (ho : op.op = .load ty x)
    (b : Nat) (hx : a.eval x = .pointer (some ⟨b, 0, none⟩)) (d : TypeDesc) (hu : P.underlying ty = some d) (hd : d.isRow = true)
    (C : Array Value) (t : TypeId) (hC : At w b C t) (hi : (P.info? ty).map (·.size) = some C.size)
    (h : wpList P ops Q rest (a.put op.dst (.agg C)) w) : wpList P ops Q (op :: rest) a w := by
  refine wpList_load_at hgd ty x ho b 0 C.size hx d hu hd hi C t hC (by omega) ?_
  simpa using h
/-- A STORE OF SEVERAL CELLS into a block known whole: what follows is asked in a world of which this is known. -/
theorem wpList_store_at {ops : Array Oper} {rest : List Oper} {op : Oper} {a : Act} {w : World} {Q : Exit → Act → World → Prop} (hgd : op.guard = none) (ty : TypeId) (x y : Operand) (ho : op.op = .store ty x y) (hdst : op.dst = none)
    (b o : Nat) (D : Array Value) (hx : a.eval x = .pointer (some ⟨b, o, none⟩)) (hy : a.eval y = .agg D) (hi : (P.info? ty).map (·.size) = some D.size)
    (C : Array Value) (t : TypeId) (hC : At w b C t) (hn : o + D.size ≤ C.size) (h1 : D.all (·.oneCell') = true)
    (h : wpList P ops Q rest a (w.setRow b (splice C o D.toList))) : wpList P ops Q (op :: rest) a w := by
  have hput : a.put op.dst undef = a := by rw [hdst]; rfl
  refine wpList_store_mid hgd ty x y ho b o D hx hy (fun j hj => ?_) hi h1 ?_
  · rw [hC.cell, hC.free]
    exact ⟨by simp; omega, rfl⟩
  · rw [setCells_row _ _ _ _ _ hC (by simpa using hn), hput]; exact h
theorem splice_all (C D : Array Value) (h : D.size = C.size) : splice C 0 D.toList = D := by
  have e : List.drop C.size C.toList = [] := List.drop_of_length_le (by simp)
  simp [splice, h, e]
theorem wpList_store_all {ops : Array Oper} {rest : List Oper} {op : Oper} {a : Act} {w : World} {Q : Exit → Act → World → Prop} (hgd : op.guard = none) (ty : TypeId) (x y : Operand) (ho : op.op = .store ty x y) (hdst : op.dst = none)
    (b : Nat) (D : Array Value) (hx : a.eval x = .pointer (some ⟨b, 0, none⟩)) (hy : a.eval y = .agg D) (hi : (P.info? ty).map (·.size) = some D.size)
    (C : Array Value) (t : TypeId) (hC : At w b C t) (hn : D.size = C.size) (h1 : D.all (·.oneCell') = true)
    (h : wpList P ops Q rest a (w.setRow b D)) : wpList P ops Q (op :: rest) a w := by
  refine wpList_store_at hgd ty x y ho hdst b 0 D hx hy hi C t hC (by omega) h1 ?_
  rw [splice_all C D hn]; exact h
end
theorem wpList_index_row {P : Program} {ops : Array Oper} {rest : List Oper} {op : Oper} {a : Act} {w : World} {Q : Exit → Act → World → Prop} (hgd : op.guard = none) (ty : TypeId) (x i : Operand) (ho : op.op = .index ty x i)
    (n : Nat) (e : TypeId) (hu : P.underlying ty = some (.array n e)) (de : TypeDesc) (he : P.underlying e = some de) (hde : de.isRow = false) (hs : (P.info? e).map (·.size) = some 1)
    (C : Array Value) (k : Nat) (hx : a.eval x = .agg C) (hi : a.eval i = .int .i64 (k : Int)) (hk : k < n) (v : Value) (hv : C[k]? = some v)
    (h : wpList P ops Q rest (a.put op.dst v) w) : wpList P ops Q (op :: rest) a w := by
  refine wpList_plain hgd fun K hK => ?_
  have hagg : (isAgg e).run P w = .ok false w := by
    unfold isAgg
    rw [Sem.run_bind, run_underlying he w]
    cases de <;> simp_all
  cases hq : P.info? e with
  | none => simp [hq] at hs
  | some q =>
    have hs1 : q.size = 1 := by simpa [hq] using hs
    have hrun : (Instr.index ty (.agg C) (.int .i64 (k : Int))).run P w = .ok v w := by
      simp [Instr.index, asIntOf, Sem.run_bind, run_underlying hu, sizeOf, typeInfo, hq, hs1, hk, part, hagg, hv]
    unfold Oper.wp execOp
    simp only [ho, hx, hi, Sem.run_bind, hrun, Result.andThen_ok, Sem.run_pure]
    exact hK _ _ h
/-- A STORE OF SEVERAL CELLS over the block that was made last. -/
theorem wpList_store_new {P : Program} {ops : Array Oper} {rest : List Oper} {op : Oper} {a : Act} {w : World} {Q : Exit → Act → World → Prop} (hgd : op.guard = none) (ty : TypeId) (x y : Operand) (ho : op.op = .store ty x y) (hdst : op.dst = none)
    (D C : Array Value) (t : TypeId) (hx : a.eval x = .pointer (some ⟨w.heap.size, 0, none⟩)) (hy : a.eval y = .agg D) (hi : (P.info? ty).map (·.size) = some D.size)
    (hn : D.size = C.size) (h1 : D.all (·.oneCell') = true)
    (h : wpList P ops Q rest a (w.alloc (.cells D t))) : wpList P ops Q (op :: rest) a (w.alloc (.cells C t)) := by
  refine wpList_store_all hgd ty x y ho hdst w.heap.size D hx hy hi C t (at_new w C t) hn h1 ?_
  rw [World.setRow_alloc_new]; exact h
section
variable {P : Program}
theorem wpList_load_is {ops : Array Oper} {rest : List Oper} {op : Oper} {a : Act} {w : World} {Q : Exit → Act → World → Prop} (hgd : op.guard = none) (ty : TypeId) (x : Operand) (ho : op.op = .load ty x)
    (b o n : Nat) (hx : a.eval x = .pointer (some ⟨b, o, none⟩)) (d : TypeDesc) (hu : P.underlying ty = some d) (hd : d.isRow = true) (hi : (P.info? ty).map (·.size) = some n)
    (C : Array Value) (t : TypeId) (hC : At w b C t) (hn : o + n ≤ C.size) (R : Array Value) (hR : C.extract o (o + n) = R)
    (h : wpList P ops Q rest (a.put op.dst (.agg R)) w) : wpList P ops Q (op :: rest) a w :=
  wpList_load_at hgd ty x ho b o n hx d hu hd hi C t hC hn (by rw [hR]; exact h)
theorem wpList_store_is {ops : Array Oper} {rest : List Oper} {op : Oper} {a : Act} {w : World} {Q : Exit → Act → World → Prop} (hgd : op.guard = none) (ty : TypeId) (x y : Operand) (ho : op.op = .store ty x y) (hdst : op.dst = none)
    (b o : Nat) (D : Array Value) (hx : a.eval x = .pointer (some ⟨b, o, none⟩)) (hy : a.eval y = .agg D) (hi : (P.info? ty).map (·.size) = some D.size)
    (C : Array Value) (t : TypeId) (hC : At w b C t) (hn : o + D.size ≤ C.size) (h1 : D.all (·.oneCell') = true) (E : Array Value) (hE : splice C o D.toList = E)
    (h : ∀ w', At w' b E t → w'.heap.size = w.heap.size → (∀ k, k ≠ b → w'.heap[k]? = w.heap[k]?) → (∀ B a, Below B a w → B ≤ b → Below B a w') → wpList P ops Q rest a w') : wpList P ops Q (op :: rest) a w := by
  refine wpList_store_at hgd ty x y ho hdst b o D hx hy hi C t hC hn h1 ?_
  rw [hE]
  exact h _ (hC.row E) (by simp) (fun k hk => setRow_other w b k E hk) (fun B a hb hB => below_row hb hB E)
/-- copy INTO A PART OF A BLOCK KNOWN WHOLE. -/
theorem wpList_copy_at {ops : Array Oper} {rest : List Oper} {op : Oper} {a : Act} {w : World} {Q : Exit → Act → World → Prop} (hgd : op.guard = none) (x y : Operand) (dT sT : TypeId)
    (ho : op.op = .call { callee := .builtin .copy, args := #[x, y], argTypes := #[dT, sT] }) (elem : TypeId) (hu : P.underlying dT = some (.slice elem)) (hs : (P.info? elem).map (·.size) = some 1)
    (b o dLen dCap : Nat) (sa : Addr) (sLen sCap : Nat) (hx : a.eval x = .slice (some ⟨b, o, none⟩) dLen dCap) (hy : a.eval y = .slice (some sa) sLen sCap)
    (cs : List Value) (hn : cs.length = Nat.min sLen dLen) (hsrc : ∀ j v, cs[j]? = some v → w.cell? (sa.add j) = some v) (h1 : ∀ v ∈ cs, v.oneCell' = true)
    (C : Array Value) (t : TypeId) (hC : At w b C t) (hfit : o + cs.length ≤ C.size) (E : Array Value) (hE : splice C o cs = E) (kk : Nat) (hkk : cs.length = kk)
    (h : ∀ w', At w' b E t → w'.heap.size = w.heap.size → (∀ k, k ≠ b → w'.heap[k]? = w.heap[k]?) → (∀ B a, Below B a w → B ≤ b → Below B a w') → wpList P ops Q rest (a.put op.dst (.int .i64 (kk : Int))) w') : wpList P ops Q (op :: rest) a w := by
  refine wpList_copy_own hgd x y dT sT ho elem hu hs b o dLen dCap sa sLen sCap hx hy C t hC cs hn hsrc hfit h1 ?_
  have e : (C.toList.take o ++ (cs ++ C.toList.drop (o + cs.length))).toArray = E := by rw [← hE, splice, List.append_assoc]
  rw [e, hkk]
  exact h _ (hC.row E) (by simp) (fun k hk => setRow_other w b k E hk) (fun B a hb hB => below_row hb hB E)
theorem wpList_slice_low {ops : Array Oper} {rest : List Oper} {op : Oper} {a : Act} {w : World} {Q : Exit → Act → World → Prop} (hgd : op.guard = none) (ty : TypeId) (x i : Operand) (ho : op.op = .slice ty x (some i) none none)
    (elem : TypeId) (hu : P.underlying ty = some (.slice elem)) (hs : (P.info? elem).map (·.size) = some 1) (a0 : Option Addr) (len cap k : Nat) (hx : a.eval x = .slice a0 len cap) (hi : a.eval i = .int .i64 (k : Int)) (hk : k ≤ len)
    (h : ∀ a1, (∀ bb oo, a0 = some ⟨bb, oo, none⟩ → k < cap → a1 = some ⟨bb, oo + k, none⟩) → wpList P ops Q rest (a.put op.dst (.slice a1 (len - k) (cap - k))) w) : wpList P ops Q (op :: rest) a w := by
  refine wpList_plain hgd fun K hK => ?_
  cases hq : P.info? elem with
  | none => simp [hq] at hs
  | some q =>
    have hs1 : q.size = 1 := by simpa [hq] using hs
    have hrun : (Instr.slice ty (.slice a0 len cap) (some (.int .i64 (k : Int))) none none).run P w = .ok (.slice (if cap = k then a0 else a0.map (·.add k)) (len - k) (cap - k)) w := by
      simp [Instr.slice, Instr.sliceBounds, Instr.sliceBound, asIntOf, Sem.run_bind, run_underlying hu, sizeOf, typeInfo, hq, hs1, hk]
    unfold Oper.wp execOp
    have hat : (Instr.sliceAt ty (.slice a0 len cap) (some (.int .i64 (k : Int))) none none).run P w = .ok (.slice (if cap = k then a0 else a0.map (·.add k)) (len - k) (cap - k)) w := by
      simp [Instr.sliceAt, Sem.run_bind, run_underlying hu, hrun]
    simp only [ho, hx, hi, Option.map_some, Option.map_none, Sem.run_bind, hat, Result.andThen_ok, Sem.run_pure]
    refine hK _ _ (h _ ?_)
    intro bb oo e hlt
    subst e
    rw [if_neg (by omega)]
    simp [Addr.add_mid]
theorem wpList_slice_arr {ops : Array Oper} {rest : List Oper} {op : Oper} {a : Act} {w : World} {Q : Exit → Act → World → Prop} (hgd : op.guard = none) (ty : TypeId) (x i : Operand) (ho : op.op = .slice ty x (some i) none none)
    (n : Nat) (elem : TypeId) (hu : P.underlying ty = some (.array n elem)) (hs : (P.info? elem).map (·.size) = some 1) (b o k : Nat) (hx : a.eval x = .pointer (some ⟨b, o, none⟩)) (hi : a.eval i = .int .i64 (k : Int)) (hk : k < n)
    (h : wpList P ops Q rest (a.put op.dst (.slice (some ⟨b, o + k, none⟩) (n - k) (n - k))) w) : wpList P ops Q (op :: rest) a w := by
  refine wpList_plain hgd fun K hK => ?_
  cases hq : P.info? elem with
  | none => simp [hq] at hs
  | some q =>
    have hs1 : q.size = 1 := by simpa [hq] using hs
    have hne : ¬ n = k := by omega
    have hle : (k : Int) ≤ (n : Int) := by omega
    have hat : (Instr.sliceAt ty (.pointer (some ⟨b, o, none⟩)) (some (.int .i64 (k : Int))) none none).run P w = .ok (.slice (some ⟨b, o + k, none⟩) (n - k) (n - k)) w := by
      simp [Instr.sliceAt, Instr.sureAddr, Instr.sliceBounds, Instr.sliceBound, asIntOf, Sem.run_bind, run_underlying hu, sizeOf, typeInfo, hq, hs1, hne, Addr.add_mid]
      omega
    unfold Oper.wp execOp
    simp only [ho, hx, hi, Option.map_some, Option.map_none, Sem.run_bind, hat, Result.andThen_ok, Sem.run_pure]
    exact hK _ _ h
theorem wpList_slice_arr_to {ops : Array Oper} {rest : List Oper} {op : Oper} {a : Act} {w : World} {Q : Exit → Act → World → Prop} (hgd : op.guard = none) (ty : TypeId) (x i : Operand) (ho : op.op = .slice ty x none (some i) none)
    (n : Nat) (elem : TypeId) (hu : P.underlying ty = some (.array n elem)) (hs : (P.info? elem).map (·.size) = some 1) (b o k : Nat) (hx : a.eval x = .pointer (some ⟨b, o, none⟩)) (hi : a.eval i = .int .i64 (k : Int)) (hk : k ≤ n)
    (h : wpList P ops Q rest (a.put op.dst (.slice (some ⟨b, o, none⟩) k n)) w) : wpList P ops Q (op :: rest) a w := by
  refine wpList_plain hgd fun K hK => ?_
  cases hq : P.info? elem with
  | none => simp [hq] at hs
  | some q =>
    have hs1 : q.size = 1 := by simpa [hq] using hs
    have hle : (k : Int) ≤ (n : Int) := by omega
    have hat : (Instr.sliceAt ty (.pointer (some ⟨b, o, none⟩)) none (some (.int .i64 (k : Int))) none).run P w = .ok (.slice (some ⟨b, o, none⟩) k n) w := by
      simp [Instr.sliceAt, Instr.sureAddr, Instr.sliceBounds, Instr.sliceBound, asIntOf, Sem.run_bind, run_underlying hu, sizeOf, typeInfo, hq, hk, Addr.add_mid]
    unfold Oper.wp execOp
    simp only [ho, hx, hi, Option.map_some, Option.map_none, Sem.run_bind, hat, Result.andThen_ok, Sem.run_pure]
    exact hK _ _ h
end
theorem Below.drewN' {B n : Nat} {a w : World} (h : Below B a w) : Below B a (w.drewN n) := ⟨h.os, h.tape, h.output, h.size, h.block⟩
/-- The end of a function whose one result lies in a block known whole. -/
theorem ret_row {P : Program} {fn : Func} {R : Ending → World → Prop} {tmps : Array Value} {w : World} {p : Tmp} {ty : TypeId} (h : fn.results = #[.cell p ty]) (g : Nat) (t : TypeId) (cs : Array Value) (d : TypeDesc)
    (hp : tmps.getD p undef = .pointer (some ⟨g, 0, none⟩)) (hg : At w g cs t) (hu : P.underlying ty = some d) (hd : d.isRow = true) (hi : (P.info? ty).map (·.size) = some cs.size)
    (hR : R (.returned (.agg cs)) w) : bodyPost P fn R .ret ⟨tmps, []⟩ w :=
  bodyPost_ret (v := .agg cs) (results_cell_row h tmps w g t cs (0, 0) d hp hg hu (by cases d <;> first | rfl | exact hd) hi) rfl hR
end Mem
end Go.Proofs.Yteiffdccfmfdbaa
