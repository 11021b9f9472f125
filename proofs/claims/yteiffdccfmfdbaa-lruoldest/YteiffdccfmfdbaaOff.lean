/- A slice of the call's own that begins anywhere in its block, of elements of one cell: it reads as a list; cut at its head; a literal of one element appended to it. Over any program. -/
import Derived.Test.YteiffdccfmfdbaaOwn
import Derived.Test.YteiffdccfmfdbaaMem
namespace Go.Proofs.Yteiffdccfmfdbaa
namespace Mem
open Go.RowKit
/-- v is the call's own slice of the values xs, in a block from B on. -/
def OwnO (w : World) (B : Nat) (e : TypeId) (v : Value) (xs : List Value) : Prop :=
  (v = .slice none 0 0 ∧ xs = []) ∨ ∃ g off cap cur, v = .slice (some ⟨g, off, none⟩) xs.length cap ∧ B ≤ g ∧ w.heap[g]? = some (.cells cur e (0, 0)) ∧ xs.length ≤ cap ∧ cap ≤ maxLen ∧ off + cap ≤ cur.size ∧ (cur.toList.drop off).take xs.length = xs
section
variable {P : Program} {w w' : World} {B : Nat} {e : TypeId} {v : Value} {xs : List Value}
theorem OwnV.off (h : OwnV w B e v xs) : OwnO w B e v xs := by
  obtain ⟨_, h | ⟨g, cap, cur, rfl, hg, hh, hn, hc, hs, ht⟩⟩ := h
  · exact .inl ⟨h.1, List.eq_nil_of_length_eq_zero h.2⟩
  · exact .inr ⟨g, 0, cap, cur, rfl, hg, hh, hn, hc, by omega, by rw [List.drop_zero]; rw [Nat.mul_one] at ht; exact ht⟩
theorem OwnO.lt (h : OwnO w B e v xs) : ∀ k, v.ownBlock = some k → B ≤ k ∧ k < w.heap.size := by
  intro k hk
  rcases h with ⟨rfl, _⟩ | ⟨g, off, cap, cur, rfl, hg, hh, _⟩
  · simp [Value.ownBlock] at hk
  · have : g = k := by simpa [Value.ownBlock] using hk
    subst this
    exact ⟨hg, (Array.getElem?_eq_some_iff.1 hh).1⟩
theorem OwnO.keep (h : OwnO w B e v xs) (hk : ∀ g, v.ownBlock = some g → w'.heap[g]? = w.heap[g]?) : OwnO w' B e v xs := by
  rcases h with h | ⟨g, off, cap, cur, rfl, hg, hh, hr⟩
  · exact .inl h
  · exact .inr ⟨g, off, cap, cur, rfl, hg, by rw [hk g rfl]; exact hh, hr⟩
theorem OwnO.below (h : OwnO w B e v xs) (hb : Below w.heap.size w w') : OwnO w' B e v xs := h.keep fun g hg => hb.block g (h.lt g hg).2
theorem OwnO.hd (h : OwnO w B e v xs) : ∃ a c, v = .slice a xs.length c := by
  rcases h with ⟨rfl, rfl⟩ | ⟨g, off, cap, cur, rfl, _⟩
  · exact ⟨none, 0, rfl⟩
  · exact ⟨_, cap, rfl⟩
theorem OwnO.cells (h : OwnO w B e v xs) : ∃ a cap, v = .slice a xs.length cap ∧ xs.length ≤ cap ∧ (xs ≠ [] → ∃ b o, a = some ⟨b, o, none⟩ ∧ b < w.heap.size ∧ ∀ i u, xs[i]? = some u → w.cell? ⟨b, o + i, none⟩ = some u) := by
  rcases h with ⟨rfl, rfl⟩ | ⟨g, off, cap, cur, rfl, hg, hh, hn, hc, hs, ht⟩
  · exact ⟨none, 0, rfl, Nat.le_refl _, fun h => absurd rfl h⟩
  · refine ⟨_, cap, rfl, hn, fun _ => ⟨g, off, rfl, (Array.getElem?_eq_some_iff.1 hh).1, fun i u hu => ?_⟩⟩
    have hi := (List.getElem?_eq_some_iff.1 hu).1
    rw [cell_of_row w g (off + i) cur _ (0, 0) hh, ← Array.getElem?_toList]
    have h1 : ((cur.toList.drop off).take xs.length)[i]? = xs[i]? := by rw [ht]
    rw [List.getElem?_take, if_pos hi, List.getElem?_drop] at h1
    rw [h1, hu]
/-- Cut at its head. -/
theorem OwnO.tail {x : Value} {a : Option Addr} {n c : Nat} (h : OwnO w B e (.slice a n c) (x :: xs)) : OwnO w B e (.slice (if c = 1 then a else a.map (·.add 1)) (n - 1) (c - 1)) xs := by
  rcases h with ⟨_, h0⟩ | ⟨g, off, cap, cur, hv, hg, hh, hn, hc, hs, ht⟩
  · cases h0
  · injection hv with e1 e2 e3
    subst e1; subst e2; subst e3
    simp only [List.length_cons] at hn ht ⊢
    right
    have ht' : (cur.toList.drop (off + 1)).take xs.length = xs := by
      have h1 := congrArg (List.drop 1) ht
      rw [List.drop_take, List.drop_drop] at h1
      simpa using h1
    by_cases hc1 : c = 1
    · rw [if_pos hc1]
      have h0 : xs = [] := List.eq_nil_of_length_eq_zero (by omega)
      subst h0
      exact ⟨g, off, c - 1, cur, rfl, hg, hh, Nat.zero_le _, by omega, by omega, by simp⟩
    · rw [if_neg hc1]
      exact ⟨g, off + 1, c - 1, cur, by simp [Addr.add], hg, hh, by omega, by omega, by omega, ht'⟩
theorem run_append_off {t ty : TypeId} {z x : Value} {bytes : Nat} (he : elemB P t e z bytes) (hz1 : z.cells.size = 1) (hown : OwnO w B e v xs) (h1 : x.oneCell' = true) (hlen : (xs.length + 1) * bytes ≤ 140737488355328) (hl2 : xs.length < 140737488355328) (hB : B ≤ w.heap.size) :
    ∃ v' w', (Builtin.append_ #[t, t] ty #[v, .slice (some ⟨w.heap.size, 0, none⟩) 1 1]).run P (w.alloc (.cells #[x] e)) = .ok v' w' ∧ OwnO w' B e v' (xs ++ [x]) ∧ (∀ k, k < w.heap.size → v.ownBlock ≠ some k → w'.heap[k]? = w.heap[k]?) ∧ Below B w w' ∧ (v'.ownBlock = v.ownBlock ∨ ∃ g, v'.ownBlock = some g ∧ w.heap.size ≤ g) := by
  obtain ⟨i0, hi, hz0, hs, hb⟩ := info_parts he.2
  have hal : Below w.heap.size w (w.alloc (.cells #[x] e)) := (Below.refl _ _).alloc (Nat.le_refl _) _
  have hml : 140737488355328 ≤ maxLen := by simp [maxLen]
  rcases hown with ⟨rfl, rfl⟩ | ⟨g, off, cap, cur, rfl, hbg, hg, hnc, hcm, hcs, htake⟩
  · obtain ⟨v', w', hrun, h2, h3, h4, h5⟩ := run_append_lit (P := P) (ty := ty) he hz1 (OwnV.nil w B e) h1 hlen hl2 hB
    exact ⟨v', w', hrun, OwnV.off h2, h3, h4, h5⟩
  have hglt : g < w.heap.size := (Array.getElem?_eq_some_iff.1 hg).1
  have hgg : (w.alloc (.cells #[x] e)).heap[g]? = some (.cells cur e (0, 0)) := by rw [hal.block g hglt]; exact hg
  have hnew : ∀ j u, [x][j]? = some u → (w.alloc (.cells #[x] e)).cell? ((⟨w.heap.size, 0, none⟩ : Addr).add j) = some u := fun j u hu => by
    have hj : j = 0 := by
      have := (List.getElem?_eq_some_iff.1 hu).1
      simpa using this
    subst hj
    have hx : x = u := by simpa using hu
    rw [Addr.add_mid, (at_new w #[x] e).cell, ← hx]; rfl
  have hone : ∀ u ∈ [x], u.oneCell' = true := fun u hu => by
    have hx : u = x := by simpa using hu
    rw [hx]; exact h1
  by_cases hroom : xs.length + 1 ≤ cap
  · have hf := run_firstCells_some (P := P) (w.alloc (.cells #[x] e)) i0.size 1 ⟨w.heap.size, 0, none⟩ 1 1 [x] (by rw [hs]; rfl) hnew
    have hst := run_storeCells_at P g (off + xs.length) e [x] 0 cur (w.alloc (.cells #[x] e)) hgg (by simp; omega) hone
    simp only [Nat.add_zero] at hst
    refine ⟨.slice (some ⟨g, off, none⟩) (xs.length + 1) cap, (w.alloc (.cells #[x] e)).setRow g (cur.toList.take (off + xs.length) ++ [x] ++ cur.toList.drop (off + xs.length + 1)).toArray, ?_, .inr ⟨g, off, cap, _, by simp, hbg, setRow_heap _ g cur _ e _ hgg, by simpa using hroom, hcm, ?_, ?_⟩, fun k hk hne => ?_, ?_, .inl rfl⟩
    · have e1 : (⟨g, off, none⟩ : Addr).add (xs.length * i0.size) = ⟨g, off + xs.length, none⟩ := by rw [Addr.add_mid, hs, Nat.mul_one]
      have hst' : (storeCells ⟨g, off + xs.length, none⟩ [x]).run P (w.alloc (.cells #[x] e)) = .ok () ((w.alloc (.cells #[x] e)).setRow g (cur.toList.take (off + xs.length) ++ [x] ++ cur.toList.drop (off + xs.length + 1)).toArray) := by simpa using hst
      simp [Builtin.append_, run_underlying he.1, sizeOf, typeInfo, hi, Builtin.lenOf, hroom, hf, e1]
      first | exact hst' | simp [hst']
    · simp only [List.size_toArray, List.length_append, List.length_take, List.length_drop, Array.length_toList, List.length_singleton]
      omega
    · rw [List.toList_toArray, List.append_assoc, List.drop_append_of_le_length (by simp; omega), List.drop_take, show off + xs.length - off = xs.length by omega, htake]
      rw [← List.append_assoc]
      exact List.take_left' rfl
    · rw [setRow_other _ g k _ (fun e => hne (by simp [Value.ownBlock, e])), hal.block k hk]
    · exact below_row (hal.mono hB) hbg _
  · have hcell : ∀ j u, xs[j]? = some u → (w.alloc (.cells #[x] e)).cell? ((⟨g, off, none⟩ : Addr).add j) = some u := fun j u hu => by
      have hi := (List.getElem?_eq_some_iff.1 hu).1
      rw [Addr.add_mid, cell_of_row _ g (off + j) cur _ (0, 0) hgg, ← Array.getElem?_toList]
      have h1 : ((cur.toList.drop off).take xs.length)[j]? = xs[j]? := by rw [htake]
      rw [List.getElem?_take, if_pos hi, List.getElem?_drop] at h1
      rw [h1, hu]
    have hr := run_append_grow (P := P) (w.alloc (.cells #[x] e)) t ty e i0 z he.1 hi hz0 ⟨g, off, none⟩ xs.length cap xs (by rw [hs, Nat.mul_one]) hcell ⟨w.heap.size, 0, none⟩ 1 1 [x] (by rw [hs]; rfl) hnew (by omega) (by omega) (by rw [hb]; exact growslice_fits (by omega) hlen)
    have hge := grownCap_ge (w.alloc (.cells #[x] e)) (xs.length + 1) cap e
    have hcm' : grownCap (w.alloc (.cells #[x] e)) (xs.length + 1) cap e ≤ maxLen := grownCap_le_maxLen _ (xs.length + 1) cap e (by omega)
    refine ⟨_, _, hr, .inr ⟨_, 0, _, _, by simp, Nat.le_trans hB hal.size, heap_alloc_new _ _, by simpa using hge, hcm', ?_, ?_⟩, fun k hk _ => ?_, ?_, .inr ⟨_, rfl, hal.size⟩⟩
    · simp only [Array.size_append, List.size_toArray, size_zeroCells, hz1, List.length_singleton]
      omega
    · simp only [Array.toList_append, List.append_assoc, List.drop_zero]
      rw [← List.append_assoc]
      exact List.take_left' rfl
    · have hlt : k < (w.alloc (.cells #[x] e)).heap.size := Nat.lt_of_lt_of_le hk hal.size
      have hk2 : ∀ o, ((w.alloc (.cells #[x] e)).drew.alloc o).heap[k]? = (w.alloc (.cells #[x] e)).heap[k]? := fun o => by first | exact heap_alloc_old _ _ k hlt | exact heap_alloc_old _ _ hlt
      rw [hk2, hal.block k hk]
    · exact ((hal.mono hB).drew).alloc (Nat.le_trans hB hal.size) _
theorem wpList_append_off {ops : Array Oper} {rest : List Oper} {o : Oper} {a : Act} {Q : Exit → Act → World → Prop} (hgd : o.guard = none) (s x : Operand) (t : TypeId) (ho : o.op = .call { callee := .builtin .append, args := #[s, x], argTypes := #[t, t] })
    (u z : Value) (bytes : Nat) (he : elemB P t e z bytes) (hz1 : z.cells.size = 1) (hs : a.eval s = v) (hown : OwnO w B e v xs) (hx : a.eval x = .slice (some ⟨w.heap.size, 0, none⟩) 1 1) (h1 : u.oneCell' = true) (hlen : (xs.length + 1) * bytes ≤ 140737488355328) (hl2 : xs.length < 140737488355328) (hB : B ≤ w.heap.size)
    (h : ∀ v' w', OwnO w' B e v' (xs ++ [u]) → (∀ k, k < w.heap.size → v.ownBlock ≠ some k → w'.heap[k]? = w.heap[k]?) → Below B w w' → (v'.ownBlock = v.ownBlock ∨ ∃ g, v'.ownBlock = some g ∧ w.heap.size ≤ g) → wpList P ops Q rest (a.put o.dst v') w') :
    wpList P ops Q (o :: rest) a (w.alloc (.cells #[u] e)) := by
  refine wpList_plain hgd fun K hK => ?_
  obtain ⟨v', w', hrun, h2, h3, h4, h5⟩ := run_append_off (P := P) (ty := o.type) he hz1 hown h1 hlen hl2 hB
  unfold Oper.wp execOp
  simp only [ho, resolve, invoke, builtin, Sem.run_bind, Sem.run_pure, Result.andThen_ok, List.map_toArray, List.map_cons, List.map_nil, hs, hx, hrun]
  exact hK _ _ (h v' w' h2 h3 h4 h5)
/-- The tail of a slice of one-cell elements, its address said. -/
theorem wpList_slice_tail {ops : Array Oper} {rest : List Oper} {op : Oper} {a : Act} {Q : Exit → Act → World → Prop} (hgd : op.guard = none) (ty : TypeId) (x i : Operand) (ho : op.op = .slice ty x (some i) none none)
    (elem : TypeId) (hu : P.underlying ty = some (.slice elem)) (hs : (P.info? elem).map (·.size) = some 1) (a0 : Option Addr) (len cap : Nat) (hx : a.eval x = .slice a0 len cap) (hi : a.eval i = .int .i64 1) (hk : 1 ≤ len)
    (a1 : Option Addr) (ha1 : a1 = if cap = 1 then a0 else a0.map (·.add 1)) (h : wpList P ops Q rest (a.put op.dst (.slice a1 (len - 1) (cap - 1))) w) : wpList P ops Q (op :: rest) a w := by
  refine wpList_plain hgd fun K hK => ?_
  subst ha1
  cases hq : P.info? elem with
  | none => simp [hq] at hs
  | some q =>
    have hs1 : q.size = 1 := by simpa [hq] using hs
    have hrun : (Instr.slice ty (.slice a0 len cap) (some (.int .i64 1)) none none).run P w = .ok (.slice (if cap = 1 then a0 else a0.map (·.add 1)) (len - 1) (cap - 1)) w := by
      simp [Instr.slice, Instr.sliceBounds, Instr.sliceBound, asIntOf, Sem.run_bind, run_underlying hu, sizeOf, typeInfo, hq, hs1]
      try omega
    have hat : (Instr.sliceAt ty (.slice a0 len cap) (some (.int .i64 1)) none none).run P w = .ok (.slice (if cap = 1 then a0 else a0.map (·.add 1)) (len - 1) (cap - 1)) w := by
      simp [Instr.sliceAt, Sem.run_bind, run_underlying hu, hrun]
    unfold Oper.wp execOp
    simp only [ho, hx, hi, Option.map_some, Option.map_none, Sem.run_bind, hat, Result.andThen_ok, Sem.run_pure]
    exact hK _ _ h
end
end Mem
end Go.Proofs.Yteiffdccfmfdbaa
