/- A slice of the call's own, of elements of one cell each: it reads as a list of values; a literal of one element appended to it. Over any program. -/
import Derived.Test.YteiffdccfmfdbaaPlan
import Derived.Maps.AppendAt
import Derived.OwnWalk
namespace Go.Proofs.Yteiffdccfmfdbaa
namespace Mem
open Go.RowKit
/-- v is the call's own slice of the values xs (element type e), in a block from B on. -/
def OwnV (w : World) (B : Nat) (e : TypeId) (v : Value) (xs : List Value) : Prop := w.ownsRow B e 1 v xs.length xs
section
variable {P : Program} {w w' : World} {B : Nat} {e : TypeId} {v : Value} {xs : List Value}
theorem OwnV.nil (w : World) (B : Nat) (e : TypeId) : OwnV w B e (.slice none 0 0) [] := World.ownsRow_nil w B e 1
theorem OwnV.open (h : OwnV w B e v xs) : ∃ a cap, v = .slice a xs.length cap ∧ xs.length ≤ cap ∧ (xs ≠ [] → ∃ g, a = some ⟨g, 0, none⟩ ∧ B ≤ g ∧ g < w.heap.size ∧ ∀ i u, xs[i]? = some u → w.cell? ⟨g, i, none⟩ = some u) := by
  obtain ⟨_, h | ⟨g, cap, cur, rfl, hg, hh, hn, hc, hs, ht⟩⟩ := h
  · obtain ⟨rfl, h0⟩ := h
    exact ⟨none, 0, by rw [h0], by omega, fun hne => absurd (List.eq_nil_of_length_eq_zero h0) hne⟩
  · refine ⟨_, cap, rfl, hn, fun _ => ⟨g, rfl, hg, (Array.getElem?_eq_some_iff.1 hh).1, fun i u hu => ?_⟩⟩
    have hi := (List.getElem?_eq_some_iff.1 hu).1
    rw [cell_of_row w g i cur _ (0, 0) hh]
    have h1 : (cur.toList.take (xs.length * 1))[i]? = xs[i]? := by rw [ht]
    rw [List.getElem?_take, if_pos (by omega)] at h1
    rw [← Array.getElem?_toList, h1, hu]
theorem OwnV.keep (h : OwnV w B e v xs) (hk : ∀ g, v.ownBlock = some g → w'.heap[g]? = w.heap[g]?) : OwnV w' B e v xs := by
  refine ⟨h.1, ?_⟩
  rcases h.2 with hn | ⟨g, cap, cur, rfl, hg, hh, hr⟩
  · exact .inl hn
  · exact .inr ⟨g, cap, cur, rfl, hg, by rw [hk g rfl]; exact hh, hr⟩
theorem OwnV.lt (h : OwnV w B e v xs) : ∀ k, v.ownBlock = some k → B ≤ k ∧ k < w.heap.size := World.ownsRow.lt h
theorem OwnV.below (h : OwnV w B e v xs) (hb : Below w.heap.size w w') : OwnV w' B e v xs := h.keep fun g hg => hb.block g (h.lt g hg).2
/-- Two own slices of other element types lie in other blocks. -/
theorem OwnV.ne_own {B' : Nat} {e' : TypeId} {v' : Value} {ys : List Value} (h : OwnV w B e v xs) (k : OwnV w B' e' v' ys) (he : e ≠ e') : ∀ g, v.ownBlock = some g → v'.ownBlock ≠ some g := by
  intro g hg hg'
  rcases h.2 with ⟨rfl, _⟩ | ⟨b, cap, cur, rfl, _, hh, _⟩
  · simp [Value.ownBlock] at hg
  rcases k.2 with ⟨rfl, _⟩ | ⟨b', cap', cur', rfl, _, hh', _⟩
  · simp [Value.ownBlock] at hg'
  have e1 : b = g := by simpa [Value.ownBlock] using hg
  have e2 : b' = g := by simpa [Value.ownBlock] using hg'
  subst e1; subst e2
  rw [hh] at hh'
  injection hh' with hh'
  injection hh' with _ h2
  exact he h2
/-- What the law of append asks of an element's type, in one closed fact. -/
def elemB (P : Program) (t e : TypeId) (z : Value) (bytes : Nat) : Prop := P.underlying t = some (.slice e) ∧ (P.info? e).map (fun i => (i.zero, i.size, i.bytes)) = some (some z, 1, bytes)
theorem run_append_lit {t ty : TypeId} {z x : Value} {bytes : Nat} (he : elemB P t e z bytes) (hz1 : z.cells.size = 1) (hown : OwnV w B e v xs) (h1 : x.oneCell' = true) (hlen : (xs.length + 1) * bytes ≤ 140737488355328) (hl2 : xs.length < 140737488355328) (hB : B ≤ w.heap.size) :
    ∃ v' w', (Builtin.append_ #[t, t] ty #[v, .slice (some ⟨w.heap.size, 0, none⟩) 1 1]).run P (w.alloc (.cells #[x] e)) = .ok v' w' ∧ OwnV w' B e v' (xs ++ [x]) ∧ (∀ k, k < w.heap.size → v.ownBlock ≠ some k → w'.heap[k]? = w.heap[k]?) ∧ Below B w w' ∧ (v'.ownBlock = v.ownBlock ∨ ∃ g, v'.ownBlock = some g ∧ w.heap.size ≤ g) := by
  obtain ⟨i0, hi, hz0, hs, hb⟩ := info_parts he.2
  have hal : Below w.heap.size w (w.alloc (.cells #[x] e)) := (Below.refl _ _).alloc (Nat.le_refl _) _
  have ho2 := hown.below hal
  have hml : 140737488355328 ≤ maxLen := by simp [maxLen]
  obtain ⟨v', w', hrun, h2, h3, _, h5⟩ := run_append_own_at (P := P) (w.alloc (.cells #[x] e)) B t ty e i0 z 1 bytes he.1 hi hz0 hs hb hz1 (by decide) v xs.length xs ho2 ⟨w.heap.size, 0, none⟩ 1 1 [x] rfl (fun j u hu => by
      have hj : j = 0 := by
        have := (List.getElem?_eq_some_iff.1 hu).1
        simpa using this
      subst hj
      have hx : x = u := by simpa using hu
      rw [Addr.add_mid, (at_new w #[x] e).cell, ← hx]; rfl) (fun u hu => by
      have hx : u = x := by simpa using hu
      rw [hx]; exact h1) (by omega) hlen (Nat.le_trans hB hal.size)
  refine ⟨v', w', hrun, ?_, fun k hk hne => ?_, ?_, ?_⟩
  · unfold OwnV
    rw [List.length_append]
    exact h2
  · rw [h3.block k (Nat.lt_of_lt_of_le hk hal.size) (fun e => hne e.symm), hal.block k hk]
  · exact (hal.mono hB).grown h3 (Nat.le_trans hB hal.size) (fun g hg => (hown.lt g hg).1)
  · rcases h5 with h5 | h5
    · exact .inl h5
    · exact .inr ⟨_, h5, hal.size⟩
/-- What the old header read it reads behind an append of one literal, too: it wrote behind its end, or elsewhere. -/
theorem append_lit_stays {t ty : TypeId} {z x v' : Value} {bytes : Nat} (he : elemB P t e z bytes) (hown : OwnV w B e v xs) (h1 : x.oneCell' = true) (hlen : (xs.length + 1) * bytes ≤ 140737488355328) (hl2 : xs.length < 140737488355328)
    (hrun : (Builtin.append_ #[t, t] ty #[v, .slice (some ⟨w.heap.size, 0, none⟩) 1 1]).run P (w.alloc (.cells #[x] e)) = .ok v' w') (ho' : OwnV w' B e v' (xs ++ [x])) :
    ∀ g i u, v.ownBlock = some g → xs[i]? = some u → w'.cell? ⟨g, i, none⟩ = some u := by
  obtain ⟨i0, hi, hz0, hs, hb⟩ := info_parts he.2
  intro g i u hg hu
  have hal : Below w.heap.size w (w.alloc (.cells #[x] e)) := (Below.refl _ _).alloc (Nat.le_refl _) _
  have ho2 := hown.below hal
  have hcell := World.ownsRow.cells ho2 hg
  rcases ho2.2 with ⟨rfl, _⟩ | ⟨g', cap, cur, rfl, hbg, hgg, hnc, hcm, hcs, htake⟩
  · simp [Value.ownBlock] at hg
  obtain rfl : g' = g := by simpa [Value.ownBlock] using hg
  have hnew : ∀ j u, [x][j]? = some u → (w.alloc (.cells #[x] e)).cell? ((⟨w.heap.size, 0, none⟩ : Addr).add j) = some u := fun j u hu => by
    have hj : j = 0 := by
      have := (List.getElem?_eq_some_iff.1 hu).1
      simpa using this
    subst hj
    have hx : x = u := by simpa using hu
    rw [Addr.add_mid, (at_new w #[x] e).cell, ← hx]; rfl
  by_cases hroom : xs.length + 1 ≤ cap
  · have hr := run_append_room (P := P) (w.alloc (.cells #[x] e)) t ty e i0 he.1 hi g' xs.length cap cur hgg ⟨w.heap.size, 0, none⟩ 1 1 [x] (by rw [hs]; rfl) hnew (fun u hu => by
      have hx : u = x := by simpa using hu
      rw [hx]; exact h1) hroom (by rw [hs, hcs, Nat.mul_one, Nat.mul_one]; simpa using hroom)
    rw [hrun] at hr
    injection hr with hv hw
    subst hv
    have h2 := World.ownsRow.cells ho' (g := g') rfl i u (by rw [List.getElem?_append_left (List.getElem?_eq_some_iff.1 hu).1]; exact hu)
    rw [Addr.add_mid] at h2
    simpa using h2
  · have hr := run_append_grow (P := P) (w.alloc (.cells #[x] e)) t ty e i0 z he.1 hi hz0 ⟨g', 0, none⟩ xs.length cap xs (by rw [hs, Nat.mul_one]) hcell ⟨w.heap.size, 0, none⟩ 1 1 [x] (by rw [hs]; rfl) hnew (by omega) (by omega) (by rw [hb]; exact growslice_fits (by omega) hlen)
    rw [hrun] at hr
    injection hr with hv hw
    have hlt : g' < (w.alloc (.cells #[x] e)).heap.size := (Array.getElem?_eq_some_iff.1 hgg).1
    have h2 := hcell i u hu
    rw [Addr.add_mid] at h2
    have hk : w'.heap[g']? = (w.alloc (.cells #[x] e)).heap[g']? := by rw [hw]; first | exact heap_alloc_old _ _ g' hlt | exact heap_alloc_old _ _ hlt
    rw [World.cell?_of_block (a := ⟨g', i, none⟩) hk]
    simpa using h2
theorem cell_alloc {w : World} {p : Addr} {o : Obj} (h : p.block < w.heap.size) : (w.alloc o).cell? p = w.cell? p :=
  World.cell?_of_block (by first | exact heap_alloc_old _ _ h | exact heap_alloc_old _ _ _ h)
/-- A piece of a slice of one-cell elements. -/
theorem wpList_slice_mid {ops : Array Oper} {rest : List Oper} {op : Oper} {a : Act} {Q : Exit → Act → World → Prop} (hgd : op.guard = none) (ty : TypeId) (x i j : Operand) (ho : op.op = .slice ty x (some i) (some j) none)
    (elem : TypeId) (hu : P.underlying ty = some (.slice elem)) (hs : (P.info? elem).map (·.size) = some 1) (b o len cap k l : Nat) (hx : a.eval x = .slice (some ⟨b, o, none⟩) len cap) (hi : a.eval i = .int .i64 (k : Int)) (hj : a.eval j = .int .i64 (l : Int)) (hk : k ≤ l) (hl : l ≤ cap) (hkc : k < cap)
    (h : wpList P ops Q rest (a.put op.dst (.slice (some ⟨b, o + k, none⟩) (l - k) (cap - k))) w) : wpList P ops Q (op :: rest) a w := by
  refine wpList_plain hgd fun K hK => ?_
  cases hq : P.info? elem with
  | none => simp [hq] at hs
  | some q =>
    have hs1 : q.size = 1 := by simpa [hq] using hs
    have hne : ¬ cap = k := by omega
    have hkl : (k : Int) ≤ (l : Int) := by omega
    have hlc : (l : Int) ≤ (cap : Int) := by omega
    have hrun : (Instr.slice ty (.slice (some ⟨b, o, none⟩) len cap) (some (.int .i64 (k : Int))) (some (.int .i64 (l : Int))) none).run P w = .ok (.slice (some ⟨b, o + k, none⟩) (l - k) (cap - k)) w := by
      simp [Instr.slice, Instr.sliceBounds, Instr.sliceBound, asIntOf, Sem.run_bind, run_underlying hu, sizeOf, typeInfo, hq, hs1, hk, hl, hne, Addr.add_mid]
    have hat : (Instr.sliceAt ty (.slice (some ⟨b, o, none⟩) len cap) (some (.int .i64 (k : Int))) (some (.int .i64 (l : Int))) none).run P w = .ok (.slice (some ⟨b, o + k, none⟩) (l - k) (cap - k)) w := by
      simp [Instr.sliceAt, Sem.run_bind, run_underlying hu, hrun]
    unfold Oper.wp execOp
    simp only [ho, hx, hi, hj, Option.map_some, Option.map_none, Sem.run_bind, hat, Result.andThen_ok, Sem.run_pure]
    exact hK _ _ h
/-- v reads as the values xs. -/
def Rd (w : World) (v : Value) (xs : List Value) : Prop := ∃ a cap, v = .slice a xs.length cap ∧ (xs ≠ [] → ∃ p, a = some p ∧ ∀ i u, xs[i]? = some u → w.cell? (p.add i) = some u)
theorem OwnV.rd (h : OwnV w B e v xs) : Rd w v xs := by
  obtain ⟨a, cap, rfl, _, hr⟩ := h.open
  exact ⟨a, cap, rfl, fun hne => by
    obtain ⟨g, rfl, _, _, hc⟩ := hr hne
    exact ⟨_, rfl, fun i u hu => by rw [Addr.add_mid, Nat.zero_add]; exact hc i u hu⟩⟩
theorem run_append_rd {t ty : TypeId} {z vx : Value} {ys : List Value} {bytes : Nat} (he : elemB P t e z bytes) (hz1 : z.cells.size = 1) (hown : OwnV w B e v xs) (hrd : Rd w vx ys) (h1 : ∀ u ∈ ys, u.oneCell' = true) (hlen : (xs.length + ys.length) * bytes ≤ 140737488355328) (hl2 : xs.length + ys.length < 140737488355328) (hB : B ≤ w.heap.size) :
    ∃ v' w', (Builtin.append_ #[t, t] ty #[v, vx]).run P w = .ok v' w' ∧ OwnV w' B e v' (xs ++ ys) ∧ (∀ k, k < w.heap.size → v.ownBlock ≠ some k → w'.heap[k]? = w.heap[k]?) ∧ Below B w w' ∧ (v'.ownBlock = v.ownBlock ∨ ∃ g, v'.ownBlock = some g ∧ w.heap.size ≤ g) := by
  obtain ⟨i0, hi, hz0, hs, hb⟩ := info_parts he.2
  obtain ⟨a0, cap, rfl, hr⟩ := hrd
  have hml : 140737488355328 ≤ maxLen := by simp [maxLen]
  by_cases hne : ys = []
  · subst hne
    cases a0 with
    | none =>
      refine ⟨v, w, ?_, by simpa using hown, fun _ _ _ => rfl, Below.refl _ _, .inl rfl⟩
      rcases hown.2 with ⟨rfl, _⟩ | ⟨g, cap', cur, rfl, _, _, hn, _⟩
      · simp [Builtin.append_, run_underlying he.1, sizeOf, typeInfo, hi, Builtin.lenOf, Builtin.firstCells]
      · simp [Builtin.append_, run_underlying he.1, sizeOf, typeInfo, hi, Builtin.lenOf, Builtin.firstCells, hn, storeCells]
    | some ad =>
      obtain ⟨v', w', hrun, h2, h3, _, h5⟩ := run_append_own_at (P := P) w B t ty e i0 z 1 bytes he.1 hi hz0 hs hb hz1 (by decide) v xs.length xs hown ad 0 cap [] rfl (fun j u hu => by simp at hu) (fun u hu => by simp at hu) (by omega) (by simpa using hlen) hB
      refine ⟨v', w', hrun, by simpa [OwnV] using h2, fun k hk hne => h3.block k hk (fun e => hne e.symm), (Below.refl _ _).grown h3 hB (fun g hg => (hown.lt g hg).1), ?_⟩
      rcases h5 with h5 | h5
      · exact .inl h5
      · exact .inr ⟨_, h5, Nat.le_refl _⟩
  · obtain ⟨ad, rfl, hc⟩ := hr hne
    obtain ⟨v', w', hrun, h2, h3, _, h5⟩ := run_append_own_at (P := P) w B t ty e i0 z 1 bytes he.1 hi hz0 hs hb hz1 (by decide) v xs.length xs hown ad ys.length cap ys (by rw [Nat.mul_one]) hc h1 (by omega) hlen hB
    refine ⟨v', w', hrun, by unfold OwnV; rw [List.length_append]; exact h2, fun k hk hne => h3.block k hk (fun e => hne e.symm), (Below.refl _ _).grown h3 hB (fun g hg => (hown.lt g hg).1), ?_⟩
    rcases h5 with h5 | h5
    · exact .inl h5
    · exact .inr ⟨_, h5, Nat.le_refl _⟩
theorem plan_append_rd {ops : Array Oper} {o : Oper} {a : Act} {Q : Exit → Act → World → Prop} {S : World → Prop} {i : Nat} {r : Plan} (s x : Operand) (t : TypeId) (ho : ops.toList[i]? = some o) (hw : Region.wanted o (yielded ops a.tmps) = true) (hop : o.op = .call { callee := .builtin .append, args := #[s, x], argTypes := #[t, t] })
    (vx : Value) (ys : List Value) (z : Value) (bytes : Nat) (he : elemB P t e z bytes) (hz1 : z.cells.size = 1) (hs : a.eval s = v) (hown : OwnV w B e v xs) (hx : a.eval x = vx) (hrd : Rd w vx ys) (h1 : ∀ u ∈ ys, u.oneCell' = true) (hlen : (xs.length + ys.length) * bytes ≤ 140737488355328) (hl2 : xs.length + ys.length < 140737488355328) (hB : B ≤ w.heap.size)
    (h : ∀ v' w', OwnV w' B e v' (xs ++ ys) → (∀ k, k < w.heap.size → v.ownBlock ≠ some k → w'.heap[k]? = w.heap[k]?) → Below B w w' → (v'.ownBlock = v.ownBlock ∨ ∃ g, v'.ownBlock = some g ∧ w.heap.size ≤ g) → S w' ∧ wpPlan P ops Q S r (a.put o.dst v') w') :
    wpPlan P ops Q S (.sole i r) a w := by
  refine wpOp_at ho hw ?_
  obtain ⟨v', w', hrun, h2, h3, h4, h5⟩ := run_append_rd (P := P) (ty := o.type) he hz1 hown hrd h1 hlen hl2 hB
  unfold Oper.wp execOp
  simp only [hop, resolve, invoke, builtin, Sem.run_bind, Sem.run_pure, Result.andThen_ok, List.map_toArray, List.map_cons, List.map_nil, hs, hx, hrun]
  exact h v' w' h2 h3 h4 h5
theorem wpList_append_rd {ops : Array Oper} {rest : List Oper} {o : Oper} {a : Act} {Q : Exit → Act → World → Prop} (hgd : o.guard = none) (s x : Operand) (t : TypeId) (ho : o.op = .call { callee := .builtin .append, args := #[s, x], argTypes := #[t, t] })
    (vx : Value) (ys : List Value) (z : Value) (bytes : Nat) (he : elemB P t e z bytes) (hz1 : z.cells.size = 1) (hs : a.eval s = v) (hown : OwnV w B e v xs) (hx : a.eval x = vx) (hrd : Rd w vx ys) (h1 : ∀ u ∈ ys, u.oneCell' = true) (hlen : (xs.length + ys.length) * bytes ≤ 140737488355328) (hl2 : xs.length + ys.length < 140737488355328) (hB : B ≤ w.heap.size)
    (h : ∀ v' w', OwnV w' B e v' (xs ++ ys) → (∀ k, k < w.heap.size → v.ownBlock ≠ some k → w'.heap[k]? = w.heap[k]?) → Below B w w' → (v'.ownBlock = v.ownBlock ∨ ∃ g, v'.ownBlock = some g ∧ w.heap.size ≤ g) → wpList P ops Q rest (a.put o.dst v') w') :
    wpList P ops Q (o :: rest) a w := by
  refine wpList_plain hgd fun K hK => ?_
  obtain ⟨v', w', hrun, h2, h3, h4, h5⟩ := run_append_rd (P := P) (ty := o.type) he hz1 hown hrd h1 hlen hl2 hB
  unfold Oper.wp execOp
  simp only [ho, resolve, invoke, builtin, Sem.run_bind, Sem.run_pure, Result.andThen_ok, List.map_toArray, List.map_cons, List.map_nil, hs, hx, hrun]
  exact hK _ _ (h v' w' h2 h3 h4 h5)
/-- As an arm of the walk: the literal's block is the world's last one. -/
theorem wpList_append_lit {ops : Array Oper} {rest : List Oper} {o : Oper} {a : Act} {Q : Exit → Act → World → Prop} (hgd : o.guard = none) (s x : Operand) (t : TypeId) (ho : o.op = .call { callee := .builtin .append, args := #[s, x], argTypes := #[t, t] })
    (u z : Value) (bytes : Nat) (he : elemB P t e z bytes) (hz1 : z.cells.size = 1) (hs : a.eval s = v) (hown : OwnV w B e v xs) (hx : a.eval x = .slice (some ⟨w.heap.size, 0, none⟩) 1 1) (h1 : u.oneCell' = true) (hlen : (xs.length + 1) * bytes ≤ 140737488355328) (hl2 : xs.length < 140737488355328) (hB : B ≤ w.heap.size)
    (h : ∀ v' w', OwnV w' B e v' (xs ++ [u]) → (∀ k, k < w.heap.size → v.ownBlock ≠ some k → w'.heap[k]? = w.heap[k]?) → Below B w w' → (v'.ownBlock = v.ownBlock ∨ ∃ g, v'.ownBlock = some g ∧ w.heap.size ≤ g) → wpList P ops Q rest (a.put o.dst v') w') :
    wpList P ops Q (o :: rest) a (w.alloc (.cells #[u] e)) := by
  refine wpList_plain hgd fun K hK => ?_
  obtain ⟨v', w', hrun, h2, h3, h4, h5⟩ := run_append_lit (P := P) (ty := o.type) he hz1 hown h1 hlen hl2 hB
  unfold Oper.wp execOp
  simp only [ho, resolve, invoke, builtin, Sem.run_bind, Sem.run_pure, Result.andThen_ok, List.map_toArray, List.map_cons, List.map_nil, hs, hx, hrun]
  exact hK _ _ (h v' w' h2 h3 h4 h5)
/-- In a plan. -/
theorem plan_append_lit {ops : Array Oper} {o : Oper} {a : Act} {Q : Exit → Act → World → Prop} {S : World → Prop} {i : Nat} {r : Plan} (s x : Operand) (t : TypeId) (ho : ops.toList[i]? = some o) (hw : Region.wanted o (yielded ops a.tmps) = true) (hop : o.op = .call { callee := .builtin .append, args := #[s, x], argTypes := #[t, t] })
    (u z : Value) (bytes : Nat) (he : elemB P t e z bytes) (hz1 : z.cells.size = 1) (hs : a.eval s = v) (hown : OwnV w B e v xs) (hx : a.eval x = .slice (some ⟨w.heap.size, 0, none⟩) 1 1) (h1 : u.oneCell' = true) (hlen : (xs.length + 1) * bytes ≤ 140737488355328) (hl2 : xs.length < 140737488355328) (hB : B ≤ w.heap.size)
    (h : ∀ v' w', OwnV w' B e v' (xs ++ [u]) → (∀ k, k < w.heap.size → v.ownBlock ≠ some k → w'.heap[k]? = w.heap[k]?) → Below B w w' → (v'.ownBlock = v.ownBlock ∨ ∃ g, v'.ownBlock = some g ∧ w.heap.size ≤ g) → (∀ g i u, v.ownBlock = some g → xs[i]? = some u → w'.cell? ⟨g, i, none⟩ = some u) → S w' ∧ wpPlan P ops Q S r (a.put o.dst v') w') :
    wpPlan P ops Q S (.sole i r) a (w.alloc (.cells #[u] e)) := by
  refine wpOp_at ho hw ?_
  obtain ⟨v', w', hrun, h2, h3, h4, h5⟩ := run_append_lit (P := P) (ty := o.type) he hz1 hown h1 hlen hl2 hB
  unfold Oper.wp execOp
  simp only [hop, resolve, invoke, builtin, Sem.run_bind, Sem.run_pure, Result.andThen_ok, List.map_toArray, List.map_cons, List.map_nil, hs, hx, hrun]
  exact h v' w' h2 h3 h4 h5 (append_lit_stays he hown h1 hlen hl2 hrun h2)
end
end Mem
end Go.Proofs.Yteiffdccfmfdbaa
