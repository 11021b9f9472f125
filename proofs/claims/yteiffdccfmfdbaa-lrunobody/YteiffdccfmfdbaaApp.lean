/- How an append changes an own slice. Over any program. -/
import Derived.Test.YteiffdccfmfdbaaFoot
import Derived.Test.YteiffdccfmfdbaaKeep
import Derived.Test.YteiffdccfmfdbaaPlan2
namespace Go.Proofs.Yteiffdccfmfdbaa
namespace Sha
open Go.RowKit Mem
theorem own_ne_at {w : World} {B b z n : Nat} {e t : TypeId} {v : Value} {xs : List Value} {C : Array Value} (h : w.ownsRow B e z v n xs) (hC : At w b C t) (ht : t ≠ e) : v.ownBlock ≠ some b := by
  rcases h.2 with ⟨rfl, _⟩ | ⟨g, cap, cur, rfl, hg, hh, hr⟩
  · simp [Value.ownBlock]
  · intro e
    have : g = b := by simpa [Value.ownBlock] using e
    subst this
    unfold At at hC
    rw [hh] at hC
    injection hC with hC
    injection hC with _ h2
    exact ht h2.symm
/-- How an append changes an own slice. -/
structure App (w w1 : World) (v v' : Value) : Prop where
  size : w.heap.size ≤ w1.heap.size
  k : ∀ k, k < w.heap.size → v.ownBlock ≠ some k → w1.heap[k]? = w.heap[k]?
  b : v'.ownBlock = v.ownBlock ∨ ∃ g, v'.ownBlock = some g ∧ w.heap.size ≤ g
theorem own_none {e : TypeId} {z : Nat} (w : World) (B : Nat) (hB : B ≤ w.heap.size) : (w.alloc (.cells #[] e)).ownsRow B e z (.slice (some ⟨w.heap.size, 0, none⟩) 0 0) 0 [] := World.ownsRow_made w #[] 0 hB (Nat.zero_le _) (by simp)
theorem App.after {w w0 w1 : World} {v v' : Value} (h : App w0 w1 v v') (hb : Below w.heap.size w w0) : App w w1 v v' :=
  ⟨Nat.le_trans hb.size h.size, fun k hk hn => (h.k k (Nat.lt_of_lt_of_le hk hb.size) hn).trans (hb.block k hk), h.b.imp id fun ⟨g, e, hg⟩ => ⟨g, e, Nat.le_trans hb.size hg⟩⟩
theorem App.chg {F : Foot} {w w1 : World} {v v' : Value} (h : App w w1 v v') (hb : Below 0 w w1) (hF : ∀ k, v.ownBlock = some k → F k) : Chg F w w1 :=
  ⟨hb.os, hb.tape, hb.output, h.size, fun k hk hn => h.k k hk fun e => hn (hF k e)⟩
theorem at_appd {w w1 : World} {b : Nat} {C : Array Value} {t : TypeId} {v v' : Value} (h : At w b C t) (ha : App w w1 v v') (hne : v.ownBlock ≠ some b) : At w1 b C t := Sha.At.app h ha.k hne
section
variable {P : Program} {w : World} {B : Nat} {e : TypeId} {v : Value} {xs : List Value}
theorem run_append_app {t ty : TypeId} {zv vx : Value} {n m z : Nat} {ys : List Value} {bytes : Nat} (he : elemR P t e zv z bytes) (hzv : zv.cells.size = z) (hz0 : 0 < z) (hown : w.ownsRow B e z v n xs) (hrd : RdR w z vx m ys) (h1 : ∀ u ∈ ys, u.oneCell' = true) (hlen : (n + m) * bytes ≤ 140737488355328) (hl2 : n + m < 140737488355328) (hB : B ≤ w.heap.size) :
    ∃ v' w', (Builtin.append_ #[t, t] ty #[v, vx]).run P w = .ok v' w' ∧ w'.ownsRow B e z v' (n + m) (xs ++ ys) ∧ App w w' v v' ∧ Below B w w' := by
  obtain ⟨i0, hi, hzz, hs, hb⟩ := info_parts he.2
  obtain ⟨hyl, a0, cap, rfl, hr⟩ := hrd
  have hml : 140737488355328 ≤ maxLen := by simp [maxLen]
  have hlt : ∀ g, v.ownBlock = some g → B ≤ g := fun g hg => (World.ownsRow.lt hown g hg).1
  have fin : ∀ {v' : Value} {w' : World}, w.grownBy w' v.ownBlock → (v'.ownBlock = v.ownBlock ∨ v'.ownBlock = some w.heap.size) → App w w' v v' ∧ Below B w w' := fun h3 h5 =>
    ⟨⟨h3.size, fun k hk hne => h3.block k hk (fun e => hne e.symm), h5.imp id fun h => ⟨_, h, Nat.le_refl _⟩⟩, (Below.refl _ _).grown h3 hB hlt⟩
  by_cases hne : m = 0
  · subst hne
    have hys : ys = [] := List.eq_nil_of_length_eq_zero (by simpa using hyl)
    subst hys
    cases a0 with
    | none =>
      refine ⟨v, w, ?_, by simpa using hown, fin (World.grownBy.refl w _) (.inl rfl)⟩
      rcases hown.2 with ⟨rfl, rfl⟩ | ⟨g, cap', cur, rfl, _, _, hn, _⟩
      · simp [Builtin.append_, run_underlying he.1, sizeOf, typeInfo, hi, Builtin.lenOf, Builtin.firstCells]
      · simp [Builtin.append_, run_underlying he.1, sizeOf, typeInfo, hi, Builtin.lenOf, Builtin.firstCells, hn, storeCells]
    | some ad =>
      obtain ⟨v', w', hrun, h2, h3, _, h5⟩ := run_append_own_at (P := P) w B t ty e i0 zv z bytes he.1 hi hzz hs hb hzv hz0 v n xs hown ad 0 cap [] (by simp) (fun j u hu => by simp at hu) (fun u hu => by simp at hu) (by omega) (by simpa using hlen) hB
      exact ⟨v', w', hrun, h2, fin h3 h5⟩
  · obtain ⟨ad, rfl, hc⟩ := hr hne
    obtain ⟨v', w', hrun, h2, h3, _, h5⟩ := run_append_own_at (P := P) w B t ty e i0 zv z bytes he.1 hi hzz hs hb hzv hz0 v n xs hown ad m cap ys hyl hc h1 (by omega) hlen hB
    exact ⟨v', w', hrun, h2, fin h3 h5⟩
theorem wpList_append_app {ops : Array Oper} {rest : List Oper} {o : Oper} {a : Act} {Q : Exit → Act → World → Prop} (hgd : o.guard = none) (s x : Operand) (t : TypeId) (ho : o.op = .call { callee := .builtin .append, args := #[s, x], argTypes := #[t, t] })
    (vx : Value) (n m z : Nat) (ys : List Value) (zv : Value) (bytes : Nat) (he : elemR P t e zv z bytes) (hzv : zv.cells.size = z) (hz0 : 0 < z) (hs : a.eval s = v) (hown : w.ownsRow B e z v n xs) (hx : a.eval x = vx) (hrd : RdR w z vx m ys) (h1 : ∀ u ∈ ys, u.oneCell' = true) (hlen : (n + m) * bytes ≤ 140737488355328) (hl2 : n + m < 140737488355328) (hB : B ≤ w.heap.size)
    (h : ∀ v' w', w'.ownsRow B e z v' (n + m) (xs ++ ys) → App w w' v v' → Below B w w' → wpList P ops Q rest (a.put o.dst v') w') :
    wpList P ops Q (o :: rest) a w := by
  refine wpList_plain hgd fun K hK => ?_
  obtain ⟨v', w', hrun, h2, h3, h4⟩ := run_append_app (P := P) (ty := o.type) he hzv hz0 hown hrd h1 hlen hl2 hB
  unfold Oper.wp execOp
  simp only [ho, resolve, invoke, builtin, Sem.run_bind, Sem.run_pure, Result.andThen_ok, List.map_toArray, List.map_cons, List.map_nil, hs, hx, hrun]
  exact hK _ _ (h v' w' h2 h3 h4)
theorem plan_append_app {ops : Array Oper} {o : Oper} {a : Act} {Q : Exit → Act → World → Prop} {S : World → Prop} {i : Nat} {r : Plan} (s x : Operand) (t : TypeId) (ho : ops.toList[i]? = some o) (hw : Region.wanted o (yielded ops a.tmps) = true) (hop : o.op = .call { callee := .builtin .append, args := #[s, x], argTypes := #[t, t] })
    (vx : Value) (n m z : Nat) (ys : List Value) (zv : Value) (bytes : Nat) (he : elemR P t e zv z bytes) (hzv : zv.cells.size = z) (hz0 : 0 < z) (hs : a.eval s = v) (hown : w.ownsRow B e z v n xs) (hx : a.eval x = vx) (hrd : RdR w z vx m ys) (h1 : ∀ u ∈ ys, u.oneCell' = true) (hlen : (n + m) * bytes ≤ 140737488355328) (hl2 : n + m < 140737488355328) (hB : B ≤ w.heap.size)
    (h : ∀ v' w', w'.ownsRow B e z v' (n + m) (xs ++ ys) → App w w' v v' → Below B w w' → S w' ∧ wpPlan P ops Q S r (a.put o.dst v') w') :
    wpPlan P ops Q S (.sole i r) a w := by
  refine wpOp_at ho hw ?_
  obtain ⟨v', w', hrun, h2, h3, h4⟩ := run_append_app (P := P) (ty := o.type) he hzv hz0 hown hrd h1 hlen hl2 hB
  unfold Oper.wp execOp
  simp only [hop, resolve, invoke, builtin, Sem.run_bind, Sem.run_pure, Result.andThen_ok, List.map_toArray, List.map_cons, List.map_nil, hs, hx, hrun]
  exact h v' w' h2 h3 h4
end
theorem ownsRow_base0 {w : World} {B : Nat} {e : TypeId} {z n : Nat} {v : Value} {xs : List Value} (h : w.ownsRow B e z v n xs) : w.ownsRow 0 e z v n xs := ownsRow_base h (Nat.zero_le _)
theorem rows_hd {w : World} {B : Nat} {e : TypeId} {z n : Nat} {v : Value} {xs : List Value} (h : w.ownsRow B e z v n xs) : ∃ a c, v = .slice a n c := by
  obtain ⟨_, a, c, e, _⟩ := ownsRow_slR h
  exact ⟨a, c, e⟩
end Sha
end Go.Proofs.Yteiffdccfmfdbaa
