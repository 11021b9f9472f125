/- Two of the program's stores and two of the document's, all apart, to which the same is done. -/
import Derived.Test.YtkgpcgkikenljaaDevEq
namespace Go.Proofs.Ytkgpcgkikenljaa
namespace Sha
open Go.RowKit Mem
structure Quad (R : StAcc) (a p b q : Nat) (F1 G1 F2 G2 : Foot) (s : St6) (w : World) : Prop where
  a : Pair R a p F1 G1 s w
  b : Pair R b q F2 G2 s w
  d : ∀ k, F1 k ∨ G1 k → ¬ (F2 k ∨ G2 k)
/-- The four, all that they have made since w. -/
def QInv (R : StAcc) (a p b q : Nat) (w : World) (m : Nat) (s : St6) (wr : World) : Prop :=
  ∃ F1 G1 F2 G2, Quad R a p b q F1 G1 F2 G2 s wr ∧ (∀ k, (F1 k ∨ G1 k) ∨ F2 k ∨ G2 k → w.heap.size ≤ k) ∧ Ok6 m s ∧ Below w.heap.size w wr
section
variable {R : StAcc} {a p b q : Nat} {F1 G1 F2 G2 : Foot} {s s2 : St6} {w wr wx w4 w5 : World} {m : Nat}
theorem pair_below (C : DevC R) (h : Pair R a p F1 G1 s w) (hb : Below w.heap.size w wx) : Pair R a p F1 G1 s wx := ⟨C.below h.r hb, h.q.below hb, h.d⟩
theorem pair_chg (C : DevC R) {E : Foot} (h : Pair R a p F1 G1 s w) (hc : Chg E w wx) (hd : ∀ k, F1 k ∨ G1 k → ¬ E k) : Pair R a p F1 G1 s wx :=
  ⟨C.chg h.r hc fun k hk => hd k (.inl hk), h.q.chg hc fun k hk => hd k (.inr hk), h.d⟩
theorem QInv.below (C : DevC R) (h : QInv R a p b q w m s wr) (hb : Below wr.heap.size wr wx) : QInv R a p b q w m s wx := by
  obtain ⟨F1, G1, F2, G2, h1, h2, h3, h4⟩ := h
  exact ⟨F1, G1, F2, G2, ⟨pair_below C h1.a hb, pair_below C h1.b hb, h1.d⟩, h2, h3, h4.trans (hb.mono h4.size)⟩
theorem QInv.base (h : QInv R a p b q w m s wr) : Below w.heap.size w wr := by obtain ⟨_, _, _, _, _, _, _, h4⟩ := h; exact h4
theorem QInv.ok (h : QInv R a p b q w m s wr) : Ok6 m s := by obtain ⟨_, _, _, _, _, _, h3, _⟩ := h; exact h3
theorem QInv.ra (h : QInv R a p b q w m s wr) : ∃ F, R F a wr s := by obtain ⟨F1, _, _, _, h1, _⟩ := h; exact ⟨F1, h1.a.r⟩
theorem QInv.two (h : QInv R a p b q w m s wr) : ∃ F G, R F a wr s ∧ R G b wr s ∧ (∀ k, F k → ¬ G k) ∧ ∀ k, F k → w.heap.size ≤ k := by
  obtain ⟨F1, G1, F2, G2, h1, h2, _⟩ := h
  exact ⟨F1, F2, h1.a.r, h1.b.r, fun k hk hg => h1.d k (.inl hk) (.inl hg), fun k hk => h2 k (.inl (.inl hk))⟩
/-- The second pair, when the step was done at the first one. -/
theorem quad_mid (C : DevC R) (h : Quad R a p b q F1 G1 F2 G2 s w) (h1 : DoEnd R a p F1 G1 w s2 w4) : Pair R b q F2 G2 s w4 :=
  pair_chg C h.b h1.c fun k hk he => h.d k he hk
/-- Both, when it was done at both. -/
theorem quad_step (C : DevC R) {w0 : World} (h : Quad R a p b q F1 G1 F2 G2 s w) (hf : ∀ k, (F1 k ∨ G1 k) ∨ F2 k ∨ G2 k → w0.heap.size ≤ k) (hb : Below w0.heap.size w0 w) (h1 : DoEnd R a p F1 G1 w s2 w4) (h2 : DoEnd R b q F2 G2 w4 s2 w5) (hok : Ok6 m s2) : QInv R a p b q w0 m s2 w5 := by
  obtain ⟨F1', G1', p1, e1, e2⟩ := h1.h
  obtain ⟨F2', G2', p2, e3, e4⟩ := h2.h
  have z0 := hb.size
  have z1 := h1.c.size
  have z2 := h2.c.size
  have l1 : ∀ k, F1' k ∨ G1' k → k < w4.heap.size := fun k hk => hk.elim (C.lt p1.r k) (p1.q.lt k)
  have l2 : ∀ k, F2 k ∨ G2 k → k < w.heap.size := fun k hk => hk.elim (C.lt h.b.r k) (h.b.q.lt k)
  have x1 : ∀ k, F1' k ∨ G1' k → (F1 k ∨ G1 k) ∨ w.heap.size ≤ k := fun k hk => hk.elim (fun h => (e1 k h).imp .inl id) (fun h => (e2 k h).imp .inr id)
  have x2 : ∀ k, F2' k ∨ G2' k → (F2 k ∨ G2 k) ∨ w4.heap.size ≤ k := fun k hk => hk.elim (fun h => (e3 k h).imp .inl id) (fun h => (e4 k h).imp .inr id)
  have d1 : ∀ k, F1' k ∨ G1' k → ¬ (F2 k ∨ G2 k) := fun k hk he => (x1 k hk).elim (fun h5 => h.d k h5 he) (fun h5 => by have := l2 k he; omega)
  refine ⟨F1', G1', F2', G2', ⟨pair_chg C p1 h2.c d1, p2, fun k hk he => (x2 k he).elim (d1 k hk) (fun h5 => by have := l1 k hk; omega)⟩, fun k hk => ?_, hok, ?_⟩
  · rcases hk with hk | hk
    · exact (x1 k hk).elim (fun h5 => hf k (.inl h5)) (fun h5 => by omega)
    · exact (x2 k hk).elim (fun h5 => hf k (.inr h5)) (fun h5 => by omega)
  · exact h2.c.below (h1.c.below hb (fun k hk => hf k (.inl hk)) z0) (fun k hk => hf k (.inr hk)) (Nat.le_trans z0 z1)
end
abbrev dRow (n : Nat) (v : Value) : Array Value := stRow n v (.slice none 0 0) (.slice none 0 0) (.slice none 0 0)
/-- The document's new store. -/
theorem rst_new {w : World} {br n B T : Nat} {v : Value} (h : At w br (dRow n v) 32) (hs : SlB (fun k => B ≤ k ∧ k < T) w v (List.replicate (n * 256) 0)) (hB : br < B) (hT : T ≤ w.heap.size) : RSt (fun k => k = br ∨ (B ≤ k ∧ k < T)) br w (stNew n) := by
  have hl := h.lt
  refine ⟨.inl rfl, fun k hk => hk.elim (fun e => by omega) (fun e => by omega), v, _, _, _, h, ⟨hs.mono fun k hk _ => ⟨.inr hk, by omega⟩, wPut_nil _ _, wSh_nil _ _, wTr_nil _ _⟩⟩
theorem quad_start {R : StAcc} (C : DevC R) {a b : Nat} {F1 F2 : Foot} {w0 w1 w2 w3 w4 w6 : World} {v1 v2 : Value} {Z1 Z2 : Obj} {w5 w7 : World} (r1 : R F1 a w1 (stNew 4)) (f1 : ∀ k, F1 k → w0.heap.size ≤ k) (b1 : Below w0.heap.size w0 w1) (r2 : R F2 b w2 (stNew 4)) (f2 : ∀ k, F2 k → w1.heap.size ≤ k) (b2 : Below w1.heap.size w1 w2)
    (e3 : w3 = (w2.alloc Z1).alloc Z2) (o1 : SlB (fun k => w3.heap.size ≤ k) w4 v1 (List.replicate (4 * 256) 0)) (b4 : Below w3.heap.size w3 w4) (e5 : w5 = w4.setRow w2.heap.size (dRow 4 v1)) (o2 : SlB (fun k => w5.heap.size ≤ k) w6 v2 (List.replicate (4 * 256) 0)) (b6 : Below w5.heap.size w5 w6) (e7 : w7 = w6.setRow (w2.heap.size + 1) (dRow 4 v2))
    (hA1 : At w7 w2.heap.size (dRow 4 v1) 32) (hA2 : At w7 (w2.heap.size + 1) (dRow 4 v2) 32) : QInv R a w2.heap.size b (w2.heap.size + 1) w0 0 (stNew 4) w7 := by
  have z1 := b1.size
  have z2 := b2.size
  have z3 : w3.heap.size = w2.heap.size + 2 := by rw [e3]; simp
  have z4 := b4.size
  have z5 : w5.heap.size = w4.heap.size := by rw [e5]; simp
  have z6 := b6.size
  have z7 : w7.heap.size = w6.heap.size := by rw [e7]; simp
  have h57 : ∀ k, k < w5.heap.size → k ≠ w2.heap.size + 1 → w7.heap[k]? = w5.heap[k]? := fun k hk hn => by rw [e7, setRow_other _ _ _ _ hn, b6.block k hk]
  have h27 : ∀ k, k < w2.heap.size → w7.heap[k]? = w2.heap[k]? := fun k hk => by
    rw [h57 k (by omega) (by omega), e5, setRow_other _ _ _ _ (by omega), b4.block k (by omega), e3, Below.heap_alloc _ _ _ (by simp; omega), Below.heap_alloc _ _ _ hk]
  have os7 : Below w2.heap.size w2 w7 := by
    refine ⟨?_, ?_, ?_, by omega, h27⟩
    · rw [e7]; show w6.os = _; rw [b6.os, e5]; show w4.os = _; rw [b4.os, e3]; rfl
    · rw [e7]; show w6.tape = _; rw [b6.tape, e5]; show w4.tape = _; rw [b4.tape, e3]; rfl
    · rw [e7]; show w6.output = _; rw [b6.output, e5]; show w4.output = _; rw [b4.output, e3]; rfl
  have ra := C.below r1 (b2.trans (os7.mono z2))
  have rb := C.below r2 os7
  have s1 : SlB (fun k => w3.heap.size ≤ k ∧ k < w4.heap.size) w7 v1 (List.replicate (4 * 256) 0) := by
    have h1 : SlB (fun k => w3.heap.size ≤ k ∧ k < w4.heap.size) w4 v1 (List.replicate (4 * 256) 0) := o1.mono fun k hk hlt => ⟨hk, hlt⟩
    exact h1.keep (by omega) fun k hk hlt => by rw [h57 k (by omega) (by omega), e5, setRow_other _ _ _ _ (by omega)]
  have s2 : SlB (fun k => w5.heap.size ≤ k ∧ k < w6.heap.size) w7 v2 (List.replicate (4 * 256) 0) := by
    have h1 : SlB (fun k => w5.heap.size ≤ k ∧ k < w6.heap.size) w6 v2 (List.replicate (4 * 256) 0) := o2.mono fun k hk hlt => ⟨hk, hlt⟩
    exact h1.keep (by omega) fun k hk hlt => by rw [e7, setRow_other _ _ _ _ (by omega)]
  have l1 : ∀ k, F1 k → k < w1.heap.size := C.lt r1
  have l2 : ∀ k, F2 k → k < w2.heap.size := C.lt r2
  refine ⟨F1, _, F2, _, ⟨⟨ra, rst_new hA1 s1 (by omega) (by omega), fun k hk he => by have := l1 k hk; rcases he with he | he <;> omega⟩, ⟨rb, rst_new hA2 s2 (by omega) (by omega), fun k hk he => by have := l2 k hk; rcases he with he | he <;> omega⟩, fun k hk he => ?_⟩, fun k hk => ?_, ok_new 4 (by decide) (by decide), b1.trans ((b2.trans (os7.mono z2)).mono z1)⟩
  · rcases hk with hk | hk | hk <;> rcases he with he | he | he
    · have := l1 k hk; have := f2 k he; omega
    · have := l1 k hk; omega
    · have := l1 k hk; omega
    · have := l2 k he; omega
    · omega
    · omega
    · have := l2 k he; omega
    · omega
    · omega
  · rcases hk with (hk | hk | hk) | hk | hk | hk
    · exact f1 k hk
    · omega
    · omega
    · have := f2 k hk; omega
    · omega
    · omega
end Sha
end Go.Proofs.Ytkgpcgkikenljaa
