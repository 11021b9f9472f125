/- The program's store and the document's, side by side, while a step is done. -/
import Derived.Test.YtkgpcgkikenljaaDevLive
import Derived.Test.YtkgpcgkikenljaaPlan3
namespace Go.Proofs.Ytkgpcgkikenljaa
namespace Sha
open Go.RowKit Mem
theorem _root_.Go.Proofs.Ytkgpcgkikenljaa.Mem.At.cell' {w : World} {b : Nat} {C : Array Value} {t : TypeId} {v : Value} (h : At w b C t) (i : Nat) (hv : C[i]? = some v) : w.cell? ⟨b, i, none⟩ = some v := (h.cell i).trans hv
/-- Blocks that are as they were. -/
structure Kept (E : Foot) (w w' : World) : Prop where
  size : w.heap.size ≤ w'.heap.size
  block : ∀ k, E k → w'.heap[k]? = w.heap[k]?
theorem _root_.Go.Proofs.Ytkgpcgkikenljaa.Mem.At.kept {E : Foot} {w w' : World} {b : Nat} {C : Array Value} {t : TypeId} (h : At w b C t) (hk : Kept E w w') (hb : E b) : At w' b C t := by
  unfold At at *
  rw [hk.block b hb]; exact h
theorem SlB.kept {E : Foot} {w w' : World} {v : Value} {l : List (BitVec 8)} (h : SlB E w v l) (hk : Kept E w w') : SlB E w' v l := h.keep hk.size fun k hE _ => hk.block k hE
/-- Both stores: the program's has s1, the document's s2; all their memory is apart, and theirs or new; none of it is E. -/
structure DoI (R : StAcc) (bs br : Nat) (F0 G0 E : Foot) (w0 : World) (s1 s2 : St6) (wk : World) : Prop where
  h : ∃ F G, R F bs wk s1 ∧ RSt G br wk s2 ∧ (∀ k, F k → ¬ G k) ∧ (∀ k, F k → F0 k ∨ w0.heap.size ≤ k) ∧ (∀ k, G k → G0 k ∨ w0.heap.size ≤ k) ∧ ∀ k, E k → ¬ F k ∧ ¬ G k
  e : ∀ k, E k → k < wk.heap.size
  c : Chg (fun k => F0 k ∨ G0 k) w0 wk
section
variable {R : StAcc} {bs br : Nat} {F0 G0 E : Foot} {w0 wk wx : World} {s1 s2 s1' s2' : St6}
theorem DoI.add (C : DevC R) (h : DoI R bs br F0 G0 E w0 s1 s2 wk) (hb : Below wk.heap.size wk wx) (E' : Foot) (hE : ∀ k, E' k → E k ∨ (wk.heap.size ≤ k ∧ k < wx.heap.size)) : DoI R bs br F0 G0 E' w0 s1 s2 wx := by
  obtain ⟨F, G, h1, h2, h3, h4, h5, h6⟩ := h.h
  exact ⟨⟨F, G, C.below h1 hb, h2.below hb, h3, h4, h5, fun k hk => (hE k hk).elim (h6 k) (fun hw => ⟨fun hf => by have := C.lt h1 k hf; omega, fun hg => by have := h2.lt k hg; omega⟩)⟩,
    fun k hk => (hE k hk).elim (fun he => Nat.lt_of_lt_of_le (h.e k he) hb.size) (fun hw => hw.2), h.c.trans (F1 := fun _ => False) (Chg.of_below hb) (fun _ hf => hf.elim)⟩
theorem DoI.below (C : DevC R) (h : DoI R bs br F0 G0 E w0 s1 s2 wk) (hb : Below wk.heap.size wk wx) : DoI R bs br F0 G0 E w0 s1 s2 wx := h.add C hb E fun _ hk => .inl hk
theorem DoI.drew (C : DevC R) (h : DoI R bs br F0 G0 E w0 s1 s2 wk) : DoI R bs br F0 G0 E w0 s1 s2 wk.drew := h.below C (Below.refl _ _).drew
theorem kept_below (h : DoI R bs br F0 G0 E w0 s1 s2 wk) (hb : Below wk.heap.size wk wx) : Kept E wk wx := ⟨hb.size, fun k hk => hb.block k (h.e k hk)⟩
theorem DoI.first {P : Program} {f : FuncId} {vs : Array Value} {v : Value} (_C : DevC R) (h : DoI R bs br F0 G0 E w0 s1 s2 wk) (k : ∀ F, R F bs wk s1 → Calls P f vs wk fun e w' => e = .returned v ∧ StEnd R F bs wk s1' w') :
    Calls P f vs wk fun e w' => e = .returned v ∧ DoI R bs br F0 G0 E w0 s1' s2 w' ∧ Kept E wk w' := by
  obtain ⟨F, G, h1, h2, h3, h4, h5, h6⟩ := h.h
  refine (k F h1).mono ?_
  rintro e w' ⟨rfl, hs⟩
  obtain ⟨⟨F', k1, k2⟩, k3⟩ := hs
  have hw := h.c.size
  exact ⟨rfl, ⟨⟨F', G, k1, h2.chg k3 (fun y hg hf => h3 y hf hg), fun y hy hg => (k2 y hy).elim (fun hf => h3 y hf hg) (fun hw => by have := h2.lt y hg; omega), fun y hy => (k2 y hy).elim (h4 y) (fun hw => .inr (by omega)), h5,
      fun y hy => ⟨fun hf => (k2 y hf).elim (h6 y hy).1 (fun hw => by have := h.e y hy; omega), (h6 y hy).2⟩⟩, fun y hy => Nat.lt_of_lt_of_le (h.e y hy) k3.size, h.c.trans k3 (fun y hf => (h4 y hf).imp .inl id)⟩,
    ⟨k3.size, fun y hy => k3.block y (h.e y hy) (h6 y hy).1⟩⟩
theorem DoI.second {P : Program} {f : FuncId} {vs : Array Value} {v : Value} (C : DevC R) (h : DoI R bs br F0 G0 E w0 s1 s2 wk) (k : ∀ G, RSt G br wk s2 → Calls P f vs wk fun e w' => e = .returned v ∧ StEnd RSt G br wk s2' w') :
    Calls P f vs wk fun e w' => e = .returned v ∧ DoI R bs br F0 G0 E w0 s1 s2' w' ∧ Kept E wk w' := by
  obtain ⟨F, G, h1, h2, h3, h4, h5, h6⟩ := h.h
  refine (k G h2).mono ?_
  rintro e w' ⟨rfl, hs⟩
  obtain ⟨⟨G', k1, k2⟩, k3⟩ := hs
  have hw := h.c.size
  exact ⟨rfl, ⟨⟨F, G', C.chg h1 k3 h3, k1, fun y hy hg => (k2 y hg).elim (h3 y hy) (fun hw => by have := C.lt h1 y hy; omega), h4, fun y hy => (k2 y hy).elim (h5 y) (fun hw => .inr (by omega)),
      fun y hy => ⟨(h6 y hy).1, fun hf => (k2 y hf).elim (h6 y hy).2 (fun hw => by have := h.e y hy; omega)⟩⟩, fun y hy => Nat.lt_of_lt_of_le (h.e y hy) k3.size, h.c.trans k3 (fun y hf => (h5 y hf).imp .inr id)⟩,
    ⟨k3.size, fun y hy => k3.block y (h.e y hy) (h6 y hy).2⟩⟩
theorem DoI.ref (h : DoI R bs br F0 G0 E w0 s1 s2 wk) : ∃ G, RSt G br wk s2 := by
  obtain ⟨_, G, _, h2, _⟩ := h.h; exact ⟨G, h2⟩
theorem DoI.prog (h : DoI R bs br F0 G0 E w0 s1 s2 wk) : ∃ F, R F bs wk s1 := by
  obtain ⟨F, _, h1, _⟩ := h.h; exact ⟨F, h1⟩
theorem rbad_end {P : Program} {f : FuncId} {vs : Array Value} {v : Value} {G : Foot} {s : St6} (h : Calls P f vs wk fun e w' => e = .returned v ∧ wk = w') (hr : RSt G br wk s) :
    Calls P f vs wk fun e w' => e = .returned v ∧ StEnd RSt G br wk s w' := h.mono (by
  rintro e w' ⟨rfl, rfl⟩
  exact ⟨rfl, ⟨G, hr, fun _ h => .inl h⟩, Chg.refl _ _⟩)
end
/-- Both stores, all apart. -/
structure Pair (R : StAcc) (bs br : Nat) (F G : Foot) (s : St6) (w : World) : Prop where
  r : R F bs w s
  q : RSt G br w s
  d : ∀ k, F k → ¬ G k
/-- How a step at both ends. -/
structure DoEnd (R : StAcc) (bs br : Nat) (F G : Foot) (w : World) (s' : St6) (w' : World) : Prop where
  h : ∃ F' G', Pair R bs br F' G' s' w' ∧ (∀ k, F' k → F k ∨ w.heap.size ≤ k) ∧ ∀ k, G' k → G k ∨ w.heap.size ≤ k
  c : Chg (fun k => F k ∨ G k) w w'
theorem DoI.fin {R : StAcc} {bs br : Nat} {F0 G0 E : Foot} {w0 wk : World} {s : St6} (h : DoI R bs br F0 G0 E w0 s s wk) : DoEnd R bs br F0 G0 w0 s wk := by
  obtain ⟨F, G, h1, h2, h3, h4, h5, _⟩ := h.h
  exact ⟨⟨F, G, ⟨h1, h2, h3⟩, h4, h5⟩, h.c⟩
abbrev boxE (w : World) : Foot := fun k => k = w.heap.size
theorem doI_start {R : StAcc} (C : DevC R) {bs br : Nat} {F G : Foot} {w : World} {s : St6} (h : Pair R bs br F G s w) (o : Obj) : DoI R bs br F G (boxE w) w s s (w.alloc o) := by
  have hb : Below w.heap.size w (w.alloc o) := (Below.refl _ _).alloc (Nat.le_refl _) _
  exact ⟨⟨F, G, C.below h.r hb, h.q.below hb, h.d, fun _ h => .inl h, fun _ h => .inl h, fun k hk => by subst hk; exact ⟨fun hf => by have := C.lt h.r _ hf; omega, fun hg => by have := h.q.lt _ hg; omega⟩⟩, fun k hk => by subst hk; simp, Chg.of_below hb⟩
end Sha
end Go.Proofs.Ytkgpcgkikenljaa
