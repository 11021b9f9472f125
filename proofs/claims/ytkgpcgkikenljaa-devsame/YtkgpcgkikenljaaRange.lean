/- A range over a function that is a method with its receiver: the statement's law, where it is known ahead what comes, and in which order; the body goes on or returns. Over any program. -/
import Derived.RangeFuncNested
import Derived.RangeFuncLeaves
import Derived.Test.YtkgpcgkikenljaaMem
namespace Go.Proofs.Ytkgpcgkikenljaa
namespace Mem
open Go.RowKit
/-- Y is X but for the loop's own two blocks, d and the next one, and for new ones. -/
structure Two (d : Nat) (X Y : World) : Prop where
  os : Y.os = X.os
  tape : Y.tape = X.tape
  output : Y.output = X.output
  size : X.heap.size ≤ Y.heap.size
  same : ∀ k, k < X.heap.size → k ≠ d → k ≠ d + 1 → Y.heap[k]? = X.heap[k]?
/-- What a round leaves alone: what lay ahead of n0, and all that the loop made. -/
structure Rnd (d n0 : Nat) (X Y : World) : Prop where
  low : Below n0 X Y
  high : ∀ k, d ≤ k → k < X.heap.size → Y.heap[k]? = X.heap[k]?
theorem Two.put {d j : Nat} {W : World} {o o' : Obj} (hj : j = d ∨ j = d + 1) (h : W.heap[j]? = some o) : Two d W (W.putObj j o') := by
  have hlt := (Array.getElem?_eq_some_iff.1 h).1
  exact ⟨rfl, rfl, rfl, by simp [World.putObj], fun k _ h1 h2 => World.putObj_heap_other (by omega)⟩
theorem Two.below {d n0 : Nat} {X Y : World} (h : Two d X Y) (hd : n0 ≤ d) (hs : n0 ≤ X.heap.size) : Below n0 X Y :=
  ⟨h.os, h.tape, h.output, h.size, fun k hk => h.same k (by omega) (by omega) (by omega)⟩
theorem Rnd.trans {d n0 : Nat} {X Y Z : World} (h : Rnd d n0 X Y) (k : Rnd d n0 Y Z) : Rnd d n0 X Z :=
  ⟨h.low.trans k.low, fun j h1 h2 => (k.high j h1 (Nat.lt_of_lt_of_le h2 h.low.size)).trans (h.high j h1 h2)⟩
/-- What an iterator gives: N times, in order, what xs says; between two rounds it asks that what lay ahead of n0 stays. -/
def Gives (F : Fence) (n : Nat) (P : Program) (gf : Nat) (bd : Array Value) (N : Nat) (xs : Nat → Array Value) (n0 : Nat) (w0 : World) : Prop :=
  ∀ (l : Nat) (J Jx : Nat → World → Prop) (W : World), Below n0 w0 W →
    (∀ c W1, c < N → J c W1 → YieldAt F (n - 1) P l (xs c) W1 fun e W' => (e = .returned (.bool true) ∧ J (c + 1) W' ∧ Below n0 W1 W') ∨ (e = .returned (.bool false) ∧ Jx c W')) →
    J 0 W → CallsIn F n P gf (bd ++ #[.func (.yield l) #[] #[]]) W fun e W' => (∃ v, e = .returned v) ∧ (J N W' ∨ ∃ c, c < N ∧ Jx c W')
/-- How a round's body ends. -/
def rndPost (d n0 : Nat) (I Ix : Nat → World → Prop) (c : Nat) (W : World) : Exit → Act → World → Prop
  | .normal, _, W' => Rnd d n0 W W' ∧ I (c + 1) W'
  | .ret, _, W' => Rnd d n0 W W' ∧ Ix c W'
  | _, _, _ => False
variable {F : Fence} {n : Nat} {P : Program}
theorem wpIn_range_bound {g : Operand} {ps : Array Tmp} {assign body : Code} {Q : Exit → Act → World → Prop} {a : Act} {w : World} (hro : F.round = none) (h1 : 1 ≤ n) {gf : Nat} {bd : Array Value} (hg : a.eval g = .func (.func gf) bd #[]) (hFg : F.fn gf)
    (eg : ∀ args w, (callFunc gf args).run P w = .ok (.enter gf args) w) {N : Nat} {xs : Nat → Array Value} {n0 : Nat} {w0 : World} (hseq : Gives F (n - 1) P gf bd N xs n0 w0) (hb0 : Below n0 w0 w) (hn0 : n0 ≤ w.heap.size) (hps : ∀ c, (xs c).size = ps.size)
    (I Ix : Nat → World → Prop) (A : Nat → Act → World → Prop) (hI : ∀ c X Y, I c X → Two w.heap.size X Y → I c Y) (hIx : ∀ c X Y, Ix c X → Two w.heap.size X Y → Ix c Y) (hA : ∀ c a' X Y, A c a' X → Two w.heap.size X Y → A c a' Y) (h0 : I 0 w)
    (hassign : ∀ (l c : Nat) (W : World) (K : Act → World → Prop), c < N → w.heap.size + 2 ≤ W.heap.size → I c W → (∀ a' W', Rnd w.heap.size n0 W W' → I c W' → A c a' W' → K a' W') →
      assign.wpIn (F.inRound l) (n - 1 - 1) P (Exit.then K (fun _ _ _ => False)) { tmps := (ps.zip (xs c)).foldl (fun t (p, v) => t.setIfInBounds p v) a.tmps, defers := [] } W)
    (hbody : ∀ (l c : Nat) (a' : Act) (W : World), c < N → w.heap.size + 2 ≤ W.heap.size → I c W → A c a' W → body.wpIn (F.inRound l) (n - 1 - 1) P (rndPost w.heap.size n0 I Ix c W) a' W)
    (hdone : ∀ W, I N W → W.heap[w.heap.size]? = some (.deferred (some [])) → Q .normal { a with defers := { target := .collected w.heap.size, args := #[] } :: a.defers } W)
    (hstop : ∀ c W, c < N → Ix c W → W.heap[w.heap.size]? = some (.deferred (some [])) → Code.ret.wpIn F n P Q { a with defers := { target := .collected w.heap.size, args := #[] } :: a.defers } W) :
    (Code.rangeFunc g ps assign body).wpIn F n P Q a w := by
  refine wpIn_rangeFunc fun fn hfn => ?_
  rw [hro]
  obtain ⟨d, hd⟩ : ∃ d, d = w.heap.size := ⟨_, rfl⟩
  obtain ⟨rec, hrec⟩ : ∃ rec : LoopState → Option Code → Loop, rec = fun st pe => { state := st, pending := pe, fn, tmps := a.tmps, params := ps, assign, body, defers := d } := ⟨_, rfl⟩
  obtain ⟨W1, hW1⟩ : ∃ W1, W1 = (w.alloc (.deferred (some []))).alloc (.loop (rec .ready none)) := ⟨_, rfl⟩
  have hD1 : W1.heap[d]? = some (.deferred (some [])) := by
    rw [hW1, hd]
    exact (Below.heap_alloc _ _ _ (by simp)).trans (World.alloc_heap_new w _)
  have hL1 : W1.heap[d + 1]? = some (.loop (rec .ready none)) := by
    have h := World.alloc_heap_new (w.alloc (.deferred (some []))) (.loop (rec .ready none))
    rw [World.size_alloc, ← hd] at h
    rw [hW1]; exact h
  have t1 : Two d w W1 := ⟨by rw [hW1]; rfl, by rw [hW1]; rfl, by rw [hW1]; rfl, by rw [hW1]; simp; omega, fun k hk _ _ => by rw [hW1, Below.heap_alloc _ _ _ (by simp; omega), Below.heap_alloc _ _ _ hk]⟩
  rw [← hd] at hI hIx hA hassign hbody hdone hstop hn0
  have hb1 : Below n0 w0 W1 := hb0.trans (t1.below hn0 (by omega))
  refine ⟨d + 1, [{ target := .collected d, args := #[] }], W1, { target := .fn (.func gf) #[], args := bd ++ #[.func (.yield (d + 1)) #[] #[]] }, W1, gf, bd ++ #[.func (.yield (d + 1)) #[] #[]], W1, ?_, ?_, ?_, ?_, fun _ => h1, ?_⟩
  · rw [hW1, hrec, hd]
    exact run_enterLoop_outer _ _ _ _ _
  · simp only [resolve, hg]
    simp [go_sem]
  · intro f' hf'
    simp [Target.leads] at hf'
    exact hf' ▸ hFg
  · simp [invoke, go_sem, eg]
  · refine (hseq (d + 1) (fun c W => I c W ∧ W.heap[d + 1]? = some (.loop (rec .ready none)) ∧ W.heap[d]? = some (.deferred (some []))) (fun c W => Ix c W ∧ W.heap[d + 1]? = some (.loop (rec .done (some .ret))) ∧ W.heap[d]? = some (.deferred (some []))) W1 hb1 ?_
      ⟨hI 0 _ _ h0 t1, hL1, hD1⟩).mono ?_
    · rintro c W hc ⟨hi, hl, hk⟩
      have hy := run_yield (P := P) (args := xs c) hl (by rw [hrec]; exact hps c)
      rw [hrec] at hy
      refine ⟨fn, _, assign, body, hy, roundIn_of_wpIn hfn (hassign (d + 1) c W _ hc (Array.getElem?_eq_some_iff.1 hl).1 hi fun a' Wa r1 ia ax => ?_)⟩
      have hla : Wa.heap[d + 1]? = some (.loop (rec .ready none)) := (r1.high _ (by omega) (Array.getElem?_eq_some_iff.1 hl).1).trans hl
      have hka : Wa.heap[d]? = some (.deferred (some [])) := (r1.high _ (by omega) (Array.getElem?_eq_some_iff.1 hk).1).trans hk
      refine ⟨_, run_beginRound hla (by rw [hrec]), ?_⟩
      obtain ⟨Wb, hWb⟩ : ∃ Wb, Wb = Wa.putObj (d + 1) (.loop { rec .ready none with state := .busy }) := ⟨_, rfl⟩
      have tb : Two d Wa Wb := by rw [hWb]; exact Two.put (.inr rfl) hla
      have hlb : Wb.heap[d + 1]? = some (.loop (rec .busy none)) := by
        rw [hWb, World.putObj_heap_same (Array.getElem?_eq_some_iff.1 hla).1, hrec]
      have hkb : Wb.heap[d]? = some (.deferred (some [])) := by rw [hWb]; exact (World.putObj_heap_other (by omega)).trans hka
      rw [← hWb]
      refine wpIn_mono (hbody (d + 1) c a' Wb hc (Array.getElem?_eq_some_iff.1 hlb).1 (hI c _ _ ia tb) (hA c a' _ _ ax tb)) ?_
      have fin : ∀ (jump : Option Code) (W3 : World), Rnd d n0 Wb W3 → ∃ W4, (Instr.endRound (d + 1) jump).run P W3 = .ok (.bool jump.isNone) W4 ∧ Two d W3 W4 ∧ W4.heap[d + 1]? = some (.loop (rec (if jump.isNone then .ready else .done) jump)) ∧ W4.heap[d]? = some (.deferred (some [])) ∧ Below n0 W W4 := by
        intro jump W3 r3
        have hl3 : W3.heap[d + 1]? = some (.loop (rec .busy none)) := (r3.high _ (by omega) (Array.getElem?_eq_some_iff.1 hlb).1).trans hlb
        have hk3 : W3.heap[d]? = some (.deferred (some [])) := (r3.high _ (by omega) (Array.getElem?_eq_some_iff.1 hkb).1).trans hkb
        have he := run_endRound (P := P) jump hl3
        have t3 : Two d W3 (W3.putObj (d + 1) (.loop { rec .busy none with state := if jump.isNone then .ready else .done, pending := jump })) := Two.put (.inr rfl) hl3
        have hwa : n0 ≤ Wa.heap.size := by have := (Array.getElem?_eq_some_iff.1 hka).1; omega
        refine ⟨_, he, t3, ?_, (World.putObj_heap_other (by omega)).trans hk3, (r1.low.trans ((tb.below hn0 hwa).trans r3.low)).trans (t3.below hn0 (by have h5 := (tb.below hn0 hwa).size; have h6 := r3.low.size; omega))⟩
        rw [World.putObj_heap_same (Array.getElem?_eq_some_iff.1 hl3).1, hrec]
      rintro e a3 W3 hp
      cases e with
      | normal =>
        obtain ⟨W4, h2, t3, h4, h5, h6⟩ := fin none W3 hp.1
        exact ⟨_, _, h2, .inl ⟨rfl, ⟨hI _ _ _ hp.2 t3, h4, h5⟩, h6⟩⟩
      | ret =>
        obtain ⟨W4, h2, t3, h4, h5, h6⟩ := fin (some .ret) W3 hp.1
        exact ⟨_, _, h2, .inr ⟨rfl, hIx _ _ _ hp.2 t3, h4, h5⟩⟩
      | exit id => exact hp.elim
      | goto t => exact hp.elim
      | panic ch => exact hp.elim
      | outgrown => exact hp.elim
    · rintro e W2 ⟨⟨v, rfl⟩, (⟨hi, hl, hk⟩ | ⟨c, hc, hi, hl, hk⟩)⟩
      · refine ⟨none, _, (by have h := run_endLoop (P := P) hl (by rw [hrec]; simp); rw [hrec] at h; exact h), ?_⟩
        exact hdone _ (hI _ _ _ hi (Two.put (.inr rfl) hl)) ((World.putObj_heap_other (by omega)).trans hk)
      · refine ⟨some .ret, _, (by have h := run_endLoop (P := P) hl (by rw [hrec]; simp); rw [hrec] at h; exact h), ?_⟩
        exact hstop c _ hc (hIx _ _ _ hi (Two.put (.inr rfl) hl)) ((World.putObj_heap_other (by omega)).trans hk)
end Mem
end Go.Proofs.Ytkgpcgkikenljaa
