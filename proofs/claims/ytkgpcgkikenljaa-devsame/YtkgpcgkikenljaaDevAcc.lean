/- The document's store in memory: an account. -/
import Derived.Test.YtkgpcgkikenljaaFoot
import Derived.Test.YtkgpcgkikenljaaSl
import Derived.Test.YtkgpcgkikenljaaEnds
import Derived.Test.YtkgpcgkikenljaaSlice
namespace Go.Proofs.Ytkgpcgkikenljaa
namespace Sha
open Go.RowKit Mem
/-- Bytes in blocks of F. -/
def SlB (F : Foot) (w : World) (v : Value) (l : List (BitVec 8)) : Prop := SlR F w 1 v l.length (u8s l)
theorem SlB.sl {F : Foot} {w : World} {v : Value} {l : List (BitVec 8)} (h : SlB F w v l) : Sl w v l := by
  obtain ⟨_, a, cap, rfl, hc, hr⟩ := h
  refine ⟨a, cap, rfl, hc, fun hne => ?_⟩
  obtain ⟨bb, oo, ea, _, hlt, hcell⟩ := hr (fun h0 => hne (List.eq_nil_of_length_eq_zero h0))
  exact ⟨bb, oo, ea, hlt, fun i hi => hcell i _ (u8s_get l i hi)⟩
theorem SlB.keep {F : Foot} {w w' : World} {v : Value} {l : List (BitVec 8)} (h : SlB F w v l) (hs : w.heap.size ≤ w'.heap.size) (hk : ∀ k, F k → k < w.heap.size → w'.heap[k]? = w.heap[k]?) : SlB F w' v l := SlR.keep h hs hk
theorem SlB.mono {F G : Foot} {w : World} {v : Value} {l : List (BitVec 8)} (h : SlB F w v l) (hs : ∀ k, F k → k < w.heap.size → G k) : SlB G w v l := SlR.mono h hs
theorem OwnB.slB {w : World} {B : Nat} {v : Value} {l : List (BitVec 8)} (h : OwnB w B v l) : SlB (fun k => B ≤ k) w v l := ownsRow_slR h
theorem slB_nil (F : Foot) (w : World) : SlB F w (.slice none 0 0) [] := SlR.nil F w 1
/-- What the document's store has. -/
structure St6 where
  n : Nat
  b : List (BitVec 8)
  w : List (Nat × List (BitVec 8))
  sh : List (List (BitVec 8))
  t : List Int
/-- Writes that wait, as cells. -/
def putC : List (Nat × Value) → List Value
  | [] => []
  | p :: l => .int .i64 (p.1 : Int) :: p.2 :: putC l
theorem putC_length : ∀ l, (putC l).length = l.length * 2
  | [] => rfl
  | _ :: l => by simp [putC, putC_length l]; omega
theorem putC_snoc (p : Nat × Value) : ∀ l, putC (l ++ [p]) = putC l ++ [.int .i64 (p.1 : Int), p.2]
  | [] => rfl
  | _ :: l => by simp [putC, putC_snoc p l]
theorem putC_at : ∀ (l : List (Nat × Value)) (i : Nat) (p : Nat × Value), l[i]? = some p → (putC l)[2 * i]? = some (.int .i64 (p.1 : Int)) ∧ (putC l)[2 * i + 1]? = some p.2
  | q :: l, 0, p, h => by
    have hq : q = p := by simpa using h
    subst hq
    exact ⟨rfl, rfl⟩
  | q :: l, i + 1, p, h => by
    have h' : l[i]? = some p := by simpa using h
    have := putC_at l i p h'
    simpa [putC, Nat.mul_add] using this
theorem putC_one {G : Foot} {w : World} : ∀ {ws : List (Nat × Value)} {l : List (Nat × List (BitVec 8))}, Each2 (fun p q => p.1 = q.1 ∧ SlB G w p.2 q.2) ws l → ∀ u ∈ putC ws, u.oneCell' = true
  | [], [], _, u, hu => by simp [putC] at hu
  | p :: ws, q :: l, h, u, hu => by
    simp only [putC, List.mem_cons] at hu
    rcases hu with rfl | rfl | hu
    · rfl
    · obtain ⟨_, a, cap, e, _⟩ := h.1.2
      rw [e]; rfl
    · exact putC_one h.2 u hu
def WPut (G : Foot) (w : World) (v : Value) (l : List (Nat × List (BitVec 8))) : Prop := ∃ ws : List (Nat × Value), Each2 (fun p q => p.1 = q.1 ∧ SlB G w p.2 q.2) ws l ∧ SlR G w 2 v l.length (putC ws)
def WSh (G : Foot) (w : World) (v : Value) (l : List (List (BitVec 8))) : Prop := ∃ hs : List Value, Each2 (fun p q => SlB G w p q) hs l ∧ SlR G w 1 v l.length hs
def i64s (l : List Int) : List Value := l.map fun k => .int .i64 k
theorem i64s_length (l : List Int) : (i64s l).length = l.length := by simp [i64s]
def WTr (G : Foot) (w : World) (v : Value) (l : List Int) : Prop := SlR G w 1 v l.length (i64s l)
theorem WPut.keep {G : Foot} {w w' : World} {v : Value} {l : List (Nat × List (BitVec 8))} (h : WPut G w v l) (hs : w.heap.size ≤ w'.heap.size) (hk : ∀ k, G k → k < w.heap.size → w'.heap[k]? = w.heap[k]?) : WPut G w' v l := by
  obtain ⟨ws, h1, h2⟩ := h
  exact ⟨ws, h1.mono fun _ _ h => ⟨h.1, h.2.keep hs hk⟩, h2.keep hs hk⟩
theorem WPut.mono {G H : Foot} {w : World} {v : Value} {l : List (Nat × List (BitVec 8))} (h : WPut G w v l) (hs : ∀ k, G k → k < w.heap.size → H k) : WPut H w v l := by
  obtain ⟨ws, h1, h2⟩ := h
  exact ⟨ws, h1.mono fun _ _ h => ⟨h.1, h.2.mono hs⟩, h2.mono hs⟩
theorem WSh.keep {G : Foot} {w w' : World} {v : Value} {l : List (List (BitVec 8))} (h : WSh G w v l) (hs : w.heap.size ≤ w'.heap.size) (hk : ∀ k, G k → k < w.heap.size → w'.heap[k]? = w.heap[k]?) : WSh G w' v l := by
  obtain ⟨ws, h1, h2⟩ := h
  exact ⟨ws, h1.mono fun _ _ h => h.keep hs hk, h2.keep hs hk⟩
theorem WSh.mono {G H : Foot} {w : World} {v : Value} {l : List (List (BitVec 8))} (h : WSh G w v l) (hs : ∀ k, G k → k < w.heap.size → H k) : WSh H w v l := by
  obtain ⟨ws, h1, h2⟩ := h
  exact ⟨ws, h1.mono fun _ _ h => h.mono hs, h2.mono hs⟩
theorem wPut_nil (G : Foot) (w : World) : WPut G w (.slice none 0 0) [] := ⟨[], trivial, SlR.nil _ _ _⟩
theorem wSh_nil (G : Foot) (w : World) : WSh G w (.slice none 0 0) [] := ⟨[], trivial, SlR.nil _ _ _⟩
theorem wTr_nil (G : Foot) (w : World) : WTr G w (.slice none 0 0) [] := SlR.nil _ _ _
theorem WPut.hd {G : Foot} {w : World} {v : Value} {l : List (Nat × List (BitVec 8))} (h : WPut G w v l) : ∃ a cap, v = .slice a l.length cap := by
  obtain ⟨_, _, _, a, cap, e, _⟩ := h; exact ⟨a, cap, e⟩
theorem WSh.hd {G : Foot} {w : World} {v : Value} {l : List (List (BitVec 8))} (h : WSh G w v l) : ∃ a cap, v = .slice a l.length cap := by
  obtain ⟨_, _, _, a, cap, e, _⟩ := h; exact ⟨a, cap, e⟩
theorem WTr.hd {G : Foot} {w : World} {v : Value} {l : List Int} (h : WTr G w v l) : ∃ a cap, v = .slice a l.length cap := by
  obtain ⟨_, a, cap, e, _⟩ := h; exact ⟨a, cap, e⟩
theorem SlB.hd {G : Foot} {w : World} {v : Value} {l : List (BitVec 8)} (h : SlB G w v l) : ∃ a cap, v = .slice a l.length cap := by
  obtain ⟨_, a, cap, e, _⟩ := h; exact ⟨a, cap, e⟩
/-- The four slices of a store, in blocks of G. -/
structure Four (G : Foot) (w : World) (vb vw vs vt : Value) (s : St6) : Prop where
  fb : SlB G w vb s.b
  fw : WPut G w vw s.w
  fs : WSh G w vs s.sh
  ft : WTr G w vt s.t
theorem Four.keep {G : Foot} {w w' : World} {vb vw vs vt : Value} {s : St6} (h : Four G w vb vw vs vt s) (hs : w.heap.size ≤ w'.heap.size) (hk : ∀ k, G k → k < w.heap.size → w'.heap[k]? = w.heap[k]?) : Four G w' vb vw vs vt s :=
  ⟨h.fb.keep hs hk, h.fw.keep hs hk, h.fs.keep hs hk, SlR.keep h.ft hs hk⟩
theorem Four.mono {G H : Foot} {w : World} {vb vw vs vt : Value} {s : St6} (h : Four G w vb vw vs vt s) (hs : ∀ k, G k → k < w.heap.size → H k) : Four H w vb vw vs vt s :=
  ⟨h.fb.mono hs, h.fw.mono hs, h.fs.mono hs, SlR.mono h.ft hs⟩
def stRow (n : Nat) (vb vw vs vt : Value) : Array Value := #[.int .i64 (n : Int), vb, vw, vs, vt]
/-- The document's store s lies at block br, all its memory in blocks of F. -/
structure RSt (F : Foot) (br : Nat) (w : World) (s : St6) : Prop where
  box : F br
  lt : ∀ k, F k → k < w.heap.size
  h : ∃ vb vw vs vt, At w br (stRow s.n vb vw vs vt) 32 ∧ Four (fun k => F k ∧ k ≠ br) w vb vw vs vt s
theorem RSt.keep {F : Foot} {br : Nat} {w w' : World} {s : St6} (h : RSt F br w s) (hs : w.heap.size ≤ w'.heap.size) (hk : ∀ k, F k → k < w.heap.size → w'.heap[k]? = w.heap[k]?) : RSt F br w' s := by
  obtain ⟨vb, vw, vs, vt, ha, hf⟩ := h.h
  refine ⟨h.box, fun k hF => Nat.lt_of_lt_of_le (h.lt k hF) hs, vb, vw, vs, vt, ?_, hf.keep hs fun k hF hlt => hk k hF.1 hlt⟩
  have := ha.lt
  unfold At at *
  rw [hk br h.box this]; exact ha
theorem RSt.below {F : Foot} {br : Nat} {w w' : World} {s : St6} (h : RSt F br w s) (hb : Below w.heap.size w w') : RSt F br w' s := h.keep hb.size fun k _ hlt => hb.block k hlt
theorem RSt.chg {F G : Foot} {br : Nat} {w w' : World} {s : St6} (h : RSt F br w s) (hc : Chg G w w') (hd : ∀ k, F k → ¬ G k) : RSt F br w' s := h.keep hc.size fun k hF hlt => hc.block k hlt (hd k hF)
theorem RSt.mono {F G : Foot} {br : Nat} {w : World} {s : St6} (h : RSt F br w s) (hs : ∀ k, F k → G k) (hl : ∀ k, G k → k < w.heap.size) : RSt G br w s := by
  obtain ⟨vb, vw, vs, vt, ha, hf⟩ := h.h
  exact ⟨hs _ h.box, hl, vb, vw, vs, vt, ha, hf.mono fun k hF _ => ⟨hs k hF.1, hF.2⟩⟩
/-- The same, the slices' values by name. -/
structure RV (F : Foot) (br : Nat) (w : World) (s : St6) (vb vw vs vt : Value) : Prop where
  box : F br
  lt : ∀ k, F k → k < w.heap.size
  row : At w br (stRow s.n vb vw vs vt) 32
  four : Four (fun k => F k ∧ k ≠ br) w vb vw vs vt s
theorem RSt.v {F : Foot} {br : Nat} {w : World} {s : St6} (h : RSt F br w s) : ∃ vb vw vs vt, RV F br w s vb vw vs vt := by
  obtain ⟨vb, vw, vs, vt, ha, hf⟩ := h.h
  exact ⟨vb, vw, vs, vt, h.box, h.lt, ha, hf⟩
theorem RV.r {F : Foot} {br : Nat} {w : World} {s : St6} {vb vw vs vt : Value} (h : RV F br w s vb vw vs vt) : RSt F br w s := ⟨h.box, h.lt, vb, vw, vs, vt, h.row, h.four⟩
/-- How a call that changes a store ends: all that it changed is its own. -/
structure StEnd (R : Foot → Nat → World → St6 → Prop) (F : Foot) (br : Nat) (w : World) (s : St6) (w' : World) : Prop where
  h : ∃ F', R F' br w' s ∧ ∀ k, F' k → F k ∨ w.heap.size ≤ k
  c : Chg F w w'
theorem StEnd.trans {R : Foot → Nat → World → St6 → Prop} {F F1 : Foot} {br : Nat} {w w1 w2 : World} {s2 : St6} (hc : Chg F w w1) (hx : ∀ k, F1 k → F k ∨ w.heap.size ≤ k) (k : StEnd R F1 br w1 s2 w2) : StEnd R F br w s2 w2 := by
  obtain ⟨F', h1, h2⟩ := k.h
  exact ⟨⟨F', h1, fun k hk => (h2 k hk).elim (hx k) (fun h => .inr (Nat.le_trans hc.size h))⟩, hc.trans k.c hx⟩
/-- One store into the box, behind memory that was made: the slices are all known in that memory, none of them lies in the box. -/
theorem rv_set {F : Foot} {br n' : Nat} {w w1 w2 : World} {s : St6} {vb vw vs vt vb' vw' vs' vt' : Value} {s' : St6} (h : RV F br w s vb vw vs vt) (hb : Below w.heap.size w w1) (hn : n' = s'.n)
    (hA : At w2 br (stRow n' vb' vw' vs' vt') 32) (ho : ∀ k, k ≠ br → w2.heap[k]? = w1.heap[k]?) (hk : ∀ B a, Below B a w1 → B ≤ br → Below B a w2)
    (hf : Four (fun k => (F k ∨ w.heap.size ≤ k) ∧ k ≠ br) w1 vb' vw' vs' vt' s') : RV (grow F w w2) br w2 s' vb' vw' vs' vt' ∧ Chg F w w2 := by
  subst hn
  have h12 := hk br w1 (Below.refl _ _) (Nat.le_refl _)
  refine ⟨⟨⟨.inl h.box, hA.lt⟩, grow_lt, hA, ?_⟩, ?_⟩
  · have h2 := hf.keep (w' := w2) h12.size fun k hF _ => ho k hF.2
    exact h2.mono fun k hF hlt => ⟨⟨hF.1, hlt⟩, hF.2⟩
  · refine ⟨h12.os.trans hb.os, h12.tape.trans hb.tape, h12.output.trans hb.output, Nat.le_trans hb.size h12.size, fun k hlt hn => ?_⟩
    have hne : k ≠ br := fun e => hn (e ▸ h.box)
    rw [ho k hne, hb.block k hlt]
theorem rv_end {F : Foot} {br : Nat} {w w2 : World} {s' : St6} {vb vw vs vt : Value} (h : RV (grow F w w2) br w2 s' vb vw vs vt) (hc : Chg F w w2) : StEnd RSt F br w s' w2 := ⟨⟨_, h.r, grow_ext⟩, hc⟩
theorem RV.br {F : Foot} {br : Nat} {w : World} {s : St6} {vb vw vs vt : Value} (h : RV F br w s vb vw vs vt) : br < w.heap.size := h.lt br h.box
theorem four_old {F : Foot} {br : Nat} {w w1 : World} {vb vw vs vt : Value} {s : St6} (hf : Four (fun k => F k ∧ k ≠ br) w vb vw vs vt s) (hb : Below w.heap.size w w1) : Four (fun k => (F k ∨ w.heap.size ≤ k) ∧ k ≠ br) w1 vb vw vs vt s :=
  (hf.keep hb.size fun k _ hlt => hb.block k hlt).mono fun _ hF _ => ⟨.inl hF.1, hF.2⟩
end Sha
end Go.Proofs.Ytkgpcgkikenljaa
