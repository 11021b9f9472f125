/- Layer 8's two meters, the program's and the document's, side by side. -/
import Derived.Test.YtmpibofkihfiiaaEpLive
namespace Go.Proofs.Ytmpibofkihfiiaa
namespace Sha
open Go.RowKit Mem
theorem reserve_l (m : Mtr) : m.reserve.1.l = m.l := by
  unfold Mtr.reserve
  split
  · rfl
  · split <;> rfl
theorem done_l (m : Mtr) : m.done.1.l = m.l := by
  unfold Mtr.done
  split <;> rfl
/-- The document's row was written over; its uses stay. -/
theorem rmt_row {F : Foot} {g : Nat} {m m' : Mtr} {v : Value} {w w' : World} (h : RMt F g m v w) (ha : At w' g (rmC m'.last m'.now v) 28) (ho : ∀ k, k ≠ g → w'.heap[k]? = w.heap[k]?) (hk : ∀ B a, Below B a w → B ≤ g → Below B a w') (hl : m'.l = m.l) :
    Chg (fun k => k = g) w w' ∧ RMt (grow F w w') g m' v w' := by
  have hlt := h.row.lt
  have hb := hk g w (Below.refl _ _) (Nat.le_refl _)
  have hs : w.heap.size ≤ w'.heap.size := hb.size
  refine ⟨⟨hb.os, hb.tape, hb.output, hs, fun k _ hne => ho k hne⟩, ha, h.one, ?_, fun hg => hg.1.elim h.ng (fun h2 => by omega)⟩
  rw [hl]
  exact (h.sl.keep hs fun k hF _ => ho k fun e => h.ng (e ▸ hF)).mono fun k hF hlt => ⟨.inl hF, hlt⟩
theorem rres_any {F : Foot} {g n : Nat} {m : Mtr} {v : Value} (w : World) (h : RMt F g m v w) (ok : OkM n m) :
    Calls Try.prog 10 #[mq g] w fun e w' => e = .returned (.tuple #[.int .u32 m.reserve.2.1, .int .i64 m.reserve.2.2]) ∧ Chg (fun k => k = g) w w' ∧ ∃ v', RMt (grow F w w') g m.reserve.1 v' w' := by
  refine (rreserve_any m.last m.now v w h.row ok.l0 ok.l1 m.l).mono ?_
  rintro e w' ⟨h1, h2, h3, h4⟩
  obtain ⟨h5, h6⟩ := rmt_row (m' := m.reserve.1) h h2 h3 h4 (reserve_l m)
  exact ⟨h1, h5, v, h6⟩
theorem rdon_any {F : Foot} {g : Nat} {m : Mtr} {v : Value} (w : World) (h : RMt F g m v w) :
    Calls Try.prog 11 #[mq g] w fun e w' => e = .returned (.int .i64 m.done.2) ∧ Chg (fun k => k = g) w w' ∧ ∃ v', RMt (grow F w w') g m.done.1 v' w' := by
  refine (rdone_any m.last m.now v w h.row).mono ?_
  rintro e w' ⟨h1, h2, h3, h4⟩
  have e0 : m.done.1.last = m.last ∧ m.done.1.now = 0 ∧ m.done.2 = (if m.now = 0 then 1 else 0) := by
    unfold Mtr.done
    by_cases hn : m.now = 0
    · simp [hn]
    · simp [hn]
  obtain ⟨e1, e2, e3⟩ := e0
  rw [← e1, ← e2] at h2
  obtain ⟨h5, h6⟩ := rmt_row (m' := m.done.1) h h2 h3 h4 (done_l m)
  exact ⟨by rw [e3]; exact h1, h5, v, h6⟩
/-- The program's meter m (footprint F) and the document's, m2 (block g, its uses in G). -/
structure EPair (R : EAcc) (b g : Nat) (F G : Foot) (m m2 : Mtr) (v : Value) (w wr : World) : Prop where
  r : R F b wr m
  q : RMt G g m2 v wr
  fF : ∀ k, F k → w.heap.size ≤ k
  fg : w.heap.size ≤ g
  lt : ∀ k, G k → k < wr.heap.size
  d : ∀ k, F k → k ≠ g ∧ ¬ G k
  b : Below w.heap.size w wr
def EP (R : EAcc) (b g : Nat) (m m2 : Mtr) (w wr : World) : Prop := ∃ F G v, EPair R b g F G m m2 v w wr
theorem RMt.below {F : Foot} {g : Nat} {m : Mtr} {v : Value} {w wx : World} (h : RMt F g m v w) (hb : Below w.heap.size w wx) : RMt F g m v wx := ⟨h.row.below hb h.row.lt, h.one, h.sl.below hb, h.ng⟩
theorem EPair.below {R : EAcc} (C : EpC R) {b g : Nat} {F G : Foot} {m m2 : Mtr} {v : Value} {w wr wx : World} (h : EPair R b g F G m m2 v w wr) (hb : Below wr.heap.size wr wx) : EPair R b g F G m m2 v w wx :=
  ⟨C.below h.r hb, h.q.below hb, h.fF, h.fg, fun k hk => Nat.lt_of_lt_of_le (h.lt k hk) hb.size, h.d, h.b.trans (hb.mono h.b.size)⟩
theorem EP.below {R : EAcc} (C : EpC R) {b g : Nat} {m m2 : Mtr} {w wr wx : World} (h : EP R b g m m2 w wr) (hb : Below wr.heap.size wr wx) : EP R b g m m2 w wx := by
  obtain ⟨F, G, v, h⟩ := h
  exact ⟨F, G, v, h.below C hb⟩
theorem EP.base {R : EAcc} {b g : Nat} {m m2 : Mtr} {w wr : World} (h : EP R b g m m2 w wr) : Below w.heap.size w wr := by
  obtain ⟨_, _, _, h⟩ := h; exact h.b
/-- Behind a call of the program's meter. -/
theorem EPair.prog {R : EAcc} {b g : Nat} {F G : Foot} {m m' m2 : Mtr} {v : Value} {w wr w' : World} (h : EPair R b g F G m m2 v w wr) (he : EEnd R F b wr m' w') : EP R b g m' m2 w w' := by
  obtain ⟨⟨F', h1, h2⟩, h3⟩ := he
  have hlt := h.q.row.lt
  refine ⟨F', G, v, h1, ⟨h.q.row.chg h3 fun hF => (h.d _ hF).1 rfl, h.q.one, h.q.sl.keep h3.size fun k hG hk => h3.block k hk fun hF => (h.d _ hF).2 hG, h.q.ng⟩, fun k hk => (h2 k hk).elim (h.fF k) (fun hw => Nat.le_trans h.b.size hw), h.fg, fun k hk => Nat.lt_of_lt_of_le (h.lt k hk) h3.size, fun k hk => ?_, h3.below h.b h.fF h.b.size⟩
  rcases h2 k hk with h4 | h4
  · exact h.d k h4
  · exact ⟨by omega, fun hG => by have := h.lt k hG; omega⟩
/-- Behind a call of the document's. -/
theorem EPair.doc {R : EAcc} (C : EpC R) {b g : Nat} {F G : Foot} {m m2 m2' : Mtr} {v v' : Value} {w wr w' : World} (h : EPair R b g F G m m2 v w wr) (hc : Chg (fun k => k = g) wr w') (hq : RMt (grow G wr w') g m2' v' w') : EP R b g m m2' w w' := by
  refine ⟨F, grow G wr w', v', C.chg h.r hc fun k hk => (h.d k hk).1, hq, h.fF, h.fg, grow_lt, fun k hk => ⟨(h.d k hk).1, fun hG => hG.1.elim (h.d k hk).2 (fun h4 => ?_)⟩, hc.below h.b (fun k hk => by rw [hk]; exact h.fg) h.b.size⟩
  have := C.lt h.r k hk
  omega
theorem EP.doc {R : EAcc} (C : EpC R) {b g : Nat} {m m2 m2' : Mtr} {P : Program} {f : FuncId} {vs : Array Value} {x : Value} {w wr : World} (h : EP R b g m m2 w wr)
    (k : ∀ G v, RMt G g m2 v wr → Calls P f vs wr fun e w' => e = .returned x ∧ Chg (fun k => k = g) wr w' ∧ ∃ v', RMt (grow G wr w') g m2' v' w') :
    Calls P f vs wr fun e w' => e = .returned x ∧ EP R b g m m2' w w' := by
  obtain ⟨F, G, v, h⟩ := h
  refine (k G v h.q).mono ?_
  rintro e w' ⟨rfl, hc, v', hq⟩
  exact ⟨rfl, h.doc C hc hq⟩
/-- A call of the program's meter beside a new block of the law's own. -/
theorem EP.beside {R : EAcc} (C : EpC R) {P : Program} {f : FuncId} {vs : Array Value} {b g : Nat} {m m' m2 : Mtr} {w wr : World} {v : Value} {D : Array Value} {t : TypeId} (h : EP R b g m m2 w wr)
    (k : ∀ F, R F b (wr.alloc (.cells D t)) m → Calls P f vs (wr.alloc (.cells D t)) fun e w' => e = .returned v ∧ EEnd R F b (wr.alloc (.cells D t)) m' w') :
    Calls P f vs (wr.alloc (.cells D t)) fun e w' => e = .returned v ∧ EP R b g m' m2 w w' ∧ At w' wr.heap.size D t := by
  obtain ⟨F, G, v0, h⟩ := h
  have hb : Below wr.heap.size wr (wr.alloc (.cells D t)) := (Below.refl _ _).alloc (Nat.le_refl _) _
  have h' := h.below C hb
  have hlt := C.lt h.r
  refine (k F h'.r).mono ?_
  rintro e w' ⟨rfl, hs⟩
  exact ⟨rfl, h'.prog hs, (at_new wr D t).chg hs.2 fun hF => by have := hlt _ hF; omega⟩
/-- How they begin. -/
theorem ep_start {R : EAcc} (C : EpC R) {b : Nat} {F : Foot} {last : Int} {w w1 : World} (h1 : R F b w1 (Mtr.new last)) (h2 : ∀ k, F k → w.heap.size ≤ k) (h3 : Below w.heap.size w w1) :
    EP R b w1.heap.size (Mtr.new last) (Mtr.new last) w (w1.alloc (.cells (rmC last 0 (.slice none 0 0)) 28)) := by
  have hb : Below w1.heap.size w1 (w1.alloc (.cells (rmC last 0 (.slice none 0 0)) 28)) := (Below.refl _ _).alloc (Nat.le_refl _) _
  refine ⟨F, fun _ => False, .slice none 0 0, C.below h1 hb, ⟨at_new w1 _ _, rfl, SlR.nil _ _ _, id⟩, h2, h3.size, fun k hk => hk.elim, fun k hk => ⟨?_, id⟩, h3.trans (hb.mono h3.size)⟩
  have := C.lt h1 k hk
  omega
end Sha
end Go.Proofs.Ytmpibofkihfiiaa
