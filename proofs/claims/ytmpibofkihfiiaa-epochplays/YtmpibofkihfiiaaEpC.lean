/- What the laws of layer 8 ask of the program's meter: its contracts, over any account of it. -/
import Derived.Test.YtmpibofkihfiiaaEpRUse
namespace Go.Proofs.Ytmpibofkihfiiaa
namespace Sha
open Go.RowKit Mem
/-- A meter is as it must be; at most n uses. -/
structure OkM (n : Nat) (m : Mtr) : Prop where
  l0 : 0 ≤ m.last
  l1 : m.last ≤ 4294967295
  n0 : 0 ≤ m.now
  now : m.now = 0 ∨ m.now = m.last
  len : m.l.length ≤ n
  uses : ∀ p ∈ m.l, 0 < p.1 ∧ p.1 ≤ m.last ∧ 0 ≤ p.2 ∧ p.2 ≤ 9223372036854775807
theorem OkM.mono {n n' : Nat} {m : Mtr} (h : OkM n m) (hn : n ≤ n') : OkM n' m := ⟨h.l0, h.l1, h.n0, h.now, Nat.le_trans h.len hn, h.uses⟩
theorem OkM.eu {n : Nat} {m : Mtr} (h : OkM n m) {p : EU} (hp : p ∈ m.l) : EUok p := by
  obtain ⟨h1, h2, h3, h4⟩ := h.uses p hp
  have := h.l1
  exact ⟨by simp [Lit.wf, IntKind.min, IntKind.max, IntKind.signed, IntKind.bits]; omega, by simp [Lit.wf, IntKind.min, IntKind.max, IntKind.signed, IntKind.bits]; omega⟩
def Mtr.new (last : Int) : Mtr := ⟨last, 0, []⟩
theorem ok_mnew (last : Int) (h0 : 0 ≤ last) (h1 : last ≤ 4294967295) : OkM 0 (Mtr.new last) := ⟨h0, h1, Int.le_refl _, .inl rfl, Nat.le_refl _, fun p hp => by simp [Mtr.new] at hp⟩
theorem ok_reserve {n : Nat} {m : Mtr} (h : OkM n m) : OkM n m.reserve.1 := by
  have h1 := h.l1; have h0 := h.l0
  unfold Mtr.reserve
  split
  · exact h
  · split
    · exact h
    · rename_i _ hm
      have hm : ¬ m.last = 4294967295 := hm
      exact ⟨by show 0 ≤ m.last + 1; omega, by show m.last + 1 ≤ _; omega, by show 0 ≤ m.last + 1; omega, .inr rfl, h.len, fun p hp => by have := h.uses p hp; show 0 < p.1 ∧ p.1 ≤ m.last + 1 ∧ _; omega⟩
theorem ok_done {n : Nat} {m : Mtr} (h : OkM n m) : OkM n m.done.1 := by
  unfold Mtr.done
  split
  · exact h
  · exact ⟨h.l0, h.l1, Int.le_refl _, .inl rfl, h.len, h.uses⟩
theorem ok_use {n : Nat} {m : Mtr} (h : OkM n m) (b : Int) (hb : b ≤ 9223372036854775807) : OkM (n + 1) (m.use b).1 := by
  unfold Mtr.use
  split
  · exact h.mono (Nat.le_succ _)
  · split
    · exact h.mono (Nat.le_succ _)
    · rename_i hn _
      refine ⟨h.l0, h.l1, h.n0, h.now, by have := h.len; simp; omega, fun p hp => ?_⟩
      rcases List.mem_append.1 hp with h1 | h1
      · exact h.uses p h1
      · simp at h1
        subst h1
        have := h.n0
        show 0 < m.now ∧ m.now ≤ m.last ∧ 0 ≤ b ∧ _
        rcases h.now with h2 | h2 <;> omega
/-- A step: what play does of it. -/
def Mtr.step (m : Mtr) (s : Step8) : Mtr × Int × Int :=
  if s.k.toNat % 4 = 0 then m.reserve else if s.k.toNat % 4 = 2 then (m.done.1, 0, m.done.2) else ((m.use s.b).1, 0, (m.use s.b).2)
theorem ok_step {n : Nat} {m : Mtr} (h : OkM n m) (s : Step8) (hs : goodS8 s) : OkM (n + 1) (m.step s).1 := by
  unfold Mtr.step
  split
  · exact (ok_reserve h).mono (Nat.le_succ _)
  · split
    · exact (ok_done h).mono (Nat.le_succ _)
    · refine ok_use h s.b ?_
      have := hs
      simp [goodS8, Lit.wf, IntKind.min, IntKind.max, IntKind.signed, IntKind.bits] at this
      omega
abbrev EAcc := Foot → Nat → World → Mtr → Prop
/-- How a call that may change the meter's own blocks ends. -/
def EEnd (R : EAcc) (F : Foot) (b : Nat) (w : World) (m : Mtr) (w' : World) : Prop := (∃ F', R F' b w' m ∧ ∀ k, F' k → F k ∨ w.heap.size ≤ k) ∧ Chg F w w'
def Told8 (w : World) (v : Value) (e : Ending) (w' : World) : Prop := e = .returned v ∧ Below w.heap.size w w'
structure EpC (R : EAcc) : Prop where
  lt : ∀ {F b w m}, R F b w m → ∀ k, F k → k < w.heap.size
  keep : ∀ {F b m} {w w' : World}, R F b w m → w.heap.size ≤ w'.heap.size → (∀ k, F k → k < w.heap.size → w'.heap[k]? = w.heap[k]?) → R F b w' m
  new : ∀ (last : Int) (w : World), 0 ≤ last → last ≤ 4294967295 → Calls Try.prog 7 #[.int .u32 last] w fun e w' => ∃ b F, e = .returned (mq b) ∧ R F b w' (Mtr.new last) ∧ (∀ k, F k → w.heap.size ≤ k) ∧ Below w.heap.size w w'
  reserve : ∀ {F b m} (w : World), R F b w m → OkM 1000 m → Calls Try.prog 18 #[mq b] w fun e w' => e = .returned (.tuple #[.int .u32 m.reserve.2.1, .int .i64 m.reserve.2.2]) ∧ EEnd R F b w m.reserve.1 w'
  done : ∀ {F b m} (w : World), R F b w m → OkM 1000 m → Calls Try.prog 20 #[mq b] w fun e w' => e = .returned (.int .i64 m.done.2) ∧ EEnd R F b w m.done.1 w'
  use : ∀ {F b m} (x : Int) (w : World), R F b w m → OkM 1000 m → (Lit.int .i64 x).wf = true → Calls Try.prog 19 #[mq b, .int .i64 x] w fun e w' => e = .returned (.int .i64 (m.use x).2) ∧ EEnd R F b w (m.use x).1 w'
  last : ∀ {F b m} (w : World), R F b w m → OkM 1000 m → Calls Try.prog 13 #[mq b] w (Told8 w (.int .u32 m.last))
  now : ∀ {F b m} (w : World), R F b w m → OkM 1000 m → Calls Try.prog 14 #[mq b] w (Told8 w (.int .u32 m.now))
  left : ∀ {F b m} (w : World), R F b w m → OkM 1000 m → Calls Try.prog 15 #[mq b] w (Told8 w (.int .u32 (4294967295 - m.last)))
  used : ∀ {F b m} (w : World), R F b w m → OkM 1000 m → Calls Try.prog 16 #[mq b] w fun e w' => ∃ v, e = .returned v ∧ SlR (fun k => F k ∨ w.heap.size ≤ k) w' 2 v m.l.length (euCs m.l) ∧ Below w.heap.size w w'
theorem EpC.below {R : EAcc} (hR : EpC R) {F : Foot} {b : Nat} {w w' : World} {m : Mtr} (h : R F b w m) (hb : Below w.heap.size w w') : R F b w' m := hR.keep h hb.size fun k _ hlt => hb.block k hlt
theorem EpC.chg {R : EAcc} (hR : EpC R) {F G : Foot} {b : Nat} {w w' : World} {m : Mtr} (h : R F b w m) (hc : Chg G w w') (hd : ∀ k, F k → ¬ G k) : R F b w' m := hR.keep h hc.size fun k hF hlt => hc.block k hlt (hd k hF)
theorem EEnd.after {R : EAcc} {F : Foot} {b : Nat} {w w4 w' : World} {m : Mtr} (hb : Below w.heap.size w w4) (h : EEnd R F b w4 m w') : EEnd R F b w m w' := by
  obtain ⟨⟨F', h1, h2⟩, h3⟩ := h
  exact ⟨⟨F', h1, fun k hk => (h2 k hk).imp id fun h4 => Nat.le_trans hb.size h4⟩, (Chg.of_below hb).trans h3 fun k hk => .inl hk⟩
/-- What a nil meter answers. -/
structure EpNil : Prop where
  reserve : ∀ w : World, Calls Try.prog 18 #[.pointer none] w (Told8 w (.tuple #[.int .u32 0, .int .i64 2]))
  done : ∀ w : World, Calls Try.prog 20 #[.pointer none] w (Told8 w (.int .i64 2))
  use : ∀ (x : Int) (w : World), (Lit.int .i64 x).wf = true → Calls Try.prog 19 #[.pointer none, .int .i64 x] w (Told8 w (.int .i64 2))
  last : ∀ w : World, Calls Try.prog 13 #[.pointer none] w (Told8 w (.int .u32 0))
  now : ∀ w : World, Calls Try.prog 14 #[.pointer none] w (Told8 w (.int .u32 0))
  left : ∀ w : World, Calls Try.prog 15 #[.pointer none] w (Told8 w (.int .u32 0))
  used : ∀ w : World, Calls Try.prog 16 #[.pointer none] w fun e w' => ∃ v, e = .returned v ∧ SlR (fun k => w.heap.size ≤ k) w' 2 v 0 [] ∧ Below w.heap.size w w'
/-- A meter of the law's own. -/
structure EMine (R : EAcc) (b : Nat) (m : Mtr) (w wr : World) : Prop where
  h : ∃ F, R F b wr m ∧ ∀ k, F k → w.heap.size ≤ k
  b : Below w.heap.size w wr
theorem EMine.below {R : EAcc} (C : EpC R) {b : Nat} {m : Mtr} {w wr wx : World} (h : EMine R b m w wr) (hb : Below wr.heap.size wr wx) : EMine R b m w wx := by
  obtain ⟨F, h1, h2⟩ := h.h
  exact ⟨⟨F, C.below h1 hb, h2⟩, h.b.trans (hb.mono h.b.size)⟩
theorem ecalls_step {R : EAcc} {P : Program} {f : FuncId} {vs : Array Value} {b : Nat} {m m' : Mtr} {w wr : World} {v : Value} (h : EMine R b m w wr) (k : ∀ F, R F b wr m → Calls P f vs wr fun e w' => e = .returned v ∧ EEnd R F b wr m' w') :
    Calls P f vs wr fun e w' => e = .returned v ∧ EMine R b m' w w' := by
  obtain ⟨F, h1, h2⟩ := h.h
  refine (k F h1).mono ?_
  rintro e w' ⟨rfl, hs⟩
  obtain ⟨⟨F', h3, h4⟩, h5⟩ := hs
  exact ⟨rfl, ⟨⟨F', h3, fun x hx => (h4 x hx).elim (h2 x) (fun hh => Nat.le_trans h.b.size hh)⟩, h5.below h.b h2 h.b.size⟩⟩
theorem ecalls_told {R : EAcc} (C : EpC R) {P : Program} {f : FuncId} {vs : Array Value} {b : Nat} {m : Mtr} {w wr : World} {v : Value} (h : EMine R b m w wr) (k : ∀ F, R F b wr m → Calls P f vs wr (Told8 wr v)) :
    Calls P f vs wr fun e w' => e = .returned v ∧ EMine R b m w w' := by
  obtain ⟨F, h1, h2⟩ := h.h
  refine (k F h1).mono ?_
  rintro e w' ⟨rfl, hb⟩
  exact ⟨rfl, h.below C hb⟩
theorem ecalls_used {R : EAcc} (C : EpC R) {b : Nat} {m : Mtr} {w wr : World} (h : EMine R b m w wr) (ok : OkM 1000 m) :
    Calls Try.prog 16 #[mq b] wr fun e w' => ∃ v, e = .returned v ∧ SlR (fun k => w.heap.size ≤ k) w' 2 v m.l.length (euCs m.l) ∧ EMine R b m w w' := by
  obtain ⟨F, h1, h2⟩ := h.h
  refine (C.used wr h1 ok).mono ?_
  rintro e w' ⟨v, rfl, hs, hb⟩
  exact ⟨v, rfl, hs.mono fun k hk _ => hk.elim (h2 k) (fun hh => Nat.le_trans h.b.size hh), h.below C hb⟩
end Sha
end Go.Proofs.Ytmpibofkihfiiaa
