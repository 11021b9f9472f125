/- The program's cache in memory: an account; what a change of its own blocks leaves. -/
import Derived.Test.YteiffdccfmfdbaaMapV
import Derived.Test.YteiffdccfmfdbaaLruInts
import Derived.Test.YteiffdccfmfdbaaLruMath
import Derived.Test.YteiffdccfmfdbaaSlB
import Derived.Test.YteiffdccfmfdbaaClone
namespace Go.Proofs.Yteiffdccfmfdbaa
namespace Sha
open Go.RowKit Mem
abbrev cq (g : Nat) : Value := .pointer (some ⟨g, 0, none⟩)
theorem uInt : Try.prog.underlying 3 = some (.int .i64) := Try.underlying3
theorem uPg : Try.prog.underlying 54 = some (.map 3 32) := Try.underlying54
theorem uPn : Try.prog.underlying 57 = some (.map 3 69) := Try.underlying57
theorem zeroSB (w : World) : (zeroValue 32).run Try.prog w = .ok (.slice none 0 0) w := by kernel_rfl
theorem zeroUn (w : World) : (zeroValue 69).run Try.prog w = .ok (.agg #[]) w := by kernel_rfl
def pcC (room bm bp : Nat) (v : Value) : Array Value := #[.int .i64 (room : Int), .map (some bm), .map (some bp), v]
/-- A set, as a map of empty values. -/
def unitF (pn : Int → Bool) : Int → Option Value := fun x => if pn x then some (.agg #[]) else none
theorem unitF_get (pn : Int → Bool) (x : Int) : (unitF pn x).getD (.agg #[]) = .agg #[] := by unfold unitF; split <;> rfl
theorem unitF_some (pn : Int → Bool) (x : Int) : (unitF pn x).isSome = pn x := by unfold unitF; cases pn x <;> rfl
def updB (pn : Int → Bool) (x : Int) (q : Bool) : Int → Bool := fun y => if y = x then q else pn y
theorem unitF_upd (pn : Int → Bool) (x : Int) (q : Bool) : unitF (updB pn x q) = upd (unitF pn) x (if q then some (.agg #[]) else none) := by
  funext y
  unfold unitF updB upd
  by_cases e : y = x <;> simp [e]
def updP (pg : Int → Option (List (BitVec 8))) (x : Int) (o : Option (List (BitVec 8))) : Int → Option (List (BitVec 8)) := fun y => if y = x then o else pg y
/-- The cache lies at block b, all its memory in blocks of F: the map bm of its pages, the map bp of those that are pinned, the slice v of the order. -/
structure PCv (F : Foot) (b : Nat) (w : World) (room bm bp : Nat) (v : Value) (n : Nat) (f : Int → Option Value) (pg : Int → Option (List (BitVec 8))) (pn : Int → Bool) (os : List Int) : Prop where
  row : At w b (pcC room bm bp v) 59
  mm : MapV w Try.prog 3 bm n f
  mp : MapV w Try.prog 3 bp n (unitF pn)
  own : OwnI w 0 v os
  pages : ∀ x u, f x = some u → ∃ p, pg x = some p ∧ OwnB w 0 u p ∧ ∀ k, u.ownBlock = some k → F k
  same : ∀ x, (f x).isSome = (pg x).isSome
  ne : bm ≠ bp
  bF : F b
  mF : F bm
  pF : F bp
  ownF : ∀ k, v.ownBlock = some k → F k
  lt : ∀ k, F k → k < w.heap.size
def PRaw (F : Foot) (b : Nat) (w : World) (room n : Nat) (pg : Int → Option (List (BitVec 8))) (pn : Int → Bool) (os : List Int) : Prop := ∃ bm bp v f, PCv F b w room bm bp v n f pg pn os
theorem at_same {w w' : World} {b : Nat} {C : Array Value} {t : TypeId} (h : At w b C t) (hk : w'.heap[b]? = w.heap[b]?) : At w' b C t := by
  unfold At at *; rw [hk]; exact h
theorem PCv.keep {F : Foot} {b : Nat} {w w' : World} {room bm bp n : Nat} {v : Value} {f : Int → Option Value} {pg : Int → Option (List (BitVec 8))} {pn : Int → Bool} {os : List Int} (h : PCv F b w room bm bp v n f pg pn os) (hs : w.heap.size ≤ w'.heap.size) (hk : ∀ k, F k → k < w.heap.size → w'.heap[k]? = w.heap[k]?) : PCv F b w' room bm bp v n f pg pn os where
  row := at_same h.row (hk b h.bF (h.lt b h.bF))
  mm := h.mm.same (hk bm h.mF (h.lt bm h.mF))
  mp := h.mp.same (hk bp h.pF (h.lt bp h.pF))
  own := ownsRow_keep h.own fun g hg => hk g (h.ownF g hg) (h.lt g (h.ownF g hg))
  pages x u hu := by
    obtain ⟨p, h1, h2, h3⟩ := h.pages x u hu
    exact ⟨p, h1, h2.keep fun g hg => hk g (h3 g hg) (h.lt g (h3 g hg)), h3⟩
  same := h.same
  ne := h.ne
  bF := h.bF
  mF := h.mF
  pF := h.pF
  ownF := h.ownF
  lt k hF := Nat.lt_of_lt_of_le (h.lt k hF) hs
theorem PRaw.keep {F : Foot} {b : Nat} {w w' : World} {room n : Nat} {pg : Int → Option (List (BitVec 8))} {pn : Int → Bool} {os : List Int} (h : PRaw F b w room n pg pn os) (hs : w.heap.size ≤ w'.heap.size) (hk : ∀ k, F k → k < w.heap.size → w'.heap[k]? = w.heap[k]?) : PRaw F b w' room n pg pn os := by
  obtain ⟨bm, bp, v, f, h⟩ := h
  exact ⟨bm, bp, v, f, h.keep hs hk⟩
theorem PRaw.below {F : Foot} {b : Nat} {w w' : World} {room n : Nat} {pg : Int → Option (List (BitVec 8))} {pn : Int → Bool} {os : List Int} (h : PRaw F b w room n pg pn os) (hb : Below w.heap.size w w') : PRaw F b w' room n pg pn os := h.keep hb.size fun k _ hlt => hb.block k hlt
theorem PRaw.lt {F : Foot} {b : Nat} {w : World} {room n : Nat} {pg : Int → Option (List (BitVec 8))} {pn : Int → Bool} {os : List Int} (h : PRaw F b w room n pg pn os) : ∀ k, F k → k < w.heap.size := by
  obtain ⟨bm, bp, v, f, h⟩ := h
  exact h.lt
/-- How a call that may change the cache's own blocks ends. -/
def REnd (F : Foot) (b : Nat) (w : World) (room n : Nat) (pg : Int → Option (List (BitVec 8))) (pn : Int → Bool) (os : List Int) (w' : World) : Prop :=
  (∃ F', PRaw F' b w' room n pg pn os ∧ ∀ k, F' k → F k ∨ w.heap.size ≤ k) ∧ Chg F w w'
theorem REnd.trans {F F1 : Foot} {b : Nat} {w w1 w2 : World} {room n : Nat} {pg : Int → Option (List (BitVec 8))} {pn : Int → Bool} {os : List Int} (hF : ∀ k, F1 k → F k ∨ w.heap.size ≤ k) (hc : Chg F w w1) (h : REnd F1 b w1 room n pg pn os w2) : REnd F b w room n pg pn os w2 := by
  obtain ⟨⟨F', h1, h2⟩, h3⟩ := h
  exact ⟨⟨F', h1, fun k hk => (h2 k hk).elim (hF k) fun h => .inr (Nat.le_trans hc.size h)⟩, hc.trans h3 hF⟩
theorem rend_same {F : Foot} {b : Nat} {w w' : World} {room n : Nat} {pg : Int → Option (List (BitVec 8))} {pn : Int → Bool} {os : List Int} (h : PRaw F b w room n pg pn os) (hb : Below w.heap.size w w') : REnd F b w room n pg pn os w' :=
  ⟨⟨F, h.below hb, fun _ hk => .inl hk⟩, Chg.of_below hb⟩
/-- Its own blocks were changed, and no page's. -/
theorem pc_turn {F : Foot} {b : Nat} {w w' : World} {room bm bp n n' : Nat} {v v' : Value} {f f' : Int → Option Value} {pg pg' : Int → Option (List (BitVec 8))} {pn pn' : Int → Bool} {os os' : List Int} (h : PCv F b w room bm bp v n f pg pn os)
    (hb0 : Below 0 w w') (hk : ∀ k, k < w.heap.size → k ≠ b → k ≠ bm → k ≠ bp → v.ownBlock ≠ some k → w'.heap[k]? = w.heap[k]?)
    (row : At w' b (pcC room bm bp v') 59) (mm : MapV w' Try.prog 3 bm n' f') (mp : MapV w' Try.prog 3 bp n' (unitF pn')) (own : OwnI w' 0 v' os')
    (hv : ∀ k, v'.ownBlock = some k → v.ownBlock = some k ∨ w.heap.size ≤ k)
    (pages : ∀ x u, f' x = some u → (f x = some u ∧ pg' x = pg x) ∨ ∃ p, pg' x = some p ∧ OwnB w' 0 u p ∧ ∀ k, u.ownBlock = some k → w.heap.size ≤ k) (same : ∀ x, (f' x).isSome = (pg' x).isSome) : REnd F b w room n' pg' pn' os' w' := by
  have hs := hb0.size
  refine ⟨⟨grow F w w', ⟨bm, bp, v', f', ⟨row, mm, mp, own, fun x u hu => ?_, same, h.ne, ⟨.inl h.bF, row.lt⟩, ⟨.inl h.mF, mm.lt⟩, ⟨.inl h.pF, mp.lt⟩, fun k hk => ⟨(hv k hk).imp (h.ownF k) id, (World.ownsRow.lt own k hk).2⟩, grow_lt⟩⟩, grow_ext⟩, ⟨hb0.os, hb0.tape, hb0.output, hs, fun k hlt hn => hk k hlt (fun e => hn (e ▸ h.bF)) (fun e => hn (e ▸ h.mF)) (fun e => hn (e ▸ h.pF)) fun e => hn (h.ownF k e)⟩⟩
  rcases pages x u hu with ⟨h1, h2⟩ | ⟨p, h1, h2, h3⟩
  · obtain ⟨p, h3, h4, h5⟩ := h.pages x u h1
    refine ⟨p, h2.trans h3, h4.keep fun g hg => hk g (h4.lt g hg).2 (fun e => ?_) (fun e => ?_) (fun e => ?_) fun e => ?_, fun k hk => ⟨.inl (h5 k hk), Nat.lt_of_lt_of_le (h4.lt k hk).2 hs⟩⟩
    · exact own_ne_at h4 h.row (by decide) (e ▸ hg)
    · exact h.mm.ne_own h4 (e ▸ hg)
    · exact h.mp.ne_own h4 (e ▸ hg)
    · exact ownsRow_ne h4 h.own (by decide) g hg e
  · exact ⟨p, h1, h2, fun k hk => ⟨.inr (h3 k hk), (h2.lt k hk).2⟩⟩
end Sha
end Go.Proofs.Yteiffdccfmfdbaa
