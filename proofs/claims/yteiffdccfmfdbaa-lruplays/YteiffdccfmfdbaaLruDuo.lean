/- Layer 15: a cache of the program's and one of the document's, side by side; neither reaches the law's own blocks. -/
import Derived.Test.YteiffdccfmfdbaaLruPr
import Derived.Test.YteiffdccfmfdbaaLruRTop
import Derived.Test.YteiffdccfmfdbaaLruRGet
import Derived.Test.YteiffdccfmfdbaaLruRUnp
namespace Go.Proofs.Yteiffdccfmfdbaa
namespace Sha
open Go.RowKit Mem Lru
theorem RCa.keep {F : Foot} {b : Nat} {w w' : World} {room : Nat} {l : List Hd} (h : RCa F b w room l) (hs : w.heap.size ≤ w'.heap.size) (hk : ∀ k, F k → k < w.heap.size → w'.heap[k]? = w.heap[k]?) : RCa F b w' room l := by
  obtain ⟨v, z, e, hv⟩ := h
  exact ⟨v, z, e, hv.keep hs hk⟩
theorem CPr.sub {b room n : Nat} {l : List Hd} {w wr : World} {Pr Pr' : Foot} (h : CPr b room n l w wr Pr) (hs : ∀ j, Pr' j → Pr j) : CPr b room n l w wr Pr' :=
  h.turn (Chg.refl _ _) (fun j hj => .inl (hs j hj)) fun j hj => h.lt j (hs j hj)
/-- The two, in the world wr; E: the law's own blocks. -/
def Duo (b b2 room n : Nat) (lp ld : List Hd) (w wr : World) (E : Foot) : Prop := ∃ G, CPr b room n lp w wr (fun j => G j ∨ E j) ∧ RCa G b2 wr room ld ∧ ∀ j, G j → ¬ E j
structure DuoEnd (b b2 room n : Nat) (lp ld : List Hd) (w wr : World) (E : Foot) (wx : World) : Prop where
  d : Duo b b2 room n lp ld w wx E
  k : ∀ j, E j → wx.heap[j]? = wr.heap[j]?
  s : wr.heap.size ≤ wx.heap.size
section
variable {b b2 room n : Nat} {lp ld : List Hd} {w wr wx : World} {E : Foot}
theorem Duo.base (h : Duo b b2 room n lp ld w wr E) : Below w.heap.size w wr := by
  obtain ⟨G, h1, _, _⟩ := h
  exact h1.b
theorem Duo.mine (h : Duo b b2 room n lp ld w wr E) : CMine b room n lp w wr := by
  obtain ⟨G, h1, _, _⟩ := h
  exact h1.mine
theorem Duo.rc (h : Duo b b2 room n lp ld w wr E) : ∃ G, RCa G b2 wr room ld := by
  obtain ⟨G, _, h2, _⟩ := h
  exact ⟨G, h2⟩
theorem Duo.b2lt (h : Duo b b2 room n lp ld w wr E) : b2 < wr.heap.size := by
  obtain ⟨G, _, h2, _⟩ := h
  exact h2.lt.1 b2 h2.lt.2
theorem Duo.mono {m : Nat} (h : Duo b b2 room n lp ld w wr E) (hm : n ≤ m) : Duo b b2 room m lp ld w wr E := by
  obtain ⟨G, h1, h2, h3⟩ := h
  exact ⟨G, h1.mono hm, h2, h3⟩
theorem Duo.below (h : Duo b b2 room n lp ld w wr E) (hb : Below wr.heap.size wr wx) : Duo b b2 room n lp ld w wx E := by
  obtain ⟨G, h1, h2, h3⟩ := h
  exact ⟨G, h1.below hb, h2.below hb, h3⟩
theorem Duo.sub {E' : Foot} (h : Duo b b2 room n lp ld w wr E) (hs : ∀ j, E' j → E j) : Duo b b2 room n lp ld w wr E' := by
  obtain ⟨G, h1, h2, h3⟩ := h
  exact ⟨G, h1.sub fun j hj => hj.imp id (hs j), h2, fun j hj he => h3 j hj (hs j he)⟩
/-- Blocks that are new become the law's own. -/
theorem Duo.more {E' : Foot} (h : Duo b b2 room n lp ld w wr E) (hb : Below wr.heap.size wr wx) (hE : ∀ j, E' j → E j ∨ wr.heap.size ≤ j) (hlt : ∀ j, E' j → j < wx.heap.size) : Duo b b2 room n lp ld w wx E' := by
  obtain ⟨G, h1, h2, h3⟩ := h
  refine ⟨G, h1.turn (Chg.of_below hb) (fun j hj => ?_) (fun j hj => ?_), h2.below hb, fun j hj he => ?_⟩
  · rcases hj with hj | hj
    · exact .inl (.inl hj)
    · exact (hE j hj).imp .inr id
  · rcases hj with hj | hj
    · exact Nat.lt_of_lt_of_le (h2.lt.1 j hj) hb.size
    · exact hlt j hj
  · rcases hE j he with h4 | h4
    · exact h3 j hj h4
    · have := h2.lt.1 j hj; omega
theorem duo_prog {G : Foot} {n' : Nat} {lp' : List Hd} (hr : RCa G b2 wr room ld) (hx : ∀ j, G j → ¬ E j) (he : PrEnd b room n' lp' w wr (fun j => G j ∨ E j) wx) : DuoEnd b b2 room n' lp' ld w wr E wx :=
  ⟨⟨G, he.c, hr.keep he.s fun k hk _ => he.k k (.inl hk), hx⟩, fun j hj => he.k j (.inr hj), he.s⟩
theorem duo_doc {G : Foot} {ld' : List Hd} (hd : CPr b room n lp w wr (fun j => G j ∨ E j)) (hr : RCa G b2 wr room ld) (hx : ∀ j, G j → ¬ E j) (he : LEnd G b2 wr room ld' wx) : DuoEnd b b2 room n lp ld' w wr E wx ∧ Chg (fun k => k = b2) wr wx := by
  obtain ⟨⟨G', h1, h2⟩, h3⟩ := he
  have hb2 : G b2 := hr.lt.2
  refine ⟨⟨⟨G', hd.turn (h3.mono fun k hk => .inl (.inl (by rw [hk]; exact hb2))) (fun k hk => ?_) (fun k hk => ?_), h1, fun j hj hE => ?_⟩, fun j hj => h3.block j (hd.lt j (.inr hj)) (fun e => hx b2 hb2 (by rw [← e]; exact hj)), h3.size⟩, h3⟩
  · rcases hk with hk | hk
    · exact (h2 k hk).imp .inl id
    · exact .inl (.inr hk)
  · rcases hk with hk | hk
    · exact h1.lt.1 k hk
    · exact Nat.lt_of_lt_of_le (hd.lt k (.inr hk)) h3.size
  · rcases h2 j hj with h4 | h4
    · exact hx j h4 hE
    · have := hd.lt j (.inr hE); omega
/-- How a call of the document's ends. -/
def DocEnd (b b2 room n : Nat) (lp ld : List Hd) (w wr : World) (E : Foot) (wx : World) : Prop := DuoEnd b b2 room n lp ld w wr E wx ∧ Chg (fun k => k = b2) wr wx
theorem d_put (h : Duo b b2 room n lp ld w wr E) (x : Int) (p : List (BitVec 8)) (vp : Value) (hp : Sl wr vp p) (hpl : p.length ≤ 1000000) (hn : n ≤ 100000) :
    Calls Try.prog 19 #[cq b, .int .i64 x, vp] wr fun e w' => e = .returned (.tuple #[.int .i64 (putH room lp x p).2.1, .int .i64 (putH room lp x p).2.2]) ∧ DuoEnd b b2 room (n + 1) (putH room lp x p).1 ld w wr E w' := by
  obtain ⟨G, h1, h2, h3⟩ := h
  refine (q_put h1 x p vp hp hpl hn).mono ?_
  rintro e w' ⟨rfl, he⟩
  exact ⟨rfl, duo_prog h2 h3 he⟩
theorem d_pin (h : Duo b b2 room n lp ld w wr E) (x : Int) (p : List (BitVec 8)) (vp : Value) (hp : Sl wr vp p) (hpl : p.length ≤ 1000000) (hn : n ≤ 100000) :
    Calls Try.prog 13 #[cq b, .int .i64 x, vp] wr fun e w' => e = .returned (.int .i64 (pinH lp x p).2) ∧ DuoEnd b b2 room (n + 2) (pinH lp x p).1 ld w wr E w' := by
  obtain ⟨G, h1, h2, h3⟩ := h
  refine (q_pin h1 x p vp hp hpl hn).mono ?_
  rintro e w' ⟨rfl, he⟩
  exact ⟨rfl, duo_prog h2 h3 he⟩
theorem d_get (h : Duo b b2 room n lp ld w wr E) (x : Int) (hx : wfI x) (hn : n ≤ 100000) :
    Calls Try.prog 10 #[cq b, .int .i64 x] wr fun e w' => GotH wr (getH lp x).2 e w' ∧ DuoEnd b b2 room (n + 1) (getH lp x).1 ld w wr E w' := by
  obtain ⟨G, h1, h2, h3⟩ := h
  refine (q_get h1 x hx hn).mono ?_
  rintro e w' ⟨hg, he⟩
  exact ⟨hg, duo_prog h2 h3 he⟩
theorem d_unpin (h : Duo b b2 room n lp ld w wr E) (x : Int) (hx : wfI x) (hn : n ≤ 100000) :
    Calls Try.prog 15 #[cq b, .int .i64 x] wr fun e w' => e = .returned (.tuple #[.int .i64 (unpH room lp x).2.1, .bool (unpH room lp x).2.2]) ∧ DuoEnd b b2 room (n + 1) (unpH room lp x).1 ld w wr E w' := by
  obtain ⟨G, h1, h2, h3⟩ := h
  refine (q_unpin h1 x hx hn).mono ?_
  rintro e w' ⟨rfl, he⟩
  exact ⟨rfl, duo_prog h2 h3 he⟩
theorem d_drop (h : Duo b b2 room n lp ld w wr E) (x : Int) (hx : wfI x) : Calls Try.prog 17 #[cq b, .int .i64 x] wr fun e w' => e = .returned (.bool (drpH lp x).2) ∧ DuoEnd b b2 room n (drpH lp x).1 ld w wr E w' := by
  obtain ⟨G, h1, h2, h3⟩ := h
  refine (q_drop h1 x hx).mono ?_
  rintro e w' ⟨rfl, he⟩
  exact ⟨rfl, duo_prog h2 h3 he⟩
theorem t_put {m : Nat} (h : Duo b b2 room n lp ld w wr E) (ok : Ok m ld) (hm : m ≤ 100000) (hr : room ≤ 100000) (x : Int) (p : List (BitVec 8)) (vp : Value) (hp : Sl wr vp p) (hpl : p.length ≤ 1000000) :
    Calls Try.prog 20 #[rq b2, .int .i64 x, vp] wr fun e w' => e = .returned (.tuple #[.int .i64 (putH room ld x p).2.1, .int .i64 (putH room ld x p).2.2]) ∧ DocEnd b b2 room n lp (putH room ld x p).1 w wr E w' := by
  obtain ⟨G, h1, h2, h3⟩ := h
  refine (rput_any x p vp wr h2 ok hm hr hp hpl).mono ?_
  rintro e w' ⟨rfl, he⟩
  exact ⟨rfl, duo_doc h1 h2 h3 he⟩
theorem t_pin {m : Nat} (h : Duo b b2 room n lp ld w wr E) (ok : Ok m ld) (hm : m ≤ 100000) (x : Int) (p : List (BitVec 8)) (vp : Value) (hp : Sl wr vp p) (hpl : p.length ≤ 1000000) :
    Calls Try.prog 14 #[rq b2, .int .i64 x, vp] wr fun e w' => e = .returned (.int .i64 (pinH ld x p).2) ∧ DocEnd b b2 room n lp (pinH ld x p).1 w wr E w' := by
  obtain ⟨G, h1, h2, h3⟩ := h
  refine (rpin_any x p vp wr h2 ok (by omega) hp hpl).mono ?_
  rintro e w' ⟨rfl, he⟩
  exact ⟨rfl, duo_doc h1 h2 h3 he⟩
theorem t_get {m : Nat} (h : Duo b b2 room n lp ld w wr E) (ok : Ok m ld) (hm : m ≤ 100000) (x : Int) :
    Calls Try.prog 11 #[rq b2, .int .i64 x] wr fun e w' => GotR (getH ld x).2 e w' ∧ DocEnd b b2 room n lp (getH ld x).1 w wr E w' := by
  obtain ⟨G, h1, h2, h3⟩ := h
  refine (rget_any x wr h2 ok (by omega)).mono ?_
  rintro e w' ⟨hg, he⟩
  exact ⟨hg, duo_doc h1 h2 h3 he⟩
theorem t_unpin {m : Nat} (h : Duo b b2 room n lp ld w wr E) (ok : Ok m ld) (hm : m ≤ 100000) (hr : room ≤ 100000) (x : Int) :
    Calls Try.prog 16 #[rq b2, .int .i64 x] wr fun e w' => e = .returned (.tuple #[.int .i64 (unpH room ld x).2.1, .bool (unpH room ld x).2.2]) ∧ DocEnd b b2 room n lp (unpH room ld x).1 w wr E w' := by
  obtain ⟨G, h1, h2, h3⟩ := h
  refine (runp_any x wr h2 ok hm hr).mono ?_
  rintro e w' ⟨rfl, he⟩
  exact ⟨rfl, duo_doc h1 h2 h3 he⟩
theorem t_drop {m : Nat} (h : Duo b b2 room n lp ld w wr E) (ok : Ok m ld) (hm : m ≤ 100000) (x : Int) :
    Calls Try.prog 18 #[rq b2, .int .i64 x] wr fun e w' => e = .returned (.bool (drpH ld x).2) ∧ DocEnd b b2 room n lp (drpH ld x).1 w wr E w' := by
  obtain ⟨G, h1, h2, h3⟩ := h
  refine (rdrop_any x wr h2 ok (by omega)).mono ?_
  rintro e w' ⟨rfl, he⟩
  exact ⟨rfl, duo_doc h1 h2 h3 he⟩
theorem t_find {m : Nat} (h : Duo b b2 room n lp ld w wr E) (ok : Ok m ld) (hm : m ≤ 100000) (x : Int) :
    Calls Try.prog 25 #[rq b2, .int .i64 x] wr fun e w' => e = .returned (.int .i64 (idx x ld 0)) ∧ w' = wr := by
  obtain ⟨G, h1, h2, h3⟩ := h
  exact RCa.find x h2 ok (by omega)
/-- The document's cache begins with nothing held. -/
theorem rca_new (w : World) (room : Nat) : RCa (fun k => k = w.heap.size) w.heap.size (w.alloc (.cells (rcC room (.slice none 0 0)) 30)) room [] := by
  refine ⟨.slice none 0 0, [], rfl, ⟨at_new w _ _, SlR.nil _ _ _, fun p hp => (by cases hp), rfl, fun k hk => ?_⟩⟩
  subst hk
  simp
end
end Sha
end Go.Proofs.Yteiffdccfmfdbaa
