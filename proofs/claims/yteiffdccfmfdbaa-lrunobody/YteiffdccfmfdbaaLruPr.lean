/- A cache of a law's own beside other blocks of its own; what Put makes where none is pinned. -/
import Derived.Test.YteiffdccfmfdbaaLruMine
namespace Go.Proofs.Yteiffdccfmfdbaa
namespace Sha
open Go.RowKit Mem Lru
structure CPr (b room n : Nat) (l : List Hd) (w wr : World) (Pr : Foot) : Prop where
  h : ∃ F, PCa F b wr room n l ∧ (∀ k, F k → w.heap.size ≤ k) ∧ ∀ k, F k → ¬ Pr k
  lt : ∀ k, Pr k → k < wr.heap.size
  lo : ∀ k, Pr k → w.heap.size ≤ k
  b : Below w.heap.size w wr
theorem CMine.pr {b room n : Nat} {l : List Hd} {w wr : World} (h : CMine b room n l w wr) : CPr b room n l w wr (fun _ => False) := by
  obtain ⟨F, h1, h2⟩ := h.h
  exact ⟨⟨F, h1, h2, fun _ _ h => h⟩, fun _ h => h.elim, fun _ h => h.elim, h.b⟩
theorem CPr.mine {b room n : Nat} {l : List Hd} {w wr : World} {Pr : Foot} (h : CPr b room n l w wr Pr) : CMine b room n l w wr := by
  obtain ⟨F, h1, h2, _⟩ := h.h
  exact ⟨⟨F, h1, h2⟩, h.b⟩
theorem CPr.turn {b room n : Nat} {l : List Hd} {w wr w' : World} {Pr Pr' : Foot} (h : CPr b room n l w wr Pr) (hc : Chg Pr wr w') (hP : ∀ k, Pr' k → Pr k ∨ wr.heap.size ≤ k) (hlt : ∀ k, Pr' k → k < w'.heap.size) : CPr b room n l w w' Pr' := by
  obtain ⟨F, h1, h2, h3⟩ := h.h
  refine ⟨⟨F, h1.keep hc.size fun k hk hlt => hc.block k hlt (h3 k hk), h2, fun k hk hp => ?_⟩, hlt, fun k hk => ?_, hc.below h.b h.lo h.b.size⟩
  · rcases hP k hp with h4 | h4
    · exact h3 k hk h4
    · have := h1.raw.lt k hk; omega
  · rcases hP k hk with h4 | h4
    · exact h.lo k h4
    · exact Nat.le_trans h.b.size h4
theorem CPr.below {b room n : Nat} {l : List Hd} {w wr w' : World} {Pr : Foot} (h : CPr b room n l w wr Pr) (hb : Below wr.heap.size wr w') : CPr b room n l w w' Pr :=
  h.turn (Chg.of_below hb) (fun _ hk => .inl hk) fun k hk => Nat.lt_of_lt_of_le (h.lt k hk) hb.size
theorem CPr.mono {b room n m : Nat} {l : List Hd} {w wr : World} {Pr : Foot} (h : CPr b room n l w wr Pr) (hm : n ≤ m) : CPr b room m l w wr Pr := by
  obtain ⟨F, h1, h2, h3⟩ := h.h
  exact ⟨⟨F, h1.mono hm, h2, h3⟩, h.lt, h.lo, h.b⟩
/-- A call of the cache leaves the other blocks as they are. -/
structure PrEnd (b room n : Nat) (l : List Hd) (w wr : World) (Pr : Foot) (w' : World) : Prop where
  c : CPr b room n l w w' Pr
  k : ∀ k, Pr k → w'.heap[k]? = wr.heap[k]?
  s : wr.heap.size ≤ w'.heap.size
theorem CEnd.pr {F : Foot} {b room n : Nat} {l : List Hd} {w wr w' : World} {Pr : Foot} (he : CEnd PCa F b wr room n l w') (hF : ∀ k, F k → w.heap.size ≤ k) (h3 : ∀ k, F k → ¬ Pr k) (hlt : ∀ k, Pr k → k < wr.heap.size) (hlo : ∀ k, Pr k → w.heap.size ≤ k) (hb : Below w.heap.size w wr) : PrEnd b room n l w wr Pr w' := by
  obtain ⟨⟨F', h4, h5⟩, h6⟩ := he
  exact ⟨⟨⟨F', h4, fun k hk => (h5 k hk).elim (hF k) fun h => Nat.le_trans hb.size h, fun k hk hp => (h5 k hk).elim (fun h => h3 k h hp) fun h => by have := hlt k hp; omega⟩, fun k hk => Nat.lt_of_lt_of_le (hlt k hk) h6.size, hlo, h6.below hb hF hb.size⟩, fun k hk => h6.block k (hlt k hk) fun h => h3 k h hk, h6.size⟩
section
variable {b room n : Nat} {l : List Hd} {w wr : World} {Pr : Foot}
theorem q_put (h : CPr b room n l w wr Pr) (x : Int) (p : List (BitVec 8)) (vp : Value) (hp : Sl wr vp p) (hpl : p.length ≤ 1000000) (hn : n ≤ 100000) :
    Calls Try.prog 19 #[cq b, .int .i64 x, vp] wr fun e w' => e = .returned (.tuple #[.int .i64 (putH room l x p).2.1, .int .i64 (putH room l x p).2.2]) ∧ PrEnd b room (n + 1) (putH room l x p).1 w wr Pr w' := by
  obtain ⟨F, h1, h2, h3⟩ := h.h
  refine (cput_any x p vp wr h1 hp hpl hn).mono ?_
  rintro e w' ⟨rfl, he⟩
  exact ⟨rfl, he.pr h2 h3 h.lt h.lo h.b⟩
theorem q_pin (h : CPr b room n l w wr Pr) (x : Int) (p : List (BitVec 8)) (vp : Value) (hp : Sl wr vp p) (hpl : p.length ≤ 1000000) (hn : n ≤ 100000) :
    Calls Try.prog 13 #[cq b, .int .i64 x, vp] wr fun e w' => e = .returned (.int .i64 (pinH l x p).2) ∧ PrEnd b room (n + 2) (pinH l x p).1 w wr Pr w' := by
  obtain ⟨F, h1, h2, h3⟩ := h.h
  refine (cpin_any x p vp wr h1 hp hpl hn).mono ?_
  rintro e w' ⟨rfl, he⟩
  exact ⟨rfl, he.pr h2 h3 h.lt h.lo h.b⟩
theorem q_get (h : CPr b room n l w wr Pr) (x : Int) (hx : wfI x) (hn : n ≤ 100000) :
    Calls Try.prog 10 #[cq b, .int .i64 x] wr fun e w' => GotH wr (getH l x).2 e w' ∧ PrEnd b room (n + 1) (getH l x).1 w wr Pr w' := by
  obtain ⟨F, h1, h2, h3⟩ := h.h
  refine (cget_any x wr h1 hx hn).mono ?_
  rintro e w' ⟨hg, he⟩
  exact ⟨hg, he.pr h2 h3 h.lt h.lo h.b⟩
theorem q_unpin (h : CPr b room n l w wr Pr) (x : Int) (hx : wfI x) (hn : n ≤ 100000) :
    Calls Try.prog 15 #[cq b, .int .i64 x] wr fun e w' => e = .returned (.tuple #[.int .i64 (unpH room l x).2.1, .bool (unpH room l x).2.2]) ∧ PrEnd b room (n + 1) (unpH room l x).1 w wr Pr w' := by
  obtain ⟨F, h1, h2, h3⟩ := h.h
  refine (cunpin_any x wr h1 hx hn).mono ?_
  rintro e w' ⟨rfl, he⟩
  exact ⟨rfl, he.pr h2 h3 h.lt h.lo h.b⟩
theorem q_drop (h : CPr b room n l w wr Pr) (x : Int) (hx : wfI x) : Calls Try.prog 17 #[cq b, .int .i64 x] wr fun e w' => e = .returned (.bool (drpH l x).2) ∧ PrEnd b room n (drpH l x).1 w wr Pr w' := by
  obtain ⟨F, h1, h2, h3⟩ := h.h
  refine (cdrop_any x wr h1 hx).mono ?_
  rintro e w' ⟨rfl, he⟩
  exact ⟨rfl, he.pr h2 h3 h.lt h.lo h.b⟩
end
/-- Put, where none is pinned. -/
theorem put_plain {m room : Nat} {l : List Hd} (ok : Ok m l) (hp : ∀ h ∈ l, h.pin = false) (hl : l.length ≤ room) (h1 : 1 ≤ room) {x : Int} (hx : 0 ≤ x ∧ x < 4096) (p : List (BitVec 8)) :
    (putH room l x p).2.2 = 0 ∧ (∀ h ∈ (putH room l x p).1, h.pin = false) ∧ (putH room l x p).1.length ≤ room ∧
    (((unl x (osOf l)).length = room ∧ ∃ y r, unl x (osOf l) = y :: r ∧ (putH room l x p).2.1 = y ∧ osOf (putH room l x p).1 = r ++ [x]) ∨ ((unl x (osOf l)).length ≠ room ∧ (putH room l x p).2.1 = -1 ∧ osOf (putH room l x p).1 = unl x (osOf l) ++ [x])) := by
  have hq : pinOf l x = false := by
    unfold pinOf
    cases e : lkH l x with
    | none => rfl
    | some g => exact hp g (look_some e).1
  obtain ⟨c, hc⟩ : ∃ c, c = (⟨x, p, false⟩ : Hd) :: rsH l x := ⟨_, rfl⟩
  have e1 : putH room l x p = ((fit room c).1, (fit room c).2, 0) := by unfold putH; rw [isI_iff.2 hx, hq, hc]; rfl
  have hcp : ∀ h ∈ c, h.pin = false := fun h hh => by
    rw [hc] at hh
    rcases List.mem_cons.1 hh with rfl | hh
    · rfl
    · exact hp h (mem_rest.1 hh).1
  have hu : unH c = c := by
    unfold unH
    rw [List.filter_eq_self]
    intro h hh
    simp [hcp h hh]
  have hcl : c.length = (rsH l x).length + 1 := by rw [hc]; rfl
  have hrl : (unl x (osOf l)).length = (rsH l x).length := by rw [← osOf_rest, osOf_len]
  have hrle : (rsH l x).length ≤ l.length := List.length_filter_le _ _
  have hos : osOf c = unl x (osOf l) ++ [x] := by rw [hc, osOf_cons]
  rw [e1]
  by_cases hfull : (rsH l x).length = room
  · have hgt : room < (unH c).length := by rw [hu]; omega
    rcases fit_cases room c with ⟨_, h2⟩ | ⟨g, hg, _, hlast, hfit, _⟩
    · omega
    · rw [hu] at hlast
      have hne : rsH l x ≠ [] := fun h => by rw [h] at hfull; simp at hfull; omega
      have hlast2 : (rsH l x).getLast? = some g := by
        rw [hc, List.getLast?_cons] at hlast
        cases e : (rsH l x).getLast? with
        | none => exact absurd (List.getLast?_eq_none_iff.1 e) hne
        | some y => rw [e] at hlast; simpa using hlast
      have hhead : (unl x (osOf l)).head? = some g.item := by
        rw [← osOf_rest]
        unfold osOf items
        rw [List.head?_reverse, List.getLast?_map, hlast2]; rfl
      obtain ⟨r, hr⟩ : ∃ r, unl x (osOf l) = g.item :: r := by
        cases e : unl x (osOf l) with
        | nil => rw [e] at hhead; cases hhead
        | cons y r => rw [e] at hhead; simp at hhead; exact ⟨r, by rw [hhead]⟩
      have hgx : g.item ≠ x := (mem_rest.1 (List.mem_of_getLast? hlast2)).2
      have hnr : g.item ∉ r := by
        have h := unl_nodup (x := x) (osOf_nodup ok.nd)
        rw [hr] at h
        exact (List.nodup_cons.1 h).1
      have hos2 : osOf (fit room c).1 = r ++ [x] := by
        rw [hfit]
        show osOf (rsH c g.item) = _
        rw [osOf_rest, hos, hr]
        unfold unl
        rw [List.filter_append]
        have e2 : (g.item :: r).filter (fun y => !decide (y = g.item)) = r := by
          rw [List.filter_cons_of_neg (by simp)]
          exact unl_not hnr
        rw [e2]
        simp [Ne.symm hgx]
      refine ⟨rfl, fun h hh => ?_, ?_, .inl ⟨by rw [hrl]; exact hfull, g.item, r, hr, by rw [hfit], hos2⟩⟩
      · rw [hfit] at hh
        exact hcp h (mem_rest.1 hh).1
      · rw [← osOf_len, hos2]
        have : (unl x (osOf l)).length = r.length + 1 := by rw [hr]; rfl
        simp; omega
  · have hfit : fit room c = (c, -1) := by unfold fit; rw [if_pos (by rw [hu]; omega)]
    rw [hfit]
    exact ⟨rfl, hcp, by show c.length ≤ room; omega, .inr ⟨by rw [hrl]; exact hfull, rfl, hos⟩⟩
end Sha
end Go.Proofs.Yteiffdccfmfdbaa
