/- Layer 15's mathematics: pages that are held, the one that was used last first; what each call makes of them. Over no program. -/
import Derived.Test.YteiffdccfmfdbaaNum
namespace Go.Proofs.Yteiffdccfmfdbaa
namespace Lru
/-- A page that is held. -/
structure Hd where
  item : Int
  page : List (BitVec 8)
  pin : Bool
deriving Inhabited
def lkH (l : List Hd) (x : Int) : Option Hd := l.find? fun h => decide (h.item = x)
/-- All but an item's. -/
def rsH (l : List Hd) (x : Int) : List Hd := l.filter fun h => !decide (h.item = x)
/-- Those that are not pinned. -/
def unH (l : List Hd) : List Hd := l.filter fun h => !h.pin
def isI (x : Int) : Bool := decide (0 ≤ x) && decide (x < 4096)
/-- The one that goes, if there are too many. -/
def fit (room : Nat) (l : List Hd) : List Hd × Int :=
  if (unH l).length ≤ room then (l, -1) else
    match (unH l).getLast? with
    | some g => (rsH l g.item, g.item)
    | none => (l, -1)
def pinOf (l : List Hd) (x : Int) : Bool := match lkH l x with | some h => h.pin | none => false
def putH (room : Nat) (l : List Hd) (x : Int) (p : List (BitVec 8)) : List Hd × Int × Int :=
  if isI x then ((fit room (⟨x, p, pinOf l x⟩ :: rsH l x)).1, (fit room (⟨x, p, pinOf l x⟩ :: rsH l x)).2, 0) else (l, -1, 1)
def getH (l : List Hd) (x : Int) : List Hd × Option (List (BitVec 8)) :=
  match lkH l x with | some h => (h :: rsH l x, some h.page) | none => (l, none)
def pinH (l : List Hd) (x : Int) (p : List (BitVec 8)) : List Hd × Int := if isI x then (⟨x, p, true⟩ :: rsH l x, 0) else (l, 1)
def unpH (room : Nat) (l : List Hd) (x : Int) : List Hd × Int × Bool :=
  match lkH l x with
  | some h => if h.pin then ((fit room (⟨x, h.page, false⟩ :: rsH l x)).1, (fit room (⟨x, h.page, false⟩ :: rsH l x)).2, true) else (l, -1, false)
  | none => (l, -1, false)
def drpH (l : List Hd) (x : Int) : List Hd × Bool := (rsH l x, (lkH l x).isSome)
def items (l : List Hd) : List Int := l.map (·.item)
/-- Where an item stands; -1: nowhere. -/
def idx (x : Int) : List Hd → Nat → Int
  | [], _ => -1
  | h :: l, i => if h.item = x then (i : Int) else idx x l (i + 1)
theorem mem_items {l : List Hd} {x : Int} : x ∈ items l ↔ ∃ h ∈ l, h.item = x := by simp [items]
theorem look_some {l : List Hd} {x : Int} {h : Hd} (e : lkH l x = some h) : h ∈ l ∧ h.item = x := by
  have h1 := List.mem_of_find?_eq_some e
  have h2 := List.find?_some e
  exact ⟨h1, by simpa using h2⟩
theorem look_none {l : List Hd} {x : Int} (e : lkH l x = none) : ∀ h ∈ l, h.item ≠ x := fun h hh => by
  have := List.find?_eq_none.1 e h hh
  simpa using this
theorem look_isSome {l : List Hd} {x : Int} : (lkH l x).isSome = true ↔ x ∈ items l := by
  rw [mem_items]
  cases e : lkH l x with
  | none =>
    simp only [Option.isSome_none, Bool.false_eq_true, false_iff]
    rintro ⟨h, hh, hx⟩
    exact look_none e h hh hx
  | some h => simp only [Option.isSome_some, true_iff]; exact ⟨h, look_some e⟩
theorem look_cons (h : Hd) (l : List Hd) (x : Int) : lkH (h :: l) x = if h.item = x then some h else lkH l x := by
  unfold lkH
  rw [List.find?_cons]
  by_cases e : h.item = x <;> simp [e]
/-- What is held, as it must be. -/
structure Ok (n : Nat) (l : List Hd) : Prop where
  nd : (items l).Nodup
  it : ∀ h ∈ l, 0 ≤ h.item ∧ h.item < 4096
  pg : ∀ h ∈ l, h.page.length ≤ 1000000
  len : l.length ≤ n
theorem Ok.mono {n m : Nat} {l : List Hd} (h : Ok n l) (hm : n ≤ m) : Ok m l := ⟨h.nd, h.it, h.pg, Nat.le_trans h.len hm⟩
theorem ok_nil : Ok 0 [] := ⟨by simp [items], by simp, by simp, Nat.le_refl _⟩
theorem mem_rest {l : List Hd} {x : Int} {h : Hd} : h ∈ rsH l x ↔ h ∈ l ∧ h.item ≠ x := by simp [rsH]
theorem items_rest (l : List Hd) (x : Int) : items (rsH l x) = (items l).filter fun y => !decide (y = x) := by
  unfold items rsH
  rw [List.filter_map]
  rfl
theorem ok_rest {n : Nat} {l : List Hd} (h : Ok n l) (x : Int) : Ok n (rsH l x) :=
  ⟨by rw [items_rest]; exact h.nd.filter _, fun g hg => h.it g (mem_rest.1 hg).1, fun g hg => h.pg g (mem_rest.1 hg).1, Nat.le_trans (List.length_filter_le _ _) h.len⟩
theorem ok_cons {n : Nat} {l : List Hd} (h : Ok n l) {x : Int} {p : List (BitVec 8)} (hx : 0 ≤ x ∧ x < 4096) (hp : p.length ≤ 1000000) (b : Bool) : Ok (n + 1) (⟨x, p, b⟩ :: rsH l x) := by
  have hr := ok_rest h x
  refine ⟨?_, ?_, ?_, by have := hr.len; simp; omega⟩
  · show (x :: items (rsH l x)).Nodup
    rw [List.nodup_cons]
    refine ⟨fun hm => ?_, hr.nd⟩
    obtain ⟨g, hg, e⟩ := mem_items.1 hm
    exact (mem_rest.1 hg).2 e
  · intro g hg
    rcases List.mem_cons.1 hg with rfl | hg
    · exact hx
    · exact hr.it g hg
  · intro g hg
    rcases List.mem_cons.1 hg with rfl | hg
    · exact hp
    · exact hr.pg g hg
theorem look_rest (l : List Hd) (x y : Int) : lkH (rsH l x) y = if y = x then none else lkH l y := by
  by_cases e : y = x
  · rw [if_pos e]
    cases h : lkH (rsH l x) y with
    | none => rfl
    | some g => exact absurd ((look_some h).2.trans e) (mem_rest.1 (look_some h).1).2
  · rw [if_neg e]
    induction l with
    | nil => rfl
    | cons g l ih =>
      by_cases hg : g.item = x
      · have : rsH (g :: l) x = rsH l x := by simp [rsH, hg]
        rw [this, ih, look_cons, if_neg (by rw [hg]; exact fun h => e h.symm)]
      · have : rsH (g :: l) x = g :: rsH l x := by simp [rsH, hg]
        rw [this, look_cons, look_cons, ih]
theorem look_mem {l : List Hd} (hn : (items l).Nodup) {h : Hd} (hh : h ∈ l) : lkH l h.item = some h := by
  induction l with
  | nil => cases hh
  | cons g l ih =>
    rw [look_cons]
    have hn' : g.item ∉ items l ∧ (items l).Nodup := by simpa [items] using hn
    rcases List.mem_cons.1 hh with rfl | hm
    · rw [if_pos rfl]
    · rw [if_neg (fun e => hn'.1 (mem_items.2 ⟨h, hm, e.symm⟩)), ih hn'.2 hm]
theorem rest_of_not {l : List Hd} {x : Int} (h : x ∉ items l) : rsH l x = l := by
  unfold rsH
  rw [List.filter_eq_self]
  intro g hg
  have : g.item ≠ x := fun e => h (mem_items.2 ⟨g, hg, e⟩)
  simp [this]
theorem look_isI {n : Nat} {l : List Hd} (h : Ok n l) {x : Int} {g : Hd} (e : lkH l x = some g) : 0 ≤ x ∧ x < 4096 := by
  obtain ⟨hm, rfl⟩ := look_some e
  exact h.it g hm
theorem fit_cases (room : Nat) (l : List Hd) : fit room l = (l, -1) ∧ (unH l).length ≤ room ∨ ∃ g ∈ l, g.pin = false ∧ (unH l).getLast? = some g ∧ fit room l = (rsH l g.item, g.item) ∧ room < (unH l).length := by
  unfold fit
  by_cases h : (unH l).length ≤ room
  · rw [if_pos h]; exact .inl ⟨rfl, h⟩
  · rw [if_neg h]
    cases e : (unH l).getLast? with
    | none =>
      rw [List.getLast?_eq_none_iff] at e
      rw [e] at h
      exact absurd (Nat.zero_le _) h
    | some g =>
      right
      have hm := List.mem_of_getLast? e
      have hm' : g ∈ l ∧ g.pin = false := by simpa [unH] using hm
      exact ⟨g, hm'.1, hm'.2, rfl, rfl, by omega⟩
theorem ok_fit {n room : Nat} {l : List Hd} (h : Ok n l) : Ok n (fit room l).1 := by
  rcases fit_cases room l with ⟨e, _⟩ | ⟨g, _, _, _, e, _⟩ <;> rw [e]
  · exact h
  · exact ok_rest h _
theorem isI_iff {x : Int} : isI x = true ↔ 0 ≤ x ∧ x < 4096 := by simp [isI]
theorem ok_put {n room : Nat} {l : List Hd} (h : Ok n l) (x : Int) {p : List (BitVec 8)} (hp : p.length ≤ 1000000) : Ok (n + 1) (putH room l x p).1 := by
  unfold putH
  split
  · rename_i hx
    exact ok_fit (ok_cons h (isI_iff.1 hx) hp _)
  · exact h.mono (Nat.le_succ _)
theorem ok_pin {n : Nat} {l : List Hd} (h : Ok n l) (x : Int) {p : List (BitVec 8)} (hp : p.length ≤ 1000000) : Ok (n + 1) (pinH l x p).1 := by
  unfold pinH
  split
  · rename_i hx
    exact ok_cons h (isI_iff.1 hx) hp _
  · exact h.mono (Nat.le_succ _)
theorem cons_eta {l : List Hd} {x : Int} {h : Hd} (e : lkH l x = some h) : h = ⟨x, h.page, h.pin⟩ := by
  obtain ⟨_, rfl⟩ := look_some e
  rfl
theorem ok_get {n : Nat} {l : List Hd} (h : Ok n l) (x : Int) : Ok (n + 1) (getH l x).1 := by
  unfold getH
  split
  · rename_i g e
    have := ok_cons h (look_isI h e) (h.pg g (look_some e).1) g.pin
    rw [← cons_eta e] at this
    exact this
  · exact h.mono (Nat.le_succ _)
theorem ok_unpin {n room : Nat} {l : List Hd} (h : Ok n l) (x : Int) : Ok (n + 1) (unpH room l x).1 := by
  unfold unpH
  split
  · rename_i g e
    split
    · exact ok_fit (ok_cons h (look_isI h e) (h.pg g (look_some e).1) _)
    · exact h.mono (Nat.le_succ _)
  · exact h.mono (Nat.le_succ _)
theorem ok_drop {n : Nat} {l : List Hd} (h : Ok n l) (x : Int) : Ok (n + 1) (drpH l x).1 := (ok_rest h x).mono (Nat.le_succ _)
/-- The document's way: where an item stands, and all but what stands there. -/
theorem idx_none {x : Int} : ∀ {l : List Hd} {i : Nat}, x ∉ items l → idx x l i = -1
  | [], _, _ => rfl
  | h :: l, i, hx => by
    have h1 : h.item ≠ x ∧ x ∉ items l := ⟨fun e => hx (by simp [items, e]), fun hm => hx (by simp [items] at hm ⊢; exact .inr hm)⟩
    rw [idx, if_neg h1.1, idx_none h1.2]
theorem idx_hit {x : Int} : ∀ (l : List Hd) (k i : Nat), k < l.length → (l.getD k default).item = x → (∀ j, j < k → (l.getD j default).item ≠ x) → idx x l i = ((i + k : Nat) : Int)
  | [], k, _, hk, _, _ => absurd hk (Nat.not_lt_zero _)
  | h :: l, 0, i, _, e, _ => by
    have : h.item = x := by simpa using e
    simp [idx, this]
  | h :: l, k + 1, i, hk, e, hb => by
    have h0 : h.item ≠ x := by simpa using hb 0 (Nat.succ_pos _)
    rw [idx, if_neg h0, idx_hit l k (i + 1) (by simpa using hk) (by simpa using e) (fun j hj => by simpa using hb (j + 1) (by omega))]
    congr 1; omega
theorem idx_miss {x : Int} {l : List Hd} (h : ∀ j, j < l.length → (l.getD j default).item ≠ x) (i : Nat) : idx x l i = -1 := idx_none fun hm => by
  obtain ⟨g, hg, e⟩ := mem_items.1 hm
  obtain ⟨j, hj, rfl⟩ := List.getElem_of_mem hg
  exact h j hj (by rw [List.getD_eq_getElem?_getD, List.getElem?_eq_getElem hj]; exact e)
/-- An item that is held stands at a place. -/
theorem idx_at {x : Int} : ∀ {l : List Hd}, (items l).Nodup → ∀ {h : Hd} (i : Nat), lkH l x = some h → ∃ k, k < l.length ∧ idx x l i = ((i + k : Nat) : Int) ∧ l.getD k default = h ∧ l.take k ++ l.drop (k + 1) = rsH l x
  | [], _, h, i, e => by simp [lkH] at e
  | g :: l, hn, h, i, e => by
    have hn' : g.item ∉ items l ∧ (items l).Nodup := by simpa [items] using hn
    rw [look_cons] at e
    by_cases hg : g.item = x
    · rw [if_pos hg] at e
      injection e with e
      subst e
      refine ⟨0, by simp, by simp [idx, hg], rfl, ?_⟩
      have : rsH (g :: l) x = rsH l x := by simp [rsH, hg]
      rw [this, rest_of_not (by rw [← hg]; exact hn'.1)]
      simp
    · rw [if_neg hg] at e
      obtain ⟨k, h1, h2, h3, h4⟩ := idx_at hn'.2 (i + 1) e
      refine ⟨k + 1, by simpa using h1, by rw [idx, if_neg hg, h2]; congr 1; omega, by simpa using h3, ?_⟩
      have : rsH (g :: l) x = g :: rsH l x := by simp [rsH, hg]
      rw [this, ← h4]
      simp
theorem idx_lt {x : Int} {l : List Hd} (hn : (items l).Nodup) : (idx x l 0 < 0 ↔ lkH l x = none) := by
  constructor
  · intro h
    cases e : lkH l x with
    | none => rfl
    | some g =>
      obtain ⟨k, _, h2, _⟩ := idx_at hn 0 e
      rw [h2] at h
      omega
  · intro h
    rw [idx_none fun hm => by rw [← look_isSome, h] at hm; cases hm]
    omega
theorem unp_snoc (l : List Hd) (h : Hd) : unH (l ++ [h]) = if h.pin then unH l else unH l ++ [h] := by
  unfold unH
  rw [List.filter_append]
  cases e : h.pin <;> simp [e]
end Lru
end Go.Proofs.Yteiffdccfmfdbaa
