/- What the program's maps and its order are, of the pages that are held. -/
import Derived.Test.YteiffdccfmfdbaaLruPHold
namespace Go.Proofs.Yteiffdccfmfdbaa
namespace Sha
open Go.RowKit Mem Lru
def pgOf (l : List Hd) : Int → Option (List (BitVec 8)) := fun x => (lkH l x).map (·.page)
def osOf (l : List Hd) : List Int := (items l).reverse
theorem pgOf_some (l : List Hd) (x : Int) : (pgOf l x).isSome = (lkH l x).isSome := by simp [pgOf]
theorem osOf_nodup {l : List Hd} (h : (items l).Nodup) : (osOf l).Nodup := by unfold osOf; exact (List.reverse_perm _).nodup_iff.2 h
theorem osOf_len (l : List Hd) : (osOf l).length = l.length := by simp [osOf, items]
theorem pinOf_rest (l : List Hd) (x : Int) : pinOf (rsH l x) = updB (pinOf l) x false := by
  funext y
  unfold pinOf updB
  rw [look_rest]
  by_cases e : y = x <;> simp [e]
theorem pgOf_rest (l : List Hd) (x : Int) : pgOf (rsH l x) = updP (pgOf l) x none := by
  funext y
  unfold pgOf updP
  rw [look_rest]
  by_cases e : y = x <;> simp [e]
theorem osOf_rest (l : List Hd) (x : Int) : osOf (rsH l x) = unl x (osOf l) := by
  unfold osOf unl
  rw [items_rest, List.filter_reverse]
theorem pgOf_cons (l : List Hd) (x : Int) (p : List (BitVec 8)) (q : Bool) : pgOf (⟨x, p, q⟩ :: rsH l x) = updP (pgOf l) x (some p) := by
  funext y
  unfold pgOf updP
  rw [look_cons, look_rest]
  by_cases e : y = x
  · simp [e]
  · rw [if_neg (fun h => e h.symm), if_neg e, if_neg e]
theorem pinOf_cons (l : List Hd) (x : Int) (p : List (BitVec 8)) (q : Bool) : pinOf (⟨x, p, q⟩ :: rsH l x) = updB (pinOf l) x q := by
  funext y
  unfold pinOf updB
  rw [look_cons, look_rest]
  by_cases e : y = x
  · simp [e]
  · rw [if_neg (fun h => e h.symm), if_neg e, if_neg e]
theorem osOf_cons (l : List Hd) (x : Int) (p : List (BitVec 8)) (q : Bool) : osOf (⟨x, p, q⟩ :: rsH l x) = unl x (osOf l) ++ [x] := by
  rw [← osOf_rest]
  simp [osOf, items]
theorem updB_self (pn : Int → Bool) (x : Int) : updB pn x (pn x) = pn := by
  funext y
  unfold updB
  by_cases e : y = x <;> simp [e]
theorem updP_self (pg : Int → Option (List (BitVec 8))) (x : Int) : updP pg x (pg x) = pg := by
  funext y
  unfold updP
  by_cases e : y = x <;> simp [e]
theorem pinOf_put (l : List Hd) (x : Int) (p : List (BitVec 8)) : pinOf (⟨x, p, pinOf l x⟩ :: rsH l x) = pinOf l := by rw [pinOf_cons, updB_self]
theorem used_eq {l : List Hd} {x : Int} {h : Hd} (e : lkH l x = some h) : pgOf (h :: rsH l x) = pgOf l ∧ pinOf (h :: rsH l x) = pinOf l ∧ osOf (h :: rsH l x) = unl x (osOf l) ++ [x] := by
  have hp : pgOf l x = some h.page := by simp [pgOf, e]
  have hq : pinOf l x = h.pin := by simp [pinOf, e]
  rw [cons_eta e, pgOf_cons, pinOf_cons, osOf_cons]
  exact ⟨by rw [← hp, updP_self], by rw [← hq, updB_self], rfl⟩
def pns (l : List Hd) : List Hd := l.filter (·.pin)
theorem pns_nodup {l : List Hd} (h : (items l).Nodup) : (items (pns l)).Nodup := by
  unfold items pns
  exact (List.filter_sublist.map _).nodup h
theorem mem_pns {l : List Hd} (h : (items l).Nodup) (x : Int) : x ∈ items (pns l) ↔ (unitF (pinOf l) x).isSome = true := by
  rw [unitF_some, mem_items]
  constructor
  · rintro ⟨g, hg, rfl⟩
    have hg' : g ∈ l ∧ g.pin = true := by simpa [pns] using hg
    unfold pinOf
    rw [look_mem h hg'.1]
    exact hg'.2
  · intro hp
    unfold pinOf at hp
    cases e : lkH l x with
    | none => rw [e] at hp; cases hp
    | some g =>
      rw [e] at hp
      obtain ⟨hm, hx⟩ := look_some e
      exact ⟨g, by simpa [pns] using ⟨hm, hp⟩, hx⟩
theorem mem_pgs (l : List Hd) {f : Int → Option Value} (h : ∀ x, (f x).isSome = (pgOf l x).isSome) (x : Int) : x ∈ items l ↔ (f x).isSome = true := by
  rw [h x, pgOf_some, look_isSome]
theorem len_parts (l : List Hd) : (unH l).length + (pns l).length = l.length := by
  unfold unH pns
  induction l with
  | nil => rfl
  | cons h l ih => cases e : h.pin <;> simp [e] <;> omega
theorem fit_at {n room : Nat} {l : List Hd} (h : Ok n l) (hr : room < (unH l).length) {k : Nat} (hk : k < l.length) (hb : ∀ j, j < k → pinOf l ((osOf l).getD j 0) = true) (hp : pinOf l ((osOf l).getD k 0) = false) :
    fit room l = (rsH l ((osOf l).getD k 0), (osOf l).getD k 0) := by
  have hat : ∀ j, j < l.length → ∃ g, l.reverse[j]? = some g ∧ (osOf l).getD j 0 = g.item ∧ pinOf l g.item = g.pin := fun j hj => by
    have hj' : j < l.reverse.length := by simpa using hj
    refine ⟨l.reverse[j], List.getElem?_eq_getElem hj', ?_, ?_⟩
    · simp [osOf, items, List.getD_eq_getElem?_getD, ← List.map_reverse, hj]
    · have hm : l.reverse[j] ∈ l := List.mem_reverse.1 (List.getElem_mem hj')
      unfold pinOf
      rw [look_mem h.nd hm]
  obtain ⟨g, hg, e1, e2⟩ := hat k hk
  rw [e1] at hp ⊢
  have hgp : g.pin = false := by rw [← e2]; exact hp
  have hlast : (unH l).getLast? = some g := by
    unfold unH
    rw [List.getLast?_eq_head?_reverse, ← List.filter_reverse, List.head?_filter]
    have hkl : k < l.reverse.length := by simpa using hk
    rw [List.find?_eq_some_iff_getElem]
    refine ⟨by simp [hgp], k, hkl, ?_, fun j hj => ?_⟩
    · rw [List.getElem?_eq_getElem hkl] at hg
      injection hg
    · obtain ⟨g', hg', e3, e4⟩ := hat j (by omega)
      have := hb j hj
      rw [e3, e4] at this
      have hjl : j < l.reverse.length := by simp; omega
      rw [List.getElem?_eq_getElem hjl] at hg'
      injection hg' with hg'
      rw [hg']
      simp [this]
  unfold fit
  rw [if_neg (by omega), hlast]
theorem fit_some {l : List Hd} {n : Nat} (h : Ok n l) (hr : 0 < (unH l).length) : ¬ ∀ j, j < l.length → pinOf l ((osOf l).getD j 0) = true := by
  intro hb
  obtain ⟨g, hg⟩ := List.exists_mem_of_length_pos hr
  have hg' : g ∈ l ∧ g.pin = false := by simpa [unH] using hg
  have hm : g ∈ l.reverse := List.mem_reverse.2 hg'.1
  obtain ⟨j, hj, e⟩ := List.getElem_of_mem hm
  have hj' : j < l.length := by simpa using hj
  have h1 := hb j hj'
  have h2 : (osOf l).getD j 0 = g.item := by
    simp [osOf, items, List.getD_eq_getElem?_getD, ← List.map_reverse, hj']
    rw [← e]; simp
  rw [h2] at h1
  unfold pinOf at h1
  rw [look_mem h.nd hg'.1] at h1
  simp [hg'.2] at h1
theorem wf_it {z : Int} (h : 0 ≤ z ∧ z < 4096) : wfI z := by
  simp [wfI, Lit.wf, IntKind.min, IntKind.max, IntKind.signed, IntKind.bits]
  omega
theorem os_wf {n : Nat} {l : List Hd} (h : Ok n l) {k : Nat} (hk : k < l.length) : wfI ((osOf l).getD k 0) ∧ (pgOf l ((osOf l).getD k 0)).isSome = true := by
  have hj' : k < l.reverse.length := by simpa using hk
  have hm : l.reverse[k] ∈ l := List.mem_reverse.1 (List.getElem_mem hj')
  have e : (osOf l).getD k 0 = l.reverse[k].item := by simp [osOf, items, List.getD_eq_getElem?_getD, ← List.map_reverse, hk]
  rw [e]
  refine ⟨?_, by rw [pgOf_some, look_mem h.nd hm]; rfl⟩
  exact wf_it (h.it _ hm)
end Sha
end Go.Proofs.Yteiffdccfmfdbaa
