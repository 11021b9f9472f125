/- What each call of a cache makes of what is pinned, of what is held, and of how many are not pinned. -/
import Derived.Test.YteiffdccfmfdbaaLruPr
namespace Go.Proofs.Yteiffdccfmfdbaa
namespace Sha
open Go.RowKit Mem Lru
theorem mem_fit {room : Nat} {c : List Hd} {h : Hd} (hh : h ∈ (fit room c).1) : h ∈ c := by
  rcases fit_cases room c with ⟨e, _⟩ | ⟨g, _, _, _, e, _⟩ <;> rw [e] at hh
  · exact hh
  · exact (mem_rest.1 hh).1
theorem pin_fit {room : Nat} {c : List Hd} (hn : (items c).Nodup) : pinOf (fit room c).1 = pinOf c := by
  rcases fit_cases room c with ⟨e, _⟩ | ⟨g, hg, hp, _, e, _⟩ <;> rw [e]
  rw [pinOf_rest]
  have : pinOf c g.item = false := by unfold pinOf; rw [look_mem hn hg]; exact hp
  rw [← this, updB_self]
theorem un_fit {room : Nat} {c : List Hd} (h : (unH c).length ≤ room + 1) : (unH (fit room c).1).length ≤ room := by
  rcases fit_cases room c with ⟨e, h1⟩ | ⟨g, hg, hp, _, e, _⟩ <;> rw [e]
  · exact h1
  · have h1 : unH (rsH c g.item) = (unH c).filter fun h => !decide (h.item = g.item) := by
      unfold unH rsH
      rw [List.filter_filter, List.filter_filter]
      congr 1
      funext h
      exact Bool.and_comm _ _
    have h2 : (unH (rsH c g.item)).length < (unH c).length := by
      rw [h1]
      refine List.length_filter_lt_length_iff_exists.2 ⟨g, by simp [unH, hg, hp], by simp⟩
    show (unH (rsH c g.item)).length ≤ room
    omega
theorem un_rest (l : List Hd) (x : Int) : (unH (rsH l x)).length ≤ (unH l).length := by
  have : unH (rsH l x) = (unH l).filter fun h => !decide (h.item = x) := by
    unfold unH rsH
    rw [List.filter_filter, List.filter_filter]
    congr 1
    funext h
    exact Bool.and_comm _ _
  rw [this]
  exact List.length_filter_le _ _
theorem un_cons (h : Hd) (l : List Hd) : (unH (h :: l)).length ≤ (unH l).length + 1 := by
  unfold unH
  cases e : h.pin <;> simp [e]
theorem un_used {l : List Hd} {x : Int} {h : Hd} (e : lkH l x = some h) : (unH (h :: rsH l x)).length ≤ (unH l).length := by
  obtain ⟨hm, hx⟩ := look_some e
  cases hp : h.pin with
  | true =>
    have : unH (h :: rsH l x) = unH (rsH l x) := by simp [unH, hp]
    rw [this]; exact un_rest l x
  | false =>
    have h1 : unH (rsH l x) = (unH l).filter fun g => !decide (g.item = x) := by
      unfold unH rsH
      rw [List.filter_filter, List.filter_filter]
      congr 1
      funext h
      exact Bool.and_comm _ _
    have h2 : (unH (rsH l x)).length < (unH l).length := by
      rw [h1]
      exact List.length_filter_lt_length_iff_exists.2 ⟨h, by simp [unH, hm, hp], by simp [hx]⟩
    have h3 : (unH (h :: rsH l x)).length = (unH (rsH l x)).length + 1 := by simp [unH, hp]
    omega
/-- Put. -/
theorem put_hold {n room : Nat} {l : List Hd} (ok : Ok n l) (hu : (unH l).length ≤ room) {x : Int} (hx : 0 ≤ x ∧ x < 4096) {p : List (BitVec 8)} (hp : p.length ≤ 1000000) :
    pinOf (putH room l x p).1 = pinOf l ∧ (unH (putH room l x p).1).length ≤ room ∧ ∀ h ∈ (putH room l x p).1, (h.item = x ∧ h.page = p) ∨ (h ∈ l ∧ h.item ≠ x) := by
  have e : (putH room l x p).1 = (fit room (⟨x, p, pinOf l x⟩ :: rsH l x)).1 := by unfold putH; rw [isI_iff.2 hx]; rfl
  rw [e]
  refine ⟨?_, un_fit ?_, fun h hh => ?_⟩
  · rw [pin_fit (ok_cons ok hx hp _).nd, pinOf_put]
  · have h1 := un_cons ⟨x, p, pinOf l x⟩ (rsH l x)
    have h2 := un_rest l x
    omega
  · rcases List.mem_cons.1 (mem_fit hh) with rfl | hh
    · exact .inl ⟨rfl, rfl⟩
    · exact .inr (mem_rest.1 hh)
theorem pin_hold {room : Nat} {l : List Hd} (hu : (unH l).length ≤ room) {x : Int} (hx : 0 ≤ x ∧ x < 4096) (p : List (BitVec 8)) :
    pinOf (pinH l x p).1 = updB (pinOf l) x true ∧ (unH (pinH l x p).1).length ≤ room ∧ ∀ h ∈ (pinH l x p).1, (h.item = x ∧ h.page = p) ∨ (h ∈ l ∧ h.item ≠ x) := by
  have e : (pinH l x p).1 = ⟨x, p, true⟩ :: rsH l x := by unfold pinH; rw [isI_iff.2 hx]; rfl
  rw [e]
  refine ⟨pinOf_cons _ _ _ _, ?_, fun h hh => ?_⟩
  · have h1 : unH (⟨x, p, true⟩ :: rsH l x) = unH (rsH l x) := by simp [unH]
    have h2 := un_rest l x
    rw [h1]
    omega
  · rcases List.mem_cons.1 hh with rfl | hh
    · exact .inl ⟨rfl, rfl⟩
    · exact .inr (mem_rest.1 hh)
theorem get_hold {room : Nat} {l : List Hd} (hu : (unH l).length ≤ room) (x : Int) : pinOf (getH l x).1 = pinOf l ∧ (unH (getH l x).1).length ≤ room ∧ ∀ h ∈ (getH l x).1, h ∈ l := by
  unfold getH
  split
  · rename_i g e
    obtain ⟨u1, u2, u3⟩ := used_eq e
    refine ⟨u2, Nat.le_trans (un_used e) hu, fun h hh => ?_⟩
    rcases List.mem_cons.1 hh with rfl | hh
    · exact (look_some e).1
    · exact (mem_rest.1 hh).1
  · exact ⟨rfl, hu, fun h hh => hh⟩
theorem unp_hold {n room : Nat} {l : List Hd} (ok : Ok n l) (hu : (unH l).length ≤ room) (x : Int) : pinOf (unpH room l x).1 = updB (pinOf l) x false ∧ (unpH room l x).2.2 = pinOf l x ∧ (unH (unpH room l x).1).length ≤ room ∧ ∀ h ∈ (unpH room l x).1, ∃ g ∈ l, g.item = h.item ∧ g.page = h.page := by
  unfold unpH
  split
  · rename_i g e
    have hq : pinOf l x = g.pin := by unfold pinOf; rw [e]
    cases hp : g.pin with
    | true =>
      refine ⟨?_, by rw [hq, hp]; rfl, un_fit ?_, fun h hh => ?_⟩
      · show pinOf (fit room (⟨x, g.page, false⟩ :: rsH l x)).1 = _
        rw [pin_fit (ok_cons ok (look_isI ok e) (ok.pg g (look_some e).1) _).nd, pinOf_cons]
      · have h1 := un_cons ⟨x, g.page, false⟩ (rsH l x)
        have h2 := un_rest l x
        omega
      · have hh : h ∈ (fit room (⟨x, g.page, false⟩ :: rsH l x)).1 := hh
        rcases List.mem_cons.1 (mem_fit hh) with rfl | hh
        · exact ⟨g, (look_some e).1, (look_some e).2, rfl⟩
        · exact ⟨h, (mem_rest.1 hh).1, rfl, rfl⟩
    | false =>
      refine ⟨?_, by rw [hq, hp]; rfl, hu, fun h hh => ⟨h, hh, rfl, rfl⟩⟩
      show pinOf l = _
      have : pinOf l x = false := by rw [hq, hp]
      rw [← this, updB_self]
  · rename_i e
    have hq : pinOf l x = false := by unfold pinOf; rw [e]
    refine ⟨?_, hq.symm, hu, fun h hh => ⟨h, hh, rfl, rfl⟩⟩
    show pinOf l = _
    rw [← hq, updB_self]
theorem drop_hold {room : Nat} {l : List Hd} (hu : (unH l).length ≤ room) (x : Int) : pinOf (drpH l x).1 = updB (pinOf l) x false ∧ (unH (drpH l x).1).length ≤ room ∧ ∀ h ∈ (drpH l x).1, h ∈ l ∧ h.item ≠ x :=
  ⟨pinOf_rest _ _, Nat.le_trans (un_rest l x) hu, fun _ hh => mem_rest.1 hh⟩
/-- Those that are pinned, rising. -/
theorem sortI_rise {l : List Int} (hn : l.Nodup) : ∀ i, i + 1 < (sortI l).length → (sortI l).getD i 0 < (sortI l).getD (i + 1) 0 := by
  intro i hi
  have hs : (sortI l).Pairwise fun a b => decide (a ≤ b) = true := List.pairwise_mergeSort (fun a b c h1 h2 => by simp only [decide_eq_true_eq] at *; omega) (fun a b => by simp only [Bool.or_eq_true, decide_eq_true_eq]; omega) l
  have hp : (sortI l).Nodup := (List.mergeSort_perm l _).nodup_iff.2 hn
  have h1 := List.pairwise_iff_getElem.1 hs i (i + 1) (by omega) hi (by omega)
  have h2 := List.pairwise_iff_getElem.1 hp i (i + 1) (by omega) hi (by omega)
  simp only [decide_eq_true_eq] at h1
  have e1 : (sortI l).getD i 0 = (sortI l)[i]'(by omega) := by simp [List.getD_eq_getElem?_getD, show i < (sortI l).length by omega]
  have e2 : (sortI l).getD (i + 1) 0 = (sortI l)[i + 1] := by simp [List.getD_eq_getElem?_getD, hi]
  rw [e1, e2]
  omega
theorem sortI_mem {l : List Int} {i : Nat} (hi : i < (sortI l).length) : (sortI l).getD i 0 ∈ l := by
  have e1 : (sortI l).getD i 0 = (sortI l)[i] := by simp [List.getD_eq_getElem?_getD, hi]
  rw [e1]
  exact (List.mergeSort_perm l _).mem_iff.1 (List.getElem_mem hi)
theorem sortI_len (l : List Int) : (sortI l).length = l.length := by simp [sortI]
end Sha
end Go.Proofs.Yteiffdccfmfdbaa
