/- Package slices on slices of ints: Index, Clone, Reverse, Delete, over slices that read as ints or are the call's own. -/
import Derived.Test.YteiffdccfmfdbaaLruLay
import Derived.Test.YteiffdccfmfdbaaSlI
import Derived.Test.YteiffdccfmfdbaaApp
import Derived.Lib.SlKeysI
namespace Go.Proofs.Yteiffdccfmfdbaa
namespace Sha
open Go.RowKit Mem Go.Sort
/-- The call's own slice of ints. -/
abbrev OwnI (w : World) (B : Nat) (v : Value) (l : List Int) : Prop := OwnV w B 3 v (iz l)
theorem maxLen_le : maxLen ≤ 9223372036854775807 := by unfold maxLen; omega
theorem ownI_parts {w : World} {B : Nat} {v : Value} {l : List Int} (h : OwnI w B v l) : (v = .slice none 0 0 ∧ l = []) ∨ ∃ g cap cur, v = .slice (some ⟨g, 0, none⟩) l.length cap ∧ B ≤ g ∧ w.heap[g]? = some (.cells cur 3 (0, 0)) ∧ l.length ≤ cap ∧ cap ≤ maxLen ∧ cur.size = cap * 1 ∧ cur.toList.take l.length = l.map encZ := by
  have h1 : w.ownsRow B 3 1 v (iz l).length (iz l) := h
  rw [iz_length] at h1
  rcases h1.2 with ⟨rfl, h0⟩ | ⟨g, cap, cur, rfl, hg, hh, hn, hc, hs, ht⟩
  · exact .inl ⟨rfl, List.eq_nil_of_length_eq_zero h0⟩
  · exact .inr ⟨g, cap, cur, rfl, hg, hh, hn, hc, hs, by rw [Nat.mul_one] at ht; exact ht⟩
theorem ownI_nil (w : World) (B : Nat) : OwnI w B (.slice none 0 0) [] := by
  show w.ownsRow B 3 1 _ 0 []
  exact ownsRow_nil0 w B _ 1
theorem OwnI.len {w : World} {B : Nat} {v : Value} {l : List Int} (h : OwnI w B v l) : l.length ≤ maxLen := by
  rcases ownI_parts h with ⟨_, rfl⟩ | ⟨g, cap, cur, _, _, _, h1, h2, _⟩
  · exact Nat.zero_le _
  · omega
theorem pidx_any (l : List Int) (x : Int) (v : Value) (w : World) (hv : SlI w v l) (hb : l.length ≤ 9223372036854775807) : Calls Try.prog 42 #[v, .int .i64 x] w fun e w' => e = .returned (.int .i64 (Lib.idxOf l x)) ∧ w' = w := by
  obtain ⟨a, cap, rfl, _, hr⟩ := hv
  by_cases h0 : l = []
  · subst h0
    exact AnyG.slices_Index_int_empty lIdx a cap x w
  · obtain ⟨b, o, rfl, _, hc⟩ := hr h0
    have h := AnyG.slices_Index_int lIdx b o l.length cap l x w (Nat.le_refl _) hb hc
    rw [List.take_length] at h
    exact h
theorem pcloneI_any (l : List Int) (v : Value) (w : World) (hv : SlI w v l) (hb : l.length * 8 ≤ 140737488355328) : Calls Try.prog 38 #[v] w fun e w' => ∃ v', e = .returned v' ∧ OwnI w' w.heap.size v' l ∧ Below w.heap.size w w' := by
  obtain ⟨a, cap, rfl, _, hr⟩ := hv
  by_cases h0 : l = []
  · subst h0
    cases a with
    | none =>
      refine (AnyG.slices_Clone_int_nil lClo 0 cap w).mono ?_
      rintro e w' ⟨rfl, rfl⟩
      exact ⟨_, rfl, ownI_nil _ _, Below.refl _ _⟩
    | some ad =>
      refine (AnyG.slices_Clone_int_zero lClo ad cap w).mono ?_
      rintro e w' ⟨v', rfl, ho, _, hb⟩
      exact ⟨v', rfl, ho, hb⟩
  · obtain ⟨b, o, rfl, _, hc⟩ := hr h0
    refine (AnyG.slices_Clone_int lClo b o l.length cap l w (Nat.le_refl _) hb hc).mono ?_
    rintro e w' ⟨v', rfl, ho, _, hb⟩
    refine ⟨v', rfl, ?_, hb⟩
    rw [List.take_length] at ho
    show w'.ownsRow w.heap.size 3 1 v' (iz l).length (iz l)
    rw [iz_length]
    exact ho
/-- What a call on an own slice may change: its block's cells alone. -/
structure Turned (w w' : World) (v : Value) : Prop where
  chg : Chg (fun k => v.ownBlock = some k) w w'
  size : w'.heap.size = w.heap.size
theorem turned_put {w : World} {g n : Nat} {len cap : Nat} (d : Array Int) : Turned w (putRow encZ (Sort.ahead w n) g 0 d) (.slice (some ⟨g, 0, none⟩) len cap) := by
  have h := grownBy_sorted_i (w := w) (g := g) (n := n) (os := #[]) d
  rw [grow_empty] at h
  exact ⟨⟨h.os, h.tape, h.output, h.size, fun k hk hn => h.block k hk fun e => hn (by simp only [Option.some.injEq] at e; simp [Value.ownBlock, e])⟩, by simp⟩
theorem turned_refl (w : World) (v : Value) : Turned w w v := ⟨Chg.refl _ _, rfl⟩
theorem prevI_any {B : Nat} (l : List Int) (v : Value) (w : World) (hv : OwnI w B v l) : Calls Try.prog 39 #[v] w fun e w' => e = .returned (.tuple #[]) ∧ OwnI w' B v l.reverse ∧ Turned w w' v := by
  rcases ownI_parts hv with ⟨rfl, rfl⟩ | ⟨g, cap, cur, rfl, hg, hh, hn, hc, hs, ht⟩
  · refine (AnyG.slices_Reverse_int_empty lRev none 0 w).mono ?_
    rintro e w' ⟨rfl, rfl⟩
    exact ⟨rfl, ownI_nil _ _, turned_refl _ _⟩
  · refine (AnyG.slices_Reverse_int lRev g 0 cap l w (holds_of_block_i hh ht) (by have := maxLen_le; omega)).mono ?_
    rintro e w' ⟨rfl, n, rfl⟩
    refine ⟨rfl, ?_, turned_put _⟩
    have h := ownsRow_sorted_i (n := n) (os := #[]) (ss := l) (ts := l.reverse) (by simp) hg hh hn hc hs
    rw [grow_empty] at h
    show World.ownsRow _ B 3 1 _ (iz l.reverse).length (iz l.reverse)
    rw [iz_length, List.length_reverse]
    exact h
theorem pdelI_any {B : Nat} (l : List Int) (i : Nat) (v : Value) (w : World) (hv : OwnI w B v l) (hi : i < l.length) : Calls Try.prog 43 #[v, .int .i64 (i : Int), .int .i64 ((i : Int) + 1)] w fun e w' => ∃ v', e = .returned v' ∧ v'.ownBlock = v.ownBlock ∧ OwnI w' B v' (l.take i ++ l.drop (i + 1)) ∧ Turned w w' v := by
  rcases ownI_parts hv with ⟨rfl, rfl⟩ | ⟨g, cap, cur, rfl, hg, hh, hn, hc, hs, ht⟩
  · simp at hi
  · have e1 : ((i : Int) + 1) = ((i + 1 : Nat) : Int) := by omega
    rw [e1]
    refine (AnyG.slices_Delete_int lDel g 0 cap i (i + 1) l w (holds_of_block_i hh ht) hn (Nat.le_trans hc maxLen_le) (by omega) hi).mono ?_
    rintro e w' ⟨rfl, q, rfl⟩
    have hlen : (l.take i ++ l.drop (i + 1)).length = l.length - (i + 1 - i) := by simp; omega
    have h := ownsRow_sorted_i (n := q) (os := #[]) (ss := l) (ts := l.take i ++ l.drop (i + 1) ++ List.replicate (i + 1 - i) 0) (by simp; omega) hg hh hn hc hs
    rw [grow_empty] at h
    refine ⟨_, rfl, rfl, ?_, turned_put _⟩
    show World.ownsRow _ B 3 1 _ (iz (l.take i ++ l.drop (i + 1))).length (iz (l.take i ++ l.drop (i + 1)))
    rw [iz_length, hlen]
    obtain ⟨_, h | ⟨g', cap', cur', e', hg', hh', hn', hc', hs', ht'⟩⟩ := h
    · cases h.1
    · injection e' with e2 _ e3
      injection e2 with e2
      injection e2 with e2
      subst e2; subst e3
      refine ⟨by rw [iz_length, hlen, Nat.mul_one], .inr ⟨g, cap, cur', rfl, hg', hh', by omega, hc', hs', ?_⟩⟩
      have e4 : (l.length - (i + 1 - i)) * 1 = (iz (l.take i ++ l.drop (i + 1))).length := by rw [iz_length, hlen, Nat.mul_one]
      rw [e4]
      have e5 : cur'.toList.take (iz (l.take i ++ l.drop (i + 1))).length = (cur'.toList.take (l.length * 1)).take (iz (l.take i ++ l.drop (i + 1))).length := by
        rw [List.take_take]
        congr 1
        rw [iz_length, hlen]
        omega
      rw [e5, ht', List.map_append]
      have e6 : (l.take i ++ l.drop (i + 1)).map encZ = iz (l.take i ++ l.drop (i + 1)) := rfl
      rw [e6, List.take_left]
end Sha
end Go.Proofs.Yteiffdccfmfdbaa
