/- Layer 6, DevCrashes: mathematics: behind a crash each block is one that it had, or that waited. -/
import Derived.Test.YtkgpcgkikenljaaDevReads
namespace Go.Proofs.Ytkgpcgkikenljaa
namespace Sha
open Go.RowKit Mem
set_option maxRecDepth 100000 in
theorem blk_laid_ne {b x : List (BitVec 8)} {n p k : Nat} (hb : b.length = n * 256) (hx : x.length ≤ 256) (hp : p < n) (hk : k < n) (h : p ≠ k) : blkOf (laidL b (p * 256) x) k = blkOf b k := by
  have hpn : p * 256 + 256 ≤ n * 256 := by omega
  have hkn : k * 256 + 256 ≤ n * 256 := by omega
  apply List.ext_getElem?
  intro i
  unfold blkOf laidL
  rw [List.getElem?_take, List.getElem?_take]
  by_cases hi : i < 256
  · rw [if_pos hi, if_pos hi, List.getElem?_drop, List.getElem?_drop]
    by_cases hlt : k * 256 + i < p * 256
    · rw [List.append_assoc, List.getElem?_append_left (by simp; omega), List.getElem?_take, if_pos hlt]
    · have e1 : (List.take (p * 256) b ++ x).length = p * 256 + x.length := by simp; omega
      rw [List.getElem?_append_right (by rw [e1]; omega), e1, List.getElem?_drop]
      congr 1
      omega
  · rw [if_neg hi, if_neg hi]
/-- The block that a step writes to. -/
def low3 (z : Int) : Nat := (bits .and .i64 z 3).toNat
theorem low3_lt (z : Int) : low3 z < 4 := by
  obtain ⟨n, h1, h2⟩ := low_any z 3 (by decide)
  have h2 : bits .and .i64 z 3 = (n : Int) := h2
  unfold low3
  rw [h2]
  omega
theorem low3_eq (z : Int) : bits .and .i64 z 3 = ((low3 z : Nat) : Int) := by
  obtain ⟨n, h1, h2⟩ := low_any z 3 (by decide)
  have h2 : bits .and .i64 z 3 = (n : Int) := h2
  unfold low3
  rw [h2]
  rfl
/-- What the steps wrote. -/
def wrote (l : List Step6) : List (Nat × List (BitVec 8)) := l.map fun x => (low3 x.n, List.replicate 256 x.x)
theorem wrote_at (l : List Step6) (i : Nat) (h : i < l.length) : (wrote l).getD i (0, []) = (low3 (l.getD i default).n, List.replicate 256 (l.getD i default).x) := by
  simp [wrote, List.getD_eq_getElem?_getD, h, -List.reduceReplicate]
theorem wrote_length (l : List Step6) : (wrote l).length = l.length := by rw [wrote, List.length_map]
/-- What a block might have: 0, or what was written to it. -/
def might (k : Nat) (l : List Step6) : List (BitVec 8) := 0 :: (l.filter fun x => low3 x.n = k).map (·.x)
theorem might_snoc (k : Nat) (l : List Step6) (x : Step6) : might k (l ++ [x]) = if low3 x.n = k then might k l ++ [x.x] else might k l := by
  unfold might
  by_cases h : low3 x.n = k
  · simp [h]
  · simp [h]
theorem might_mem (k : Nat) (l : List Step6) (i : Nat) (h : i < l.length) (hk : low3 (l.getD i default).n = k) : (l.getD i default).x ∈ might k l := by
  unfold might
  refine List.mem_cons_of_mem _ (List.mem_map.2 ⟨l.getD i default, List.mem_filter.2 ⟨?_, by simpa using hk⟩, rfl⟩)
  rw [List.getD_eq_getElem?_getD, List.getElem?_eq_getElem h]
  exact List.getElem_mem h
theorem crash_mem {keep : Nat} {torn parts : Int} {b : List (BitVec 8)} {l : List Step6} {k : Nat} (hb : b.length = 4 * 256) (hk : k < 4) (ht : ∀ i, i < l.length → (i : Int) = torn → low3 (l.getD i default).n ≠ k) :
    ∀ j, j ≤ l.length → blkOf (crashTo keep torn parts (wrote l) b j) k = blkOf b k ∨ ∃ i, i < l.length ∧ low3 (l.getD i default).n = k ∧ blkOf (crashTo keep torn parts (wrote l) b j) k = List.replicate 256 (l.getD i default).x
  | 0, _ => .inl rfl
  | j + 1, hj => by
    have hwf : WfP 4 (wrote l) := fun i hi => by
      rw [wrote_length] at hi
      rw [wrote_at l i hi]
      exact ⟨low3_lt _, List.length_replicate⟩
    have hlen := crashTo_length keep torn parts hwf hb j (by rw [wrote_length]; omega)
    have ih := crash_mem (keep := keep) (parts := parts) hb hk ht j (by omega)
    rw [crashTo]
    split
    · exact ih
    · rw [wrote_at l j (by omega)]
      by_cases hp : low3 (l.getD j default).n = k
      · have hnt : ¬ (j : Int) = torn := fun e => ht j (by omega) e hp
        rw [crashX, if_neg hnt]
        refine .inr ⟨j, by omega, hp, ?_⟩
        rw [blk_laid hlen List.length_replicate (low3_lt _) hk, if_pos hp]
      · rw [blk_laid_ne hlen (crashX_length _ _ _ _ List.length_replicate) (low3_lt _) hk hp]
        exact ih
theorem crash_zero {torn parts : Int} {b : List (BitVec 8)} {w : List (Nat × List (BitVec 8))} : ∀ j, crashTo 0 torn parts w b j = b
  | 0 => rfl
  | j + 1 => by
    rw [crashTo, if_pos (by simp [keepBit]), crash_zero j]
/-- What is read behind the crash. -/
theorem crashed_read {keep : Nat} {torn parts : Int} {s : St6} {l : List Step6} {k : Nat} (hs : s.w = wrote l) (hb : s.b = List.replicate (4 * 256) 0) (hk : k < 4) (ht : ∀ i, i < l.length → (i : Int) = torn → low3 (l.getD i default).n ≠ k) :
    ∃ y, y ∈ might k l ∧ stRead (stCrash s keep torn parts) k = List.replicate 256 y := by
  have hb0 : blkOf s.b k = List.replicate 256 0 := by
    rw [hb, blkOf, List.drop_replicate, List.take_replicate]
    congr 1
    omega
  have h := crash_mem (keep := keep) (parts := parts) (b := s.b) (by rw [hb, List.length_replicate]) hk ht l.length (Nat.le_refl _)
  have e : stRead (stCrash s keep torn parts) k = blkOf (crashTo keep torn parts (wrote l) s.b l.length) k := by
    show readTo k (blkOf (crashTo keep torn parts s.w s.b s.w.length) k) [] 0 = _
    rw [readTo, hs, wrote_length]
  rw [e]
  rcases h with h | ⟨i, h1, h2, h3⟩
  · exact ⟨0, List.mem_cons_self, h.trans hb0⟩
  · exact ⟨_, might_mem k l i h1 h2, h3⟩
theorem crashed_zero {torn parts : Int} {s : St6} {k : Nat} (hb : s.b = List.replicate (4 * 256) 0) (hk : k < 4) : stRead (stCrash s 0 torn parts) k = List.replicate 256 0 := by
  show readTo k (blkOf (crashTo 0 torn parts s.w s.b s.w.length) k) [] 0 = _
  rw [readTo, crash_zero, hb, blkOf, List.drop_replicate, List.take_replicate]
  congr 1
  omega
end Sha
end Go.Proofs.Ytkgpcgkikenljaa
