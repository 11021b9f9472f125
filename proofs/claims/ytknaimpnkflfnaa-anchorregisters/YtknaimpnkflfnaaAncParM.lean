/- Anchors parsed: mathematics. -/
import Derived.Test.YtknaimpnkflfnaaAncVal
import Derived.Test.YtknaimpnkflfnaaSame
namespace Go.Proofs.Ytknaimpnkflfnaa
namespace Sha
open Go.RowKit Mem
/-- A row that is filled from the left. -/
def rowA (l : List (BitVec 8)) (i : Nat) : List (BitVec 8) := l.take i ++ List.replicate (32 - i) 0
theorem rowA_length (l : List (BitVec 8)) (i : Nat) (hl : l.length = 32) (h : i ≤ 32) : (rowA l i).length = 32 := by simp [rowA, hl]; omega
theorem rowA_zero (l : List (BitVec 8)) : rowA l 0 = Z32b := by simp [rowA, Z32b]
theorem rowA_all (l : List (BitVec 8)) (hl : l.length = 32) : rowA l 32 = l := by
  unfold rowA
  rw [List.take_of_length_le (by omega)]
  simp
theorem rowA_set (l : List (BitVec 8)) (i : Nat) (hl : l.length = 32) (h : i < 32) : (rowA l i).set i (l.getD i 0) = rowA l (i + 1) := by
  unfold rowA
  have hi : i < l.length := by omega
  rw [List.set_append_right _ _ (by rw [List.length_take]; omega), List.length_take, Nat.min_eq_left (by omega), Nat.sub_self, show 32 - i = (32 - (i + 1)) + 1 by omega, List.replicate_succ, List.set_cons_zero, List.take_succ_eq_append_getElem hi, List.append_assoc]
  simp [List.getD_eq_getElem?_getD, hi]
theorem u8s_lset (l : List (BitVec 8)) (i : Nat) (x : BitVec 8) : u8s (l.set i x) = (u8s l).set i (.int .u8 (x.toNat : Int)) := by simp [u8s, List.map_set]
/-- One byte of its head's digest, of its root's digest, is another one. -/
theorem anc_setHead {a : Anc} (h : a.Wf) (i : Nat) (hi : i < 32) (x : BitVec 8) : (ancC a).setIfInBounds (4 + i) (.int .u8 (x.toNat : Int)) = ancC { a with head := a.head.set i x } := by
  unfold ancC ancL
  simp only [List.setIfInBounds_toArray]
  congr 1
  rw [List.set_append_right _ _ (by simp), u8s_lset, List.set_append_left _ _ (by simp [u8s_length, h.head]; omega)]
  simp
theorem anc_setRoot {a : Anc} (h : a.Wf) (i : Nat) (hi : i < 32) (x : BitVec 8) : (ancC a).setIfInBounds (38 + i) (.int .u8 (x.toNat : Int)) = ancC { a with root := a.root.set i x } := by
  unfold ancC ancL
  simp only [List.setIfInBounds_toArray]
  congr 1
  rw [List.set_append_right _ _ (by simp; omega), List.set_append_right _ _ (by simp [u8s_length, h.head]; omega), List.set_append_right _ _ (by simp [u8s_length, h.head]; omega), u8s_lset, List.set_append_left _ _ (by simp [u8s_length, h.head, h.root]; omega)]
  congr 5
  simp [u8s_length, h.head]; omega
theorem leN_take_lt (b : List (BitVec 8)) (i k m : Nat) (hm : m = 256 ^ k) : leN ((b.drop i).take k) < m := by
  subst hm
  exact Nat.lt_of_lt_of_le (leN_lt _) (Nat.pow_le_pow_right (by decide) (by rw [List.length_take]; omega))
theorem ancOf_wf (b : List (BitVec 8)) (h : b.length = 128) : (ancOf b).Wf := by
  have h0 := leN_take_lt b 0 1 256 (by decide)
  have h1 := leN_take_lt b 1 2 65536 (by decide)
  have h2 := leN_take_lt b 3 4 4294967296 (by decide)
  have h3 := leN_take_lt b 7 1 256 (by decide)
  have h4 := leN_take_lt b 40 1 256 (by decide)
  have h5 := leN_take_lt b 41 4 4294967296 (by decide)
  have h6 := leN_take_lt b 77 8 18446744073709551616 (by decide)
  refine ⟨?_, ?_, ?_, ?_, h2, ?_, ?_, ?_, ?_, ?_, h5, ?_, h6⟩ <;> simp only [ancOf, List.length_take, List.length_drop, h] <;> omega
theorem leN_one (b : List (BitVec 8)) (i : Nat) (h : i < b.length) : leN ((b.drop i).take 1) = (b.getD i 0).toNat := by
  have e : (b.drop i).take 1 = [b.getD i 0] := by
    rw [List.drop_eq_getElem_cons h, List.take_succ_cons, List.take_zero, List.getD_eq_getElem?_getD, List.getElem?_eq_getElem h]; rfl
  rw [e]; simp [leN]
theorem nbytes_piece (b : List (BitVec 8)) (i k : Nat) (h : i + k ≤ b.length) : nbytes (leN ((b.drop i).take k)) k = (b.drop i).take k := by
  have hl : ((b.drop i).take k).length = k := by rw [List.length_take, List.length_drop]; omega
  have := nbytes_leN ((b.drop i).take k)
  rw [hl] at this; exact this
theorem piece_snoc (b : List (BitVec 8)) (i k : Nat) : b.take i ++ (b.drop i).take k = b.take (i + k) := (List.take_add).symm
theorem layA_ancOf (b : List (BitVec 8)) (h : b.length = 128) : layA (ancOf b) = b.take 85 ++ List.replicate 43 0 := by
  have one : ∀ i, i < 128 → [BitVec.ofNat 8 (leN ((b.drop i).take 1))] = (b.drop i).take 1 := fun i hi => by
    rw [leN_one b i (by omega)]
    rw [List.drop_eq_getElem_cons (by omega), List.take_succ_cons, List.take_zero, List.getD_eq_getElem?_getD, List.getElem?_eq_getElem (by omega)]
    simp
  have e0 : (b.drop 0).take 1 = b.take 1 := by simp
  simp only [layA, ancOf, Int.toNat_natCast]
  rw [one 0 (by omega), one 7 (by omega), one 40 (by omega), nbytes_piece b 1 2 (by omega), nbytes_piece b 3 4 (by omega), nbytes_piece b 41 4 (by omega), nbytes_piece b 77 8 (by omega), e0]
  rw [piece_snoc b 1 2, piece_snoc b 3 4, piece_snoc b 7 1, piece_snoc b 8 32, piece_snoc b 40 1, piece_snoc b 41 4, piece_snoc b 45 32, piece_snoc b 77 8]
theorem layA_ancOf_iff (b : List (BitVec 8)) (h : b.length = 128) : layA (ancOf b) = b ↔ allZ (b.drop 85) = true := by
  have hl : (b.drop 85).length = 43 := by rw [List.length_drop]; omega
  have e : allZ (b.drop 85) = true ↔ b.drop 85 = List.replicate 43 0 := by
    unfold allZ
    rw [List.all_eq_true, List.eq_replicate_iff]
    simp [hl]
  rw [layA_ancOf b h, e]
  constructor
  · intro h2
    have h3 := congrArg (List.drop 85) h2
    rw [List.drop_append_of_le_length (by rw [List.length_take]; omega), List.drop_of_length_le (by rw [List.length_take]; omega), List.nil_append] at h3
    exact h3.symm
  · intro h2
    rw [← h2, List.take_append_drop]
/-- What is parsed: an anchor, a number. -/
def parseA (b : List (BitVec 8)) : Anc × Nat :=
  if b.length < 128 then (zanc, 4) else if 128 < b.length then (zanc, 3) else if mayA (ancOf b) = true ∧ layA (ancOf b) = b then (ancOf b, 0) else (zanc, 3)
theorem parseA_wf (b : List (BitVec 8)) : (parseA b).1.Wf := by
  unfold parseA
  split
  · exact zanc_wf
  · split
    · exact zanc_wf
    · split
      · exact ancOf_wf b (by omega)
      · exact zanc_wf
theorem parseA_bad (b : List (BitVec 8)) (h : b.length ≠ 128) : parseA b = (zanc, if b.length < 128 then 4 else 3) := by
  unfold parseA
  by_cases h1 : b.length < 128
  · rw [if_pos h1, if_pos h1]
  · rw [if_neg h1, if_neg h1, if_pos (by omega)]
theorem parseA_no (b : List (BitVec 8)) (h : b.length = 128) (h2 : ¬ (mayA (ancOf b) = true ∧ layA (ancOf b) = b)) : parseA b = (zanc, 3) := by
  unfold parseA
  rw [if_neg (by omega), if_neg (by omega), if_neg h2]
theorem parseA_yes (b : List (BitVec 8)) (h : b.length = 128) (h1 : mayA (ancOf b) = true) (h2 : layA (ancOf b) = b) : parseA b = (ancOf b, 0) := by
  unfold parseA
  rw [if_neg (by omega), if_neg (by omega), if_pos ⟨h1, h2⟩]
/-- What is laid is parsed. -/
theorem nb1 (z : Int) (_h0 : 0 ≤ z) (_h1 : z < 256) : [BitVec.ofNat 8 z.toNat] = nbytes z.toNat 1 := by simp [nbytes, nbyte]
theorem layA_split (a : Anc) (_h : a.Wf) (i k : Nat) (pre mid post : List (BitVec 8)) (e : layA a = pre ++ (mid ++ post)) (hp : pre.length = i) (hm : mid.length = k) : ((layA a).drop i).take k = mid := by
  rw [e, ← hp, List.drop_left, ← hm, List.take_left]
theorem ancOf_layA (a : Anc) (h : a.Wf) (hm : mayA a = true) : ancOf (layA a) = a := by
  have hmm : (1 ≤ a.ver ∧ a.ver ≤ 2) ∧ (1 ≤ a.pages ∧ a.pages ≤ 216) ∧ (0 ≤ a.hp ∧ a.hp ≤ 1) ∧ (0 ≤ a.rp ∧ a.rp ≤ 1) ∧ a.re ≤ a.epoch := by simpa [mayA, and_assoc] using hm
  have hH := h.head; have hR := h.root
  have p0 := layA_split a h 0 1 [] (nbytes a.ver.toNat 1) _ (by rw [← nb1 _ (by omega) (by omega)]; simp only [layA, List.append_assoc, List.nil_append]; rfl) rfl (by simp [nbytes_length])
  have p1 := layA_split a h 1 2 _ (nbytes a.pages.toNat 2) _ (by simp only [layA, List.append_assoc]; rfl) (by simp) (by simp [nbytes_length])
  have p2 := layA_split a h 3 4 ([BitVec.ofNat 8 a.ver.toNat] ++ nbytes a.pages.toNat 2) (nbytes a.epoch 4) _ (by simp only [layA, List.append_assoc]; rfl) (by simp [nbytes_length]) (by simp [nbytes_length])
  have p3 := layA_split a h 7 1 ([BitVec.ofNat 8 a.ver.toNat] ++ nbytes a.pages.toNat 2 ++ nbytes a.epoch 4) (nbytes a.hp.toNat 1) _ (by rw [← nb1 _ (by omega) (by omega)]; simp only [layA, List.append_assoc]; rfl) (by simp [nbytes_length]) (by simp [nbytes_length])
  have p4 := layA_split a h 8 32 ([BitVec.ofNat 8 a.ver.toNat] ++ nbytes a.pages.toNat 2 ++ nbytes a.epoch 4 ++ [BitVec.ofNat 8 a.hp.toNat]) a.head _ (by simp only [layA, List.append_assoc]; rfl) (by simp [nbytes_length]) hH
  have p5 := layA_split a h 40 1 ([BitVec.ofNat 8 a.ver.toNat] ++ nbytes a.pages.toNat 2 ++ nbytes a.epoch 4 ++ [BitVec.ofNat 8 a.hp.toNat] ++ a.head) (nbytes a.rp.toNat 1) _ (by rw [← nb1 _ (by omega) (by omega)]; simp only [layA, List.append_assoc]; rfl) (by simp [nbytes_length, hH]) (by simp [nbytes_length])
  have p6 := layA_split a h 41 4 ([BitVec.ofNat 8 a.ver.toNat] ++ nbytes a.pages.toNat 2 ++ nbytes a.epoch 4 ++ [BitVec.ofNat 8 a.hp.toNat] ++ a.head ++ [BitVec.ofNat 8 a.rp.toNat]) (nbytes a.re 4) _ (by simp only [layA, List.append_assoc]; rfl) (by simp [nbytes_length, hH]) (by simp [nbytes_length])
  have p7 := layA_split a h 45 32 ([BitVec.ofNat 8 a.ver.toNat] ++ nbytes a.pages.toNat 2 ++ nbytes a.epoch 4 ++ [BitVec.ofNat 8 a.hp.toNat] ++ a.head ++ [BitVec.ofNat 8 a.rp.toNat] ++ nbytes a.re 4) a.root _ (by simp only [layA, List.append_assoc]; rfl) (by simp [nbytes_length, hH]) hR
  have p8 := layA_split a h 77 8 ([BitVec.ofNat 8 a.ver.toNat] ++ nbytes a.pages.toNat 2 ++ nbytes a.epoch 4 ++ [BitVec.ofNat 8 a.hp.toNat] ++ a.head ++ [BitVec.ofNat 8 a.rp.toNat] ++ nbytes a.re 4 ++ a.root) (nbytes a.com 8) (List.replicate 43 0) (by simp only [layA, List.append_assoc]) (by simp [nbytes_length, hH, hR]) (by simp [nbytes_length])
  unfold ancOf
  rw [p0, p1, p2, p3, p4, p5, p6, p7, p8]
  have m : ∀ k n, n < 256 ^ k → leN (nbytes n k) = n := fun k n hn => by rw [leN_nbytes, Nat.mod_eq_of_lt hn]
  have he := h.epoch
  have hr := h.re
  have hc := h.com
  rw [m 1 _ (by omega), m 2 _ (by omega), m 4 _ (by omega), m 1 _ (by omega), m 1 _ (by omega), m 4 _ (by omega), m 8 _ (by omega)]
  obtain ⟨a0, a1, a2, a3, a4, a5, a6, a7, a8⟩ := a
  simp only at hmm ⊢
  congr 1 <;> omega
theorem parseA_layA (a : Anc) (h : a.Wf) (hm : mayA a = true) : parseA (layA a) = (a, 0) := by
  have e := ancOf_layA a h hm
  have r := parseA_yes (layA a) (layA_length h) (by rw [e]; exact hm) (by rw [e])
  rw [r, e]
theorem parseA_zero (b : List (BitVec 8)) (h : (parseA b).2 ≠ 0) : (parseA b).1 = zanc := by
  unfold parseA at *
  split
  · rfl
  · rename_i h1
    rw [if_neg h1] at h
    split
    · rfl
    · rename_i h2
      rw [if_neg h2] at h
      split
      · rename_i h3
        rw [if_pos h3] at h
        exact absurd rfl h
      · rfl
theorem parseA_ok (b : List (BitVec 8)) (h : (parseA b).2 = 0) : mayA (parseA b).1 = true ∧ layA (parseA b).1 = b := by
  unfold parseA at *
  split at h
  · simp at h
  · rename_i h1
    rw [if_neg h1]
    split at h
    · simp at h
    · rename_i h2
      rw [if_neg h2]
      split at h
      · rename_i h3
        rw [if_pos h3]; exact h3
      · simp at h
end Sha
end Go.Proofs.Ytknaimpnkflfnaa
