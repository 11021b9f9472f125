/- Shapes: the pages under an item (mathematics). -/
import Derived.Test.YtbboljmemomcnaaShpMath2
namespace Go.Proofs.Ytbboljmemomcnaa
namespace Sha
open Go.RowKit
theorem itp_inj (p x a b : Nat) (h0 : 1 ≤ p) (h1 : p ≤ 216) (hx : x < p) (ha : a ≤ topn p) (hb : b ≤ topn p) (h : itp p x a = itp p x b) : a = b := by
  have h2 := (itp_lev p x h0 h1 hx a ha).2.2
  have h3 := (itp_lev p x h0 h1 hx b hb).2.2
  rw [h, h3] at h2; exact h2.symm
theorem itp_root (p x : Nat) (h0 : 1 ≤ p) (h1 : p ≤ 216) (hx : x < p) : itp p x (topn p) + 1 = itn p := by
  have h := itp_lev p x h0 h1 hx (topn p) (Nat.le_refl _)
  have r := root_one p h0 h1
  have s := stn_lvn p (topn p) (top_le p).2
  omega
theorem hits_none (p x : Nat) (z : Int) : ∀ n, (∀ k, k < n → (itp p x k : Int) ≠ z) → hitsN p x z n = 0 := by
  intro n
  induction n with
  | zero => intro _; rfl
  | succ n ih => intro h; rw [hitsN_succ, ih (fun k hk => h k (by omega)), if_neg (h n (by omega))]
theorem hits_at (p x k : Nat) (h0 : 1 ≤ p) (h1 : p ≤ 216) (hx : x < p) (hk : k ≤ topn p) : ∀ n, n ≤ topn p + 1 → hitsN p x (itp p x k : Int) n = if k < n then 1 else 0 := by
  intro n
  induction n with
  | zero => intro _; rfl
  | succ n ih =>
    intro hn
    rw [hitsN_succ, ih (by omega)]
    by_cases e : n = k
    · subst e; rw [if_neg (by omega), if_pos rfl, if_pos (by omega)]
    · rw [if_neg (show ¬ (itp p x n : Int) = (itp p x k : Int) from fun h => e (itp_inj p x n k h0 h1 hx (by omega) hk (by omega)))]
      by_cases hlt : k < n
      · rw [if_pos hlt, if_pos (by omega)]
      · rw [if_neg hlt, if_neg (by omega)]
theorem UZ_root (p : Nat) (h0 : 1 ≤ p) (h1 : p ≤ 216) : ∀ n, n ≤ p → UZ p ((itn p : Int) - 1) n = (List.range n).map fun (x : Nat) => (x : Int) := by
  intro n
  induction n with
  | zero => intro _; rfl
  | succ n ih =>
    intro hn
    have r := itp_root p n h0 h1 (by omega)
    have e : (itn p : Int) - 1 = (itp p n (topn p) : Int) := by omega
    rw [UZ_succ, ih (by omega), List.range_succ, List.map_append, e, hits_at p n (topn p) h0 h1 (by omega) (Nat.le_refl _) _ (Nat.le_refl _), if_pos (by omega)]
    rfl
/-- How often a page is in a list. -/
def cntI (l : List Int) (y : Int) : Nat := (l.filter fun x => x == y).length
theorem cntI_take (l : List Int) (y : Int) (j : Nat) (h : j < l.length) : cntI (l.take (j + 1)) y = cntI (l.take j) y + if l.getD j 0 = y then 1 else 0 := by
  unfold cntI
  rw [List.take_add_one, List.getElem?_eq_getElem h, List.filter_append, List.length_append]
  congr 1
  simp only [List.getD_eq_getElem?_getD, List.getElem?_eq_getElem h, Option.getD_some, Option.toList]
  by_cases e : l[j] = y
  · rw [if_pos e]; simp [e]
  · rw [if_neg e]; simp [e]
theorem cntI_app (a b : List Int) (y : Int) : cntI (a ++ b) y = cntI a y + cntI b y := by unfold cntI; rw [List.filter_append, List.length_append]
theorem cntI_rep (n : Nat) (x y : Int) : cntI (List.replicate n x) y = if x = y then n else 0 := by
  unfold cntI
  by_cases e : x = y
  · rw [if_pos e]; simp [e]
  · rw [if_neg e]; simp [e]
theorem cnt_UZ (p g : Nat) (z : Int) : ∀ n, cntI (UZ p z n) (g : Int) = if g < n then hitsN p g z (topn p + 1) else 0 := by
  intro n
  induction n with
  | zero => rfl
  | succ n ih =>
    rw [UZ_succ, cntI_app, cntI_rep, ih]
    by_cases e : n = g
    · subst e; rw [if_neg (by omega), if_pos rfl, if_pos (by omega), Nat.zero_add]
    · rw [if_neg (show ¬ (n : Int) = (g : Int) by omega), Nat.add_zero]
      by_cases hlt : g < n
      · rw [if_pos hlt, if_pos (by omega)]
      · rw [if_neg hlt, if_neg (by omega)]
/-- How often a page lies under a node's first so many children. -/
def manyG (p g q : Nat) : Nat → Nat
  | 0 => 0
  | j + 1 => manyG p g q j + cntI (UZ p ((fst p q + j : Nat) : Int) p) (g : Int)
theorem many_one (p g k : Nat) (h0 : 1 ≤ p) (h1 : p ≤ 216) (hg : g < p) (hk : k < topn p) : manyG p g (itp p g (k + 1)) (many p (itp p g (k + 1))) = 1 := by
  obtain ⟨q, hq⟩ : ∃ q, q = itp p g (k + 1) := ⟨_, rfl⟩
  have ik := itp_lev p g h0 h1 hg k (by omega)
  have iq := itp_lev p g h0 h1 hg (k + 1) (by omega)
  have ir := itp_root p g h0 h1 hg
  have t := top_le p
  have r := root_one p h0 h1
  have m1 := stn_mono p 1 (k + 1) (by omega) (by omega)
  have m2 := stn_mono p (k + 1 + 1) (topn p + 1) (by omega) (by omega)
  have m3 := stn_mono p (k + 1) (topn p) (by omega) (by omega)
  have s1 : stn p 1 = p := rfl
  have s2 : stn p (topn p + 1) = itn p := rfl
  rw [← hq] at iq ⊢
  have hpq : p ≤ q := by omega
  have hqt : q < itn p := by omega
  have hpar : (parN p (itp p g k)).1 = q := hq.symm
  obtain ⟨jj, hjj⟩ : ∃ j, j = (parN p (itp p g k)).2 := ⟨_, rfl⟩
  have hpr : parN p (itp p g k) = (q, jj) := by rw [hjj, ← hpar]
  have hki := (kid_iff p q (itp p g k) jj h0 h1 hpq hqt).mpr ⟨by omega, hpr⟩
  have key : ∀ j, j < many p q → cntI (UZ p ((fst p q + j : Nat) : Int) p) (g : Int) = if j = jj then 1 else 0 := by
    intro j hj
    rw [cnt_UZ, if_pos hg]
    by_cases e : j = jj
    · rw [if_pos e, e, hki.2, hits_at p g k h0 h1 hg (by omega) _ (Nat.le_refl _), if_pos (by omega)]
    · rw [if_neg e]
      refine hits_none p g _ _ (fun k' hk' he => ?_)
      have he' : fst p q + j = itp p g k' := by omega
      have h2 := (kid_iff p q (itp p g k') j h0 h1 hpq hqt).mp ⟨hj, he'⟩
      have hk2 : k' < topn p := by
        rcases Nat.lt_or_ge k' (topn p) with h | h
        · exact h
        · have : k' = topn p := by omega
          subst this; omega
      have h3 : itp p g (k' + 1) = q := by show (parN p (itp p g k')).1 = q; rw [h2.2]
      have h4 := itp_inj p g (k' + 1) (k + 1) h0 h1 hg (by omega) (by omega) (by rw [h3, hq])
      have h5 : k' = k := by omega
      rw [h5, hpr] at h2
      exact e (by have := h2.2; injection this with _ h; exact h.symm)
  have gen : ∀ j, j ≤ many p q → manyG p g q j = if jj < j then 1 else 0 := by
    intro j
    induction j with
    | zero => intro _; rfl
    | succ j ih =>
      intro hj
      show manyG p g q j + _ = _
      rw [ih (by omega), key j (by omega)]
      by_cases e : j = jj
      · rw [if_pos e, if_neg (by omega), if_pos (by omega)]
      · rw [if_neg e, Nat.add_zero]
        by_cases hlt : jj < j
        · rw [if_pos hlt, if_pos (by omega)]
        · rw [if_neg hlt, if_neg (by omega)]
  rw [gen _ (Nat.le_refl _), if_pos hki.1]
end Sha
end Go.Proofs.Ytbboljmemomcnaa
