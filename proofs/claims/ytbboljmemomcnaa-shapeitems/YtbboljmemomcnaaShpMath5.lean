/- Shapes: the items under an item, as a piece of a level (mathematics). -/
import Derived.Test.YtbboljmemomcnaaShpMath3
import Derived.Test.YtbboljmemomcnaaShpRef2
import Derived.Test.YtbboljmemomcnaaShpRef4
namespace Go.Proofs.Ytbboljmemomcnaa
namespace Sha
open Go.RowKit
/-- Where the piece of the level a - j that lies under the item i of the level a begins, and ends. -/
def atN (i j : Nat) : Nat := i * 6 ^ j
def enN (p a i j : Nat) : Nat := min ((i + 1) * 6 ^ j) (lvn p (a - j))
theorem atN_succ (i j : Nat) : atN i (j + 1) = atN i j * 6 := by unfold atN; rw [Nat.pow_succ, Nat.mul_assoc]
theorem enN_succ (p a i j : Nat) (ha : a ≤ 3) (hj : j + 1 ≤ a) : enN p a i (j + 1) = min (enN p a i j * 6) (lvn p (a - (j + 1))) := by
  have c := lvn_cnt p (a - (j + 1)) (by omega)
  rw [show a - (j + 1) + 1 = a - j by omega] at c
  have l := cnt_le (lvn p (a - (j + 1)))
  have e : (i + 1) * 6 ^ (j + 1) = (i + 1) * 6 ^ j * 6 := by rw [Nat.pow_succ, Nat.mul_assoc]
  unfold enN
  rw [e, c]
  omega
theorem en_le (p a i j : Nat) (ha : a ≤ 3) (h1 : p ≤ 216) : enN p a i j ≤ 216 := by
  have := (stn_le p (a - j) (by omega) h1).2
  unfold enN
  omega
theorem at_lt (p a i : Nat) (ha : a ≤ 3) (hi : i < lvn p a) : ∀ j, j ≤ a → atN i j < enN p a i j := by
  intro j
  induction j with
  | zero => intro _; unfold atN enN; rw [Nat.pow_zero, Nat.mul_one, Nat.mul_one, Nat.sub_zero]; omega
  | succ j ih =>
    intro hj
    have h := ih (by omega)
    have c := lvn_cnt p (a - (j + 1)) (by omega)
    rw [show a - (j + 1) + 1 = a - j by omega] at c
    have l := cnt_le (lvn p (a - (j + 1)))
    have h2 : enN p a i j ≤ lvn p (a - j) := Nat.min_le_right _ _
    rw [atN_succ, enN_succ p a i j ha hj]
    omega
/-- The piece. -/
def bel (s m : Nat) (n : Nat) : List Int := (List.range n).map fun x => ((s + (m + x) : Nat) : Int)
theorem bel_length (s m n : Nat) : (bel s m n).length = n := by simp [bel]
theorem bel_succ (s m n : Nat) : bel s m (n + 1) = bel s m n ++ [((s + (m + n) : Nat) : Int)] := by simp [bel, List.range_succ]
def belL (p a i b : Nat) : List Int := bel (stn p b) (atN i (a - b)) (enN p a i (a - b) - atN i (a - b))
/-- A node's children. -/
theorem bel_kids (p q a : Nat) (_h0 : 1 ≤ p) (_h1 : p ≤ 216) (hp : p ≤ q) (hq : q < itn p) (ha : lev p q = a + 1) : belL p (a + 1) (q - stn p (a + 1)) a = KZ p (q : Int) := by
  rw [KZ_nat p q hq, if_pos hp]
  have h4 := itn_le p
  have hlo := lev_lo p q
  have hhi := lev_hi p q (by omega)
  have hl3 := lev_le p q
  rw [ha] at hlo hhi hl3
  have s1 := stn_lvn p a (by omega)
  have e1 : fst p q = stn p a + 6 * (q - stn p (a + 1)) := by unfold fst; rw [ha, Nat.add_sub_cancel]
  have e2 : many p q = min 6 (stn p (a + 1) - fst p q) := by unfold many; rw [ha]
  have hn : enN p (a + 1) (q - stn p (a + 1)) (a + 1 - a) - atN (q - stn p (a + 1)) (a + 1 - a) = many p q := by
    rw [show a + 1 - a = 1 by omega]
    unfold enN atN
    rw [Nat.pow_one, show a + 1 - 1 = a by omega, e2, e1]
    omega
  unfold belL
  rw [hn]
  unfold bel kz
  refine List.map_congr_left (fun x _ => ?_)
  rw [show a + 1 - a = 1 by omega, e1]
  unfold atN
  rw [Nat.pow_one]
  omega
/-- A page's way in numbers. -/
theorem itp_form (p x : Nat) (h0 : 1 ≤ p) (h1 : p ≤ 216) (hx : x < p) : ∀ k, k ≤ topn p → itp p x k = stn p k + x / 6 ^ k := by
  intro k
  induction k with
  | zero => intro _; show x = 0 + x / 6 ^ 0; rw [Nat.pow_zero, Nat.div_one, Nat.zero_add]
  | succ k ih =>
    intro hk
    have h := ih (by omega)
    have hl := (itp_lev p x h0 h1 hx k (by omega)).2.2
    show (parN p (itp p x k)).1 = _
    unfold parN
    rw [hl, h, Nat.add_sub_cancel_left, Nat.div_div_eq_div_mul, Nat.pow_succ]
theorem under_piece (p a i : Nat) (h0 : 1 ≤ p) (h1 : p ≤ 216) (ha : a ≤ topn p) (hi : i < lvn p a) : ∀ n, n ≤ p → UZ p ((stn p a + i : Nat) : Int) n = bel 0 (atN i a) (min ((i + 1) * 6 ^ a) n - atN i a) := by
  have t := top_le p
  have hS : 0 < 6 ^ a := Nat.pow_pos (by omega)
  intro n
  induction n with
  | zero => intro _; rw [Nat.min_zero, Nat.zero_sub]; rfl
  | succ n ih =>
    intro hn
    have hlz := lev_at p a i (by omega) hi
    have e1 : i ≤ n / 6 ^ a ↔ i * 6 ^ a ≤ n := Nat.le_div_iff_mul_le hS
    have e2 : n / 6 ^ a < i + 1 ↔ n < (i + 1) * 6 ^ a := Nat.div_lt_iff_lt_mul hS
    have e3 : (i + 1) * 6 ^ a = i * 6 ^ a + 6 ^ a := by rw [Nat.add_mul, Nat.one_mul]
    have e4 : atN i a = i * 6 ^ a := rfl
    rw [UZ_succ, ih (by omega)]
    by_cases h : n / 6 ^ a = i
    · have hh : itp p n a = stn p a + i := by rw [itp_form p n h0 h1 (by omega) a ha, h]
      rw [← hh, hits_at p n a h0 h1 (by omega) ha _ (Nat.le_refl _), if_pos (by omega)]
      have g : min ((i + 1) * 6 ^ a) (n + 1) - atN i a = (min ((i + 1) * 6 ^ a) n - atN i a) + 1 := by omega
      rw [g, bel_succ]
      congr 1
      show [(n : Int)] = _
      congr 2
      omega
    · rw [hits_none p n _ _ (fun k hk he => ?_)]
      · have g : min ((i + 1) * 6 ^ a) (n + 1) - atN i a = min ((i + 1) * 6 ^ a) n - atN i a := by omega
        rw [g, List.replicate_zero, List.append_nil]
      · have he' : itp p n k = stn p a + i := by omega
        have hl := (itp_lev p n h0 h1 (by omega) k (by omega)).2.2
        rw [he', hlz] at hl
        subst hl
        rw [itp_form p n h0 h1 (by omega) a ha] at he'
        exact h (by omega)
theorem bel_under (p a i : Nat) (h0 : 1 ≤ p) (h1 : p ≤ 216) (ha : a ≤ topn p) (hi : i < lvn p a) : belL p a i 0 = UZ p ((stn p a + i : Nat) : Int) p := by
  rw [under_piece p a i h0 h1 ha hi p (Nat.le_refl _)]
  unfold belL enN
  rw [Nat.sub_zero, Nat.sub_self]
  rfl
theorem lev_node' (p q : Nat) (h : p ≤ q) : 1 ≤ lev p q := by
  unfold lev
  rw [if_neg (by omega)]
  split
  · omega
  · split <;> omega
/-- Nothing lies under a number that is no item. -/
theorem under_none (p : Nat) (z : Int) (h1 : p ≤ 216) (h : ¬ (0 ≤ z ∧ z < (itn p : Int))) : UZ p z p = [] := by
  have key : ∀ n, n ≤ p → UZ p z n = [] := by
    intro n
    induction n with
    | zero => intro _; rfl
    | succ n ih =>
      intro hn
      have t := top_le p
      rw [UZ_succ, ih (by omega), hits_none p n z _ (fun k hk he => ?_), List.replicate_zero, List.append_nil]
      have hl := itp_lev p n (by omega) h1 (by omega) k (by omega)
      have m := stn_mono p (k + 1) (topn p + 1) (by omega) (by omega)
      have e : itn p = stn p (topn p + 1) := rfl
      exact h ⟨by omega, by omega⟩
  exact key p (Nat.le_refl _)
end Sha
end Go.Proofs.Ytbboljmemomcnaa
