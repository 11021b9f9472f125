/- My own texts, merged. -/
import Derived.Test.YtahcjnganedbiaaGreatDoorBN35
import Derived.Test.YtahcjnganedbiaaGreatDoorBN22
import Derived.Test.YtahcjnganedbiaaGreatDoorBN11
import Derived.Test.YtahcjnganedbiaaGreatDoorBN16
import Derived.Test.YtahcjnganedbiaaGreatDoorBN12
import Derived.Test.YtahcjnganedbiaaGreatDoorBN26
import Derived.Test.YtahcjnganedbiaaGreatDoorBN34
import Derived.Test.YtahcjnganedbiaaGreatDoorBN25
import Derived.Test.YtahcjnganedbiaaGreatDoorBN10
import Derived.Test.YtahcjnganedbiaaGreatDoorBN24
import Derived.Test.YtahcjnganedbiaaGreatDoorBN30
import Derived.Test.YtahcjnganedbiaaGreatDoorBN23
import Derived.Test.YtahcjnganedbiaaGreatDoorBN21
import Derived.Test.YtahcjnganedbiaaGreatDoorBN14
import Derived.Test.YtahcjnganedbiaaGreatDoorBN09
import Derived.Great.Walk
import Derived.OwnWalk
import Derived.Deep.DeepCutAuto
import Derived.Test.YtahcjnganedbiaaGreatDoorBN20
import Derived.Test.YtahcjnganedbiaaGreatDoorBN28
import Derived.Test.YtahcjnganedbiaaGreatDoorBN00
import Derived.Test.YtahcjnganedbiaaGreatDoorBN32
import Derived.Test.YtahcjnganedbiaaGreatDoorBN29
import Derived.Deep.Matrix
import Derived.ChangeSame
namespace Go.Proofs.YtahcjnganedbiaaGreatDoor
namespace Sha
open Go.RowKit Mem
section
end
theorem node_kids (p i : Nat) (h0 : 1 ≤ p) (h1 : p ≤ 216) (hi : p ≤ i) (hit : i < itn p) : 1 ≤ many p i ∧ fst p i + many p i ≤ i := by
 have hl := lv_of p h0 h1
 have hk := fun j => kids_cond p i j h0 h1 hi hit
 have h6 := many_le p i
 constructor
 ·have h2 := lev_lo p i
  have h3 := lev_hi p i (Nat.lt_of_lt_of_le hit (itn_le p))
  have hge : 1 ≤ lev p i := by
   rcases Nat.eq_zero_or_pos (lev p i) with a | a
   ·rw [a, Nat.zero_add] at h3
    have : stn p 1 = p := rfl
    omega
   ·exact a
  have hle := lev_le p i
  unfold many fst
  obtain ⟨k, hk⟩ : ∃ k, lev p i = k + 1 := ⟨lev p i - 1, by omega⟩
  rw [hk] at h2 h3 ⊢
  have e1 := stn_lvn p k (by omega)
  have e2 := stn_lvn p (k + 1) (by omega)
  have e3 := lvn_cnt p k (by omega)
  have e4 := cnt_le (lvn p k)
  rw [Nat.add_sub_cancel]
  omega
 ·rcases Nat.eq_zero_or_pos (many p i) with a | a
  ·have h2 := lev_lo p i
   have h3 := lev_hi p i (Nat.lt_of_lt_of_le hit (itn_le p))
   exfalso
   have hge : 1 ≤ lev p i := by
    rcases Nat.eq_zero_or_pos (lev p i) with b | b
    ·rw [b, Nat.zero_add] at h3
     have : stn p 1 = p := rfl
     omega
    ·exact b
   have hle := lev_le p i
   unfold many fst at a
   obtain ⟨k, hk⟩ : ∃ k, lev p i = k + 1 := ⟨lev p i - 1, by omega⟩
   rw [hk] at h2 h3 a
   have e1 := stn_lvn p k (by omega)
   have e2 := stn_lvn p (k + 1) (by omega)
   have e3 := lvn_cnt p k (by omega)
   have e4 := cnt_le (lvn p k)
   rw [Nat.add_sub_cancel] at a
   omega
  ·have := ((hk (many p i - 1)).2 (by omega)).2.1
   omega
section
end
end Sha
end Go.Proofs.YtahcjnganedbiaaGreatDoor
namespace Go.Proofs.YtahcjnganedbiaaGreatDoor
namespace Sha
open Go.RowKit Mem
abbrev ChV := Int × List (BitVec 8)
abbrev NdV := Int × List RefV
def zch : ChV := (0, [])
def znd : NdV := (0, [])
def onW (p : Nat) (x : Int) (i : Nat) : Bool := (WZ p x).contains (i : Int)
def isN (p : Nat) (L : List Int) (i : Nat) : Bool := decide (p ≤ i) && L.any fun x => onW p x i
def needT (p : Nat) (L : List Int) : List Nat := (List.range (itn p)).filter (isN p L)
def findT (N : List NdV) (z : Int) : Option (List RefV) := (N.find? fun n => n.1 == z).map (·.2)
def findD (N : List NdV) (z : Int) : List RefV := (findT N z).getD []
def pgsC (C : List ChV) : List Int := C.map (·.1)
abbrev riseT (p : Nat) (C : List ChV) : Prop := ∀ i, i < C.length → (0 ≤ (C.getD i zch).1 ∧ (C.getD i zch).1 < (p : Int)) ∧ (C.getD i zch).2.length = 256 ∧ (0 < i → (C.getD (i - 1) zch).1 < (C.getD i zch).1)
def nodeOk (p : Nat) (N : List NdV) (i : Nat) : Bool := decide ((findD N (i : Int)).length = many p i) && (findD N (i : Int)).all plOk
def mayT (p : Nat) (N : List NdV) (C : List ChV) : Bool := decide (riseT p C) && (needT p (pgsC C)).all (nodeOk p N)
section
variable (key : List (BitVec 8)) (ep : BitVec 32) (p : Nat) (root : RefV) (N : List NdV) (C : List ChV)
def chgP (i : Nat) : Option (List (BitVec 8)) := (C.find? fun c => c.1 == (i : Int)).map (·.2)
def oldC (i : Nat) : RefV := if i + 1 < itn p then (findD N ((parN p i).1 : Int)).getD (parN p i).2 zref else root
def oplC (i : Nat) : Int := (oldC p root N i).pl
def blkC (i : Nat) : Nat := 2 + 2 * i + (1 - oplC p root N i).toNat
def newC (F : List (Option RefV)) (q : Nat) : List RefV := (List.range (many p q)).map fun t => (F.getD (fst p q + t) none).getD ((findD N (q : Int)).getD t zref)
def pageC (F : List (Option RefV)) (i : Nat) : Option (List (BitVec 8)) := if i < p then chgP C i else if isN p (pgsC C) i = true then some (layN (newC p N F i)).1 else none
def hidC (i : Nat) (pg : List (BitVec 8)) : List (BitVec 8) × RefV × Int := hideR key ep (1 - oplC p root N i) (2 + 2 * (i : Int) + (1 - oplC p root N i)) pg
def stpC (F : List (Option RefV)) (i : Nat) : Option (List (BitVec 8) × RefV) := (pageC p N C F i).map fun pg => ((hidC key ep p root N i pg).1, (hidC key ep p root N i pg).2.1)
def frL : Nat → List (Option RefV)
 | 0 => []
 | i + 1 => frL i ++ [(stpC key ep p root N C (frL i) i).map (·.2)]
def selC (i : Nat) : Option (List (BitVec 8) × RefV) := stpC key ep p root N C (frL key ep p root N C i) i
def frC (i : Nat) : Option RefV := (selC key ep p root N C i).map (·.2)
def putsC (n : Nat) : List (Nat × List (BitVec 8)) := (List.range n).filterMap fun i => (selC key ep p root N C i).map fun s => (blkC p root N i, s.1)
def refsC (n q : Nat) : List RefV := newC p N (frL key ep p root N C n) q
def ndsC (n : Nat) : List NdV := ((List.range n).filter (isN p (pgsC C))).map fun (i : Nat) => ((i : Int), refsC key ep p root N C i i)
def rootC (n : Nat) : RefV := (if itn p ≤ n then frC key ep p root N C (itn p - 1) else none).getD root
def planT : List (Nat × List (BitVec 8)) × List NdV × RefV × Int :=
 if mayT p N C = true ∧ plOk root = true then (putsC key ep p root N C (itn p), ndsC key ep p root N C (itn p), rootC key ep p root N C (itn p), 0) else ([], [], zref, 1)
end
theorem mem_need (p : Nat) (L : List Int) (i : Nat) : i ∈ needT p L ↔ i < itn p ∧ isN p L i = true := by
 unfold needT; rw [List.mem_filter, List.mem_range]
theorem isN_iff (p : Nat) (L : List Int) (i : Nat) : isN p L i = true ↔ p ≤ i ∧ ∃ x ∈ L, onW p x i = true := by
 unfold isN; simp
theorem onW_iff (p : Nat) (x : Int) (i : Nat) : onW p x i = true ↔ (0 ≤ x ∧ x < (p : Int)) ∧ ∃ k, k ≤ topn p ∧ itp p x.toNat k = i := by
 unfold onW WZ
 rw [List.contains_iff_mem]
 constructor
 ·intro h
  split at h
  ·rename_i hx
   refine ⟨hx, ?_⟩
   unfold pathZ at h
   obtain ⟨k, hk, he⟩ := List.mem_map.1 h
   exact ⟨k, by have := List.mem_range.1 hk; omega, by omega⟩
  ·cases h
 ·rintro ⟨hx, k, hk, he⟩
  rw [if_pos hx]
  unfold pathZ
  exact List.mem_map.2 ⟨k, List.mem_range.2 (by omega), by rw [he]⟩
theorem onW_par (p : Nat) (x : Int) (i : Nat) (h0 : 1 ≤ p) (h1 : p ≤ 216) (hi : i + 1 < itn p) (h : onW p x i = true) : onW p x (parN p i).1 = true := by
 obtain ⟨hx, k, hk, he⟩ := (onW_iff p x i).1 h
 have hkt : k < topn p := by
  rcases Nat.lt_or_ge k (topn p) with g | g
  ·exact g
  ·have e : k = topn p := by omega
   have r := itp_root p x.toNat h0 h1 (by omega)
   rw [e] at he
   omega
 refine (onW_iff p x _).2 ⟨hx, k + 1, by omega, ?_⟩
 rw [← he]
 rfl
theorem isN_par {p : Nat} {L : List Int} {i : Nat} (h0 : 1 ≤ p) (h1 : p ≤ 216) (hi : i + 1 < itn p) (h : isN p L i = true) : isN p L (parN p i).1 = true := by
 obtain ⟨_, x, hx, hw⟩ := (isN_iff p L i).1 h
 exact (isN_iff p L _).2 ⟨(par_lev p i h0 h1 hi).2.2.2.1, x, hx, onW_par p x i h0 h1 hi hw⟩
theorem isN_page {p : Nat} {L : List Int} {x : Nat} (h0 : 1 ≤ p) (h1 : p ≤ 216) (hx : x < p) (h : (x : Int) ∈ L) : isN p L (parN p x).1 = true := by
 have hb := itn_big p h0 h1
 have hw : onW p (x : Int) x = true := (onW_iff p _ x).2 ⟨by omega, 0, by omega, by simp [itp]⟩
 have hi : x + 1 < itn p := by omega
 exact (isN_iff p L _).2 ⟨(par_lev p x h0 h1 hi).2.2.2.1, _, h, onW_par p _ x h0 h1 hi hw⟩
section
variable {key : List (BitVec 8)} {ep : BitVec 32} {p : Nat} {root : RefV} {N : List NdV} {C : List ChV}
theorem frL_length (n : Nat) : (frL key ep p root N C n).length = n := by
 induction n with
 | zero => rfl
 | succ n ih => rw [frL, List.length_append, ih]; rfl
theorem frL_get (n i : Nat) : (frL key ep p root N C n).getD i none = if i < n then frC key ep p root N C i else none := by
 induction n with
 | zero => rw [if_neg (by omega)]; rfl
 | succ n ih =>
  rw [frL, List.getD_eq_getElem?_getD]
  by_cases h : i < n
  ·rw [List.getElem?_append_left (by rw [frL_length]; exact h), ← List.getD_eq_getElem?_getD, ih, if_pos h, if_pos (by omega)]
  ·by_cases e : i = n
   ·subst e
    rw [List.getElem?_append_right (by rw [frL_length]; exact Nat.le_refl _), frL_length, Nat.sub_self, if_pos (by omega)]
    rfl
   ·rw [List.getElem?_eq_none (by rw [List.length_append, frL_length]; simp; omega), if_neg (by omega)]
    rfl
theorem newC_length (F : List (Option RefV)) (q : Nat) : (newC p N F q).length = many p q := by simp [newC]
theorem refsC_length (n q : Nat) : (refsC key ep p root N C n q).length = many p q := newC_length _ _
theorem refsC_get (n q t : Nat) (ht : t < many p q) : (refsC key ep p root N C n q).getD t zref = ((if fst p q + t < n then frC key ep p root N C (fst p q + t) else none).getD ((findD N (q : Int)).getD t zref)) := by
 unfold refsC newC
 rw [List.getD_eq_getElem?_getD, List.getElem?_map, List.getElem?_range ht, Option.map_some, Option.getD_some, frL_get]
theorem refs_ext {L M : List RefV} {n : Nat} (h1 : L.length = n) (h2 : M.length = n) (h : ∀ t, t < n → L.getD t zref = M.getD t zref) : L = M := by
 apply List.ext_getElem
 ·rw [h1, h2]
 ·intro i a b
  have g := h i (by omega)
  rw [List.getD_eq_getElem?_getD, List.getD_eq_getElem?_getD, List.getElem?_eq_getElem a, List.getElem?_eq_getElem b] at g
  exact g
theorem getD_set_self (L : List RefV) (i : Nat) (r : RefV) (h : i < L.length) : (L.set i r).getD i zref = r := by
 rw [List.getD_eq_getElem?_getD, List.getElem?_set_self h]; rfl
theorem getD_set_ne (L : List RefV) (i j : Nat) (r : RefV) (h : i ≠ j) : (L.set i r).getD j zref = L.getD j zref := by
 rw [List.getD_eq_getElem?_getD, List.getElem?_set_ne h, ← List.getD_eq_getElem?_getD]
theorem refsC_zero (q : Nat) (h : (findD N (q : Int)).length = many p q) : refsC key ep p root N C 0 q = findD N (q : Int) :=
 refs_ext (refsC_length 0 q) h fun t ht => by rw [refsC_get 0 q t ht, if_neg (by omega)]; rfl
theorem putsC_succ (n : Nat) : putsC key ep p root N C (n + 1) = putsC key ep p root N C n ++ ((selC key ep p root N C n).map fun s => (blkC p root N n, s.1)).toList := by
 unfold putsC
 rw [List.range_succ, List.filterMap_append]
 congr 1
theorem putsC_none {n : Nat} (h : selC key ep p root N C n = none) : putsC key ep p root N C (n + 1) = putsC key ep p root N C n := by rw [putsC_succ, h]; simp
theorem putsC_some {n : Nat} {s : List (BitVec 8) × RefV} (h : selC key ep p root N C n = some s) : putsC key ep p root N C (n + 1) = putsC key ep p root N C n ++ [(blkC p root N n, s.1)] := by rw [putsC_succ, h]; rfl
theorem frC_none {n : Nat} (h : selC key ep p root N C n = none) : frC key ep p root N C n = none := by unfold frC; rw [h]; rfl
theorem frC_some {n : Nat} {s : List (BitVec 8) × RefV} (h : selC key ep p root N C n = some s) : frC key ep p root N C n = some s.2 := by unfold frC; rw [h]; rfl
theorem refsC_none {n q : Nat} (h : selC key ep p root N C n = none) : refsC key ep p root N C (n + 1) q = refsC key ep p root N C n q :=
 refs_ext (refsC_length _ _) (refsC_length _ _) fun t ht => by
  rw [refsC_get _ _ _ ht, refsC_get _ _ _ ht]
  by_cases e : fst p q + t = n
  ·rw [if_pos (by omega), if_neg (by omega), e, frC_none h]
  ·by_cases g : fst p q + t < n
   ·rw [if_pos (by omega), if_pos g]
   ·rw [if_neg (by omega), if_neg g]
theorem refsC_own (h0 : 1 ≤ p) (h1 : p ≤ 216) {n : Nat} {s : List (BitVec 8) × RefV} (h : selC key ep p root N C n = some s) (hn : n + 1 < itn p) : refsC key ep p root N C (n + 1) (parN p n).1 = (refsC key ep p root N C n (parN p n).1).set (parN p n).2 s.2 := by
 have hl := par_lev p n h0 h1 hn
 have hk := (kid_iff p (parN p n).1 n (parN p n).2 h0 h1 hl.2.2.2.1 hl.2.2.1).2 ⟨hn, rfl⟩
 refine refs_ext (refsC_length _ _) (by rw [List.length_set, refsC_length]) fun t ht => ?_
 rw [refsC_get _ _ _ ht]
 by_cases e : t = (parN p n).2
 ·subst e
  rw [getD_set_self _ _ _ (by rw [refsC_length]; exact hk.1), hk.2, if_pos (by omega), frC_some h]
  rfl
 ·rw [getD_set_ne _ _ _ _ (fun h => e h.symm), refsC_get _ _ _ ht]
  by_cases g : fst p (parN p n).1 + t < n
  ·rw [if_pos (by omega), if_pos g]
  ·rw [if_neg (by omega), if_neg g]
theorem refsC_other (h0 : 1 ≤ p) (h1 : p ≤ 216) {n q : Nat} (hq : p ≤ q) (hqt : q < itn p) (hne : n + 1 < itn p → q ≠ (parN p n).1) : refsC key ep p root N C (n + 1) q = refsC key ep p root N C n q :=
 refs_ext (refsC_length _ _) (refsC_length _ _) fun t ht => by
  rw [refsC_get _ _ _ ht, refsC_get _ _ _ ht]
  by_cases e : fst p q + t = n
  ·have := (kid_iff p q n t h0 h1 hq hqt).1 ⟨ht, e⟩
   exact absurd (by rw [this.2]) (hne this.1)
  ·by_cases g : fst p q + t < n
   ·rw [if_pos (by omega), if_pos g]
   ·rw [if_neg (by omega), if_neg g]
theorem refsC_old (h0 : 1 ≤ p) (h1 : p ≤ 216) {n : Nat} (hn : n + 1 < itn p) : (refsC key ep p root N C n (parN p n).1).getD (parN p n).2 zref = oldC p root N n := by
 have hl := par_lev p n h0 h1 hn
 have hk := (kid_iff p (parN p n).1 n (parN p n).2 h0 h1 hl.2.2.2.1 hl.2.2.1).2 ⟨hn, rfl⟩
 rw [refsC_get _ _ _ hk.1, hk.2, if_neg (by omega)]
 unfold oldC
 rw [if_pos hn]
 rfl
theorem rootC_lt {n : Nat} (h : n < itn p) : rootC key ep p root N C n = root := by unfold rootC; rw [if_neg (by omega)]; rfl
theorem rootC_last (h0 : 1 ≤ p) (h1 : p ≤ 216) {s : List (BitVec 8) × RefV} (h : selC key ep p root N C (itn p - 1) = some s) : rootC key ep p root N C (itn p) = s.2 := by
 have := itn_big p h0 h1
 unfold rootC; rw [if_pos (Nat.le_refl _), frC_some h]; rfl
theorem oldC_last {n : Nat} (h : ¬ n + 1 < itn p) : oldC p root N n = root := by unfold oldC; rw [if_neg h]
end
end Sha
end Go.Proofs.YtahcjnganedbiaaGreatDoor
namespace Go.Proofs.YtahcjnganedbiaaGreatDoor
namespace Sha
open Go.RowKit Mem
theorem may_iff (p : Nat) (N : List NdV) (C : List ChV) : mayT p N C = true ↔ riseT p C ∧ ∀ i, i < itn p → isN p (pgsC C) i = true → (findD N (i : Int)).length = many p i ∧ ∀ r ∈ findD N (i : Int), plOk r = true := by
 unfold mayT
 rw [Bool.and_eq_true, decide_eq_true_eq, List.all_eq_true]
 constructor
 ·rintro ⟨a, b⟩
  refine ⟨a, fun i hi hn => ?_⟩
  have h := b i ((mem_need p _ i).2 ⟨hi, hn⟩)
  unfold nodeOk at h
  rw [Bool.and_eq_true, decide_eq_true_eq, List.all_eq_true] at h
  exact h
 ·rintro ⟨a, b⟩
  refine ⟨a, fun i hi => ?_⟩
  obtain ⟨h1, h2⟩ := (mem_need p _ i).1 hi
  unfold nodeOk
  rw [Bool.and_eq_true, decide_eq_true_eq, List.all_eq_true]
  exact b i h1 h2
structure GoodC (p : Nat) (root : RefV) (N : List NdV) (C : List ChV) : Prop where
 h0 : 1 ≤ p
 h1 : p ≤ 216
 may : mayT p N C = true
 rt : plOk root = true
 wf : ∀ n ∈ N, ∀ r ∈ n.2, r.Wf
 rw : root.Wf
def tchC (p : Nat) (C : List ChV) (i : Nat) : Bool := if i < p then (pgsC C).contains (i : Int) else isN p (pgsC C) i
theorem findD_wf {N : List NdV} (h : ∀ n ∈ N, ∀ r ∈ n.2, r.Wf) (z : Int) : ∀ r ∈ findD N z, r.Wf := by
 intro r hr
 unfold findD findT at hr
 cases e : N.find? fun n => n.1 == z with
 | none => rw [e] at hr; simp at hr
 | some n => rw [e] at hr; exact h n (List.mem_of_find?_eq_some e) r (by simpa using hr)
theorem getD_pl {L : List RefV} (h : ∀ r ∈ L, plOk r = true) (i : Nat) : plOk (L.getD i zref) = true := by
 rw [List.getD_eq_getElem?_getD]
 by_cases hi : i < L.length
 ·rw [List.getElem?_eq_getElem hi]; exact h _ (List.getElem_mem hi)
 ·rw [List.getElem?_eq_none (by omega)]; rfl
theorem rise_lt {p : Nat} {C : List ChV} (h : riseT p C) (i : Nat) : ∀ j, i < j → j < C.length → (C.getD i zch).1 < (C.getD j zch).1 := by
 intro j
 induction j with
 | zero => intro a; omega
 | succ j ih =>
  intro a b
  have g := (h (j + 1) b).2.2 (by omega)
  rw [Nat.add_sub_cancel] at g
  by_cases e : i = j
  ·subst e; exact g
  ·have := ih (by omega) (by omega); omega
theorem mem_pgsC {C : List ChV} {z : Int} : z ∈ pgsC C ↔ ∃ j, j < C.length ∧ (C.getD j zch).1 = z := by
 unfold pgsC
 rw [List.mem_map]
 constructor
 ·rintro ⟨c, hc, e⟩
  obtain ⟨j, hj, e2⟩ := List.mem_iff_getElem.1 hc
  exact ⟨j, hj, by rw [List.getD_eq_getElem?_getD, List.getElem?_eq_getElem hj, Option.getD_some, e2]; exact e⟩
 ·rintro ⟨j, hj, e⟩
  rw [List.getD_eq_getElem?_getD, List.getElem?_eq_getElem hj, Option.getD_some] at e
  exact ⟨C[j], List.getElem_mem hj, e⟩
theorem chgP_get {p : Nat} {C : List ChV} (h : riseT p C) {j x : Nat} (hj : j < C.length) (hx : (C.getD j zch).1 = (x : Int)) : chgP C x = some (C.getD j zch).2 := by
 have e : C.find? (fun c => c.1 == (x : Int)) = some C[j] := by
  rw [List.find?_eq_some_iff_getElem]
  have ej : C.getD j zch = C[j] := by rw [List.getD_eq_getElem?_getD, List.getElem?_eq_getElem hj, Option.getD_some]
  rw [ej] at hx
  refine ⟨by simp [hx], j, hj, rfl, fun i hi => ?_⟩
  have g := rise_lt h i j hi hj
  have ei : C.getD i zch = C[i] := by rw [List.getD_eq_getElem?_getD, List.getElem?_eq_getElem (by omega), Option.getD_some]
  rw [ei, ej, hx] at g
  have : ¬ C[i].1 = (x : Int) := by omega
  simp [this]
 unfold chgP
 rw [e, List.getD_eq_getElem?_getD, List.getElem?_eq_getElem hj]
 rfl
theorem chgP_none {C : List ChV} {x : Nat} (h : (x : Int) ∉ pgsC C) : chgP C x = none := by
 unfold chgP
 rw [List.find?_eq_none.2]
 ·rfl
 ·intro c hc e
  exact h (List.mem_map.2 ⟨c, hc, by simpa using e⟩)
section
variable {key : List (BitVec 8)} {ep : BitVec 32} {p : Nat} {root : RefV} {N : List NdV} {C : List ChV}
theorem sel_none {i : Nat} (h : tchC p C i = false) : selC key ep p root N C i = none := by
 unfold tchC at h
 unfold selC stpC pageC
 by_cases hp : i < p
 ·rw [if_pos hp] at h ⊢
  rw [chgP_none (by simpa using h)]
  rfl
 ·rw [if_neg hp] at h ⊢
  rw [h]
  rfl
theorem tch_par (G : GoodC p root N C) {i : Nat} (h : tchC p C i = true) (hi : i + 1 < itn p) : isN p (pgsC C) (parN p i).1 = true := by
 unfold tchC at h
 by_cases hp : i < p
 ·rw [if_pos hp] at h
  exact isN_page G.h0 G.h1 hp (by simpa using h)
 ·rw [if_neg hp] at h
  exact isN_par G.h0 G.h1 hi h
theorem old_ok (G : GoodC p root N C) {i : Nat} (h : i + 1 < itn p → isN p (pgsC C) (parN p i).1 = true) : plOk (oldC p root N i) = true := by
 unfold oldC
 by_cases hi : i + 1 < itn p
 ·rw [if_pos hi]
  exact getD_pl (((may_iff p N C).1 G.may).2 _ (par_lev p i G.h0 G.h1 hi).2.2.1 (h hi)).2 _
 ·rw [if_neg hi]; exact G.rt
theorem opl_ok (G : GoodC p root N C) {i : Nat} (h : tchC p C i = true) : 0 ≤ oplC p root N i ∧ oplC p root N i ≤ 1 := by
 have := old_ok G (tch_par G h)
 unfold oplC
 unfold plOk at this
 exact of_decide_eq_true this
theorem fr_wf {i : Nat} {r : RefV} (h : frC key ep p root N C i = some r) : r.Wf := by
 unfold frC selC stpC at h
 cases e : pageC p N C (frL key ep p root N C i) i with
 | none => rw [e] at h; cases h
 | some pg => rw [e] at h; simp at h; rw [← h]; exact hideR_wf _ _ _ _ _
theorem fr_pl {i : Nat} {r : RefV} (h : frC key ep p root N C i = some r) (ho : plOk (oldC p root N i) = true) : plOk r = true := by
 unfold frC selC stpC at h
 cases e : pageC p N C (frL key ep p root N C i) i with
 | none => rw [e] at h; cases h
 | some pg =>
  rw [e] at h
  simp at h
  rw [← h]
  unfold hidC hideR
  split
  ·rfl
  ·unfold plOk at *
   have := of_decide_eq_true ho
   show decide (0 ≤ 1 - oplC p root N i ∧ 1 - oplC p root N i ≤ 1) = true
   unfold oplC
   exact decide_eq_true (by omega)
theorem refsC_wf (hw : ∀ n ∈ N, ∀ r ∈ n.2, r.Wf) (n q : Nat) : ∀ r ∈ refsC key ep p root N C n q, r.Wf := by
 intro r hr
 unfold refsC newC at hr
 obtain ⟨t, _, rfl⟩ := List.mem_map.1 hr
 rw [frL_get]
 split
 ·cases e : frC key ep p root N C (fst p q + t) with
  | none => exact getD_wf (findD_wf hw _) _
  | some r => exact fr_wf e
 ·exact getD_wf (findD_wf hw _) _
theorem refsC_pl (G : GoodC p root N C) (n q : Nat) (hp : p ≤ q) (hq : q < itn p) (hn : isN p (pgsC C) q = true) : ∀ r ∈ refsC key ep p root N C n q, plOk r = true := by
 intro r hr
 have hd := getD_pl (((may_iff p N C).1 G.may).2 q hq hn).2
 unfold refsC newC at hr
 obtain ⟨t, ht, rfl⟩ := List.mem_map.1 hr
 have ht := List.mem_range.1 ht
 rw [frL_get]
 split
 ·cases e : frC key ep p root N C (fst p q + t) with
  | none => exact hd t
  | some r =>
   have hk := (kid_iff p q _ t G.h0 G.h1 hp hq).1 ⟨ht, rfl⟩
   exact fr_pl e (old_ok G fun _ => by rw [hk.2]; exact hn)
 ·exact hd t
theorem layC_ok (G : GoodC p root N C) (n q : Nat) (hp : p ≤ q) (hq : q < itn p) (hn : isN p (pgsC C) q = true) : (layN (refsC key ep p root N C n q)).2 = 0 := by
 have h := node_kids p q G.h0 G.h1 hp hq
 have h6 := many_le p q
 have hl : (refsC key ep p root N C n q).length = many p q := refsC_length n q
 rw [layN_good (by omega) (by omega) fun t _ => getD_pl (refsC_pl G n q hp hq hn) t]
theorem layC_len (G : GoodC p root N C) (n q : Nat) (hp : p ≤ q) (hq : q < itn p) (hn : isN p (pgsC C) q = true) : (layN (refsC key ep p root N C n q)).1.length = 256 :=
 layN_length (refsC_wf G.wf n q) (Prod.ext rfl (layC_ok G n q hp hq hn))
theorem page_ok (G : GoodC p root N C) {i : Nat} (hi : i < itn p) (h : tchC p C i = true) : ∃ pg, pageC p N C (frL key ep p root N C i) i = some pg ∧ pg.length = 256 := by
 unfold tchC at h
 unfold pageC
 by_cases hp : i < p
 ·rw [if_pos hp] at h ⊢
  obtain ⟨j, hj, e⟩ := mem_pgsC.1 (by simpa using h)
  have hr := ((may_iff p N C).1 G.may).1
  exact ⟨_, chgP_get hr hj e, (hr j hj).2.1⟩
 ·rw [if_neg hp] at h ⊢
  rw [if_pos h]
  exact ⟨_, rfl, layC_len G i i (by omega) hi h⟩
theorem blk_int (G : GoodC p root N C) {i : Nat} (h : tchC p C i = true) : (2 + 2 * (i : Int) + (1 - oplC p root N i)) = ((blkC p root N i : Nat) : Int) := by
 have := opl_ok G h
 unfold blkC
 omega
theorem sel_ok (G : GoodC p root N C) {i : Nat} {pg : List (BitVec 8)} (h : tchC p C i = true) (hp : pageC p N C (frL key ep p root N C i) i = some pg) (hl : pg.length = 256) :
 hidC key ep p root N i pg = (sealL key ep (blkC p root N i : Nat) pg, ⟨1 - oplC p root N i, ep, digestOf (sealL key ep (blkC p root N i : Nat) pg)⟩, 0) ∧ selC key ep p root N C i = some (sealL key ep (blkC p root N i : Nat) pg, ⟨1 - oplC p root N i, ep, digestOf (sealL key ep (blkC p root N i : Nat) pg)⟩) := by
 have ho := opl_ok G h
 have hb := blk_int G h
 have e : hidC key ep p root N i pg = (sealL key ep (blkC p root N i : Nat) pg, ⟨1 - oplC p root N i, ep, digestOf (sealL key ep (blkC p root N i : Nat) pg)⟩, 0) := by
  unfold hidC
  rw [hb]
  exact hideR_good key ep (1 - oplC p root N i) (blkC p root N i : Nat) pg hl (by omega) (by omega) (by omega)
 refine ⟨e, ?_⟩
 unfold selC stpC
 rw [hp, Option.map_some, e]
theorem skip_any {a : Nat} : ∀ b, a ≤ b → (∀ i, a ≤ i → i < b → tchC p C i = false) → putsC key ep p root N C b = putsC key ep p root N C a ∧ ∀ q, refsC key ep p root N C b q = refsC key ep p root N C a q := by
 intro b
 induction b with
 | zero =>
  intro h _
  have : a = 0 := by omega
  subst this
  exact ⟨rfl, fun _ => rfl⟩
 | succ b ih =>
  intro h hn
  by_cases e : a = b + 1
  ·subst e; exact ⟨rfl, fun _ => rfl⟩
  ·obtain ⟨h1, h2⟩ := ih (by omega) fun i x y => hn i x (by omega)
   have hs := sel_none (key := key) (ep := ep) (root := root) (N := N) (hn b (by omega) (by omega))
   exact ⟨by rw [putsC_none hs, h1], fun q => by rw [refsC_none hs, h2]⟩
end
theorem filter_at (f : Nat → Bool) : ∀ n j, j < ((List.range n).filter f).length → ((List.range n).filter f).getD j 0 < n ∧ f (((List.range n).filter f).getD j 0) = true ∧ (List.range (((List.range n).filter f).getD j 0)).filter f = ((List.range n).filter f).take j := by
 intro n
 induction n with
 | zero => intro j h; simp at h
 | succ n ih =>
  intro j h
  rw [List.range_succ, List.filter_append] at h ⊢
  by_cases hj : j < ((List.range n).filter f).length
  ·obtain ⟨a, b, c⟩ := ih j hj
   rw [List.getD_eq_getElem?_getD, List.getElem?_append_left hj, ← List.getD_eq_getElem?_getD]
   exact ⟨by omega, b, by rw [c, List.take_append_of_le_length (by omega)]⟩
  ·by_cases hf : f n = true
   ·have e1 : [n].filter f = [n] := by simp [hf]
    rw [e1] at h ⊢
    have e : j = ((List.range n).filter f).length := by simp at h; omega
    subst e
    have e2 : (List.filter f (List.range n) ++ [n]).getD (List.filter f (List.range n)).length 0 = n := by
     rw [List.getD_eq_getElem?_getD, List.getElem?_append_right (Nat.le_refl _), Nat.sub_self]; rfl
    rw [e2]
    exact ⟨by omega, hf, by rw [List.take_append_of_le_length (Nat.le_refl _), List.take_length]⟩
   ·have e1 : [n].filter f = [] := by simp [hf]
    rw [e1] at h
    simp at h
    omega
theorem filter_succ (f : Nat → Bool) (n : Nat) : (List.range (n + 1)).filter f = (List.range n).filter f ++ if f n then [n] else [] := by
 rw [List.range_succ, List.filter_append]
 congr 1
 by_cases h : f n = true
 ·rw [if_pos h]; simp [h]
 ·rw [if_neg h]; simp [h]
theorem filter_gap (f : Nat → Bool) {m x : Nat} (h : (List.range m).filter f = (List.range x).filter f) : ∀ i, m ≤ i → i < x → f i = false := by
 intro i h1 h2
 cases e : f i with
 | false => rfl
 | true =>
  have : i ∈ (List.range x).filter f := List.mem_filter.2 ⟨List.mem_range.2 h2, e⟩
  rw [← h] at this
  have := List.mem_range.1 (List.mem_filter.1 this).1
  omega
theorem filter_le (f : Nat → Bool) {m x : Nat} (h : (List.range m).filter f = (List.range x).filter f) (hx : f x = true) : m ≤ x := by
 rcases Nat.lt_or_ge x m with g | g
 ·have : x ∈ (List.range m).filter f := List.mem_filter.2 ⟨List.mem_range.2 g, hx⟩
  rw [h] at this
  have := List.mem_range.1 (List.mem_filter.1 this).1
  omega
 ·exact g
end Sha
end Go.Proofs.YtahcjnganedbiaaGreatDoor
namespace Go.Proofs.YtahcjnganedbiaaGreatDoor
namespace Sha
open Go.RowKit Mem
def SlCh (w : World) (v : Value) (C : List ChV) : Prop :=
 ∃ a cap, v = .slice a C.length cap ∧ (C ≠ [] → ∃ b o, a = some ⟨b, o, none⟩ ∧ b < w.heap.size ∧ ∀ i, i < C.length → w.cell? ⟨b, o + i * 2, none⟩ = some (.int .i64 (C.getD i zch).1) ∧ ∃ u, w.cell? ⟨b, o + i * 2 + 1, none⟩ = some u ∧ Sl w u (C.getD i zch).2)
def SlNd (w : World) (v : Value) (N : List NdV) : Prop :=
 ∃ a cap, v = .slice a N.length cap ∧ (N ≠ [] → ∃ b o, a = some ⟨b, o, none⟩ ∧ b < w.heap.size ∧ ∀ i, i < N.length → w.cell? ⟨b, o + i * 2, none⟩ = some (.int .i64 (N.getD i znd).1) ∧ ∃ u, w.cell? ⟨b, o + i * 2 + 1, none⟩ = some u ∧ SlRf w u (N.getD i znd).2)
theorem cell_keep {w w' : World} {b o : Nat} (hb : Below w.heap.size w w') (hlt : b < w.heap.size) : w'.cell? ⟨b, o, none⟩ = w.cell? ⟨b, o, none⟩ := World.cell?_of_block (w := w) (w' := w') (a := ⟨b, o, none⟩) (hb.block b hlt)
theorem SlCh.below {w w' : World} {v : Value} {C : List ChV} (h : SlCh w v C) (hb : Below w.heap.size w w') : SlCh w' v C := by
 obtain ⟨a, cap, e, hr⟩ := h
 refine ⟨a, cap, e, fun hne => ?_⟩
 obtain ⟨b, o, ea, hlt, hc⟩ := hr hne
 refine ⟨b, o, ea, Nat.lt_of_lt_of_le hlt hb.size, fun i hi => ?_⟩
 obtain ⟨c0, u, c1, hu⟩ := hc i hi
 exact ⟨(cell_keep hb hlt).trans c0, u, (cell_keep hb hlt).trans c1, hu.below hb⟩
theorem SlNd.below {w w' : World} {v : Value} {N : List NdV} (h : SlNd w v N) (hb : Below w.heap.size w w') : SlNd w' v N := by
 obtain ⟨a, cap, e, hr⟩ := h
 refine ⟨a, cap, e, fun hne => ?_⟩
 obtain ⟨b, o, ea, hlt, hc⟩ := hr hne
 refine ⟨b, o, ea, Nat.lt_of_lt_of_le hlt hb.size, fun i hi => ?_⟩
 obtain ⟨c0, u, c1, hu⟩ := hc i hi
 exact ⟨(cell_keep hb hlt).trans c0, u, (cell_keep hb hlt).trans c1, hu.below hb⟩
theorem SlCh.hd {w : World} {v : Value} {C : List ChV} (h : SlCh w v C) : ∃ a c, v = .slice a C.length c := let ⟨a, c, e, _⟩ := h; ⟨a, c, e⟩
theorem SlNd.hd {w : World} {v : Value} {N : List NdV} (h : SlNd w v N) : ∃ a c, v = .slice a N.length c := let ⟨a, c, e, _⟩ := h; ⟨a, c, e⟩
theorem SlCh.nil (w : World) (cap : Nat) : SlCh w (.slice none 0 cap) [] := ⟨none, cap, rfl, fun h => absurd rfl h⟩
theorem SlNd.nil (w : World) (cap : Nat) : SlNd w (.slice none 0 cap) [] := ⟨none, cap, rfl, fun h => absurd rfl h⟩
theorem slch_at {w : World} {a : Option Addr} {n c i : Nat} {C : List ChV} (h : SlCh w (.slice a n c) C) (hn : n = C.length) (hi : i < n) : ∃ b o u, a = some ⟨b, o, none⟩ ∧ b < w.heap.size ∧ w.cell? ⟨b, o + i * 2, none⟩ = some (.int .i64 (C.getD i zch).1) ∧ w.cell? ⟨b, o + i * 2 + 1, none⟩ = some u ∧ Sl w u (C.getD i zch).2 := by
 obtain ⟨a', c', e, hr⟩ := h
 obtain ⟨b, o, ea, hlt, hc⟩ := hr (by intro e0; subst e0; simp at hn; omega)
 injection e with e1 _ _
 obtain ⟨c0, u, c1, hu⟩ := hc i (by omega)
 exact ⟨b, o, u, e1.trans ea, hlt, c0, c1, hu⟩
theorem slnd_at {w : World} {a : Option Addr} {n c i : Nat} {N : List NdV} (h : SlNd w (.slice a n c) N) (hn : n = N.length) (hi : i < n) : ∃ b o u, a = some ⟨b, o, none⟩ ∧ b < w.heap.size ∧ w.cell? ⟨b, o + i * 2, none⟩ = some (.int .i64 (N.getD i znd).1) ∧ w.cell? ⟨b, o + i * 2 + 1, none⟩ = some u ∧ SlRf w u (N.getD i znd).2 := by
 obtain ⟨a', c', e, hr⟩ := h
 obtain ⟨b, o, ea, hlt, hc⟩ := hr (by intro e0; subst e0; simp at hn; omega)
 injection e with e1 _ _
 obtain ⟨c0, u, c1, hu⟩ := hc i (by omega)
 exact ⟨b, o, u, e1.trans ea, hlt, c0, c1, hu⟩
theorem find_step (N : List NdV) (z : Int) (j : Nat) (hj : j < N.length) (h : ∀ i, i < j → (N.getD i znd).1 ≠ z) (he : (N.getD j znd).1 = z) : findT N z = some (N.getD j znd).2 := by
 have ej : N.getD j znd = N[j] := by rw [List.getD_eq_getElem?_getD, List.getElem?_eq_getElem hj, Option.getD_some]
 unfold findT
 have e : N.find? (fun n => n.1 == z) = some N[j] := by
  rw [List.find?_eq_some_iff_getElem]
  rw [ej] at he
  refine ⟨by simp [he], j, hj, rfl, fun i hi => ?_⟩
  have g := h i hi
  have ei : N.getD i znd = N[i] := by rw [List.getD_eq_getElem?_getD, List.getElem?_eq_getElem (by omega), Option.getD_some]
  rw [ei] at g
  simp [g]
 rw [e, ej]
 rfl
theorem find_end (N : List NdV) (z : Int) (h : ∀ i, i < N.length → (N.getD i znd).1 ≠ z) : findT N z = none := by
 unfold findT
 rw [List.find?_eq_none.2]
 ·rfl
 ·intro n hn e
  obtain ⟨i, hi, e2⟩ := List.mem_iff_getElem.1 hn
  have g := h i hi
  rw [List.getD_eq_getElem?_getD, List.getElem?_eq_getElem hi, Option.getD_some, e2] at g
  exact g (by simpa using e)
def nxtC (C : List ChV) (j : Nat) : Int := if j = 0 then 0 else (C.getD (j - 1) zch).1 + 1
def okCh (p : Nat) (C : List ChV) (j : Nat) : Prop := nxtC C j ≤ (C.getD j zch).1 ∧ (C.getD j zch).1 < (p : Int) ∧ (C.getD j zch).2.length = 256
theorem rise_iff (p : Nat) (C : List ChV) : riseT p C ↔ ∀ j, j < C.length → okCh p C j := by
 constructor
 ·intro h j hj
  obtain ⟨⟨a, b⟩, c, d⟩ := h j hj
  refine ⟨?_, b, c⟩
  unfold nxtC
  by_cases e : j = 0
  ·rw [if_pos e]; exact a
  ·rw [if_neg e]; have := d (by omega); omega
 ·intro h
  have hlo : ∀ j, j < C.length → 0 ≤ (C.getD j zch).1 := by
   intro j
   induction j with
   | zero => intro hj; have := (h 0 hj).1; unfold nxtC at this; rw [if_pos rfl] at this; exact this
   | succ j ih =>
    intro hj
    have a := (h (j + 1) hj).1
    unfold nxtC at a
    rw [if_neg (by omega), Nat.add_sub_cancel] at a
    have := ih (by omega)
    omega
  intro j hj
  obtain ⟨a, b, c⟩ := h j hj
  refine ⟨⟨hlo j hj, b⟩, c, fun h0 => ?_⟩
  unfold nxtC at a
  rw [if_neg (by omega)] at a
  omega
theorem nxt_le (p : Nat) (C : List ChV) (j : Nat) (_hj : j ≤ C.length) (h : ∀ i, i < j → okCh p C i) : 0 ≤ nxtC C j ∧ nxtC C j ≤ (p : Int) := by
 have hlo : ∀ i, i < j → 0 ≤ (C.getD i zch).1 := by
  intro i
  induction i with
  | zero => intro hi; have := (h 0 hi).1; unfold nxtC at this; rw [if_pos rfl] at this; exact this
  | succ i ih =>
   intro hi
   have a := (h (i + 1) hi).1
   unfold nxtC at a
   rw [if_neg (by omega), Nat.add_sub_cancel] at a
   have := ih (by omega)
   omega
 unfold nxtC
 by_cases e : j = 0
 ·rw [if_pos e]; omega
 ·rw [if_neg e]
  have a := hlo (j - 1) (by omega)
  have b := (h (j - 1) (by omega)).2.1
  omega
end Sha
end Go.Proofs.YtahcjnganedbiaaGreatDoor
namespace Go.Proofs.YtahcjnganedbiaaGreatDoor
namespace Sha
open Go.RowKit Mem
theorem KZ_node (p i : Nat) (hi : p ≤ i) (hit : i < itn p) : (KZ p (i : Int)).length = many p i := by
 unfold KZ
 rw [if_pos ⟨by omega, by omega⟩, kz_length, Int.toNat_natCast]
section
end
section
end
section
end
end Sha
end Go.Proofs.YtahcjnganedbiaaGreatDoor
namespace Go.Proofs.YtahcjnganedbiaaGreatDoor
namespace Sha
open Go.RowKit Mem
structure Rd6 (s : St6) (B : List (BitVec 8)) : Prop where
 len : B.length = s.b.length
 rd : ∀ n, n < s.n → stRead s n = blkOf B n
theorem Rd6.nil {s : St6} (h : s.w = []) : Rd6 s s.b := ⟨rfl, fun n _ => by unfold stRead; rw [h]; rfl⟩
section
end
end Sha
end Go.Proofs.YtahcjnganedbiaaGreatDoor
namespace Go.Proofs.YtahcjnganedbiaaGreatDoor
namespace Sha
open Go.RowKit Mem
def TT (w : World) : Prop := Tabs w ∧ CTabs w
theorem TT.below {w w' : World} (h : TT w) (hb : Below w.heap.size w w') : TT w' := ⟨h.1.below hb (Nat.le_refl _), h.2.below hb (Nat.le_refl _)⟩
theorem pdig_any {F G : Foot} {bp : Value} {ts : List (List (BitVec 8))} (l : List (BitVec 8)) (v : Value) (w x : World) (hr : BkO F bp w ts) (hn : ts.length < 100000) (hv : SlB G w v l) (hG : ∀ k, G k → ¬ F k) (hp : l.length ≤ 1000000) (hT : Tabs x) (hxw : Below x.heap.size x w) (hF : ∀ k, F k → x.heap.size ≤ k) :
 Calls Tryz.prog 94 #[bp, v] w fun e w' => e = .returned (.agg (u8s (digestOf l)).toArray) ∧ BkEnd F bp w (ts ++ [l]) w' := by
 rcases hr with ⟨rfl, hnF⟩ | ⟨bk, rfl, hb⟩
 ·refine (pdigN_any l v w hv.sl (by omega) (hT.below hxw (Nat.le_refl _))).mono ?_
  rintro e w' ⟨rfl, hb⟩
  exact ⟨rfl, ⟨F, .inl ⟨rfl, hnF⟩, fun k hk => .inl hk⟩, Chg.of_below hb⟩
 ·refine (pdigB_any l v w x hb hn hv hG hp hT hxw hF).mono ?_
  rintro e w' ⟨rfl, ⟨F', h1, h2⟩, hc⟩
  exact ⟨rfl, ⟨F', .inr ⟨bk, rfl, h1⟩, h2⟩, hc⟩
def HideEnd (F : Foot) (bp : Value) (w : World) (l : List (BitVec 8)) (r : RefV) (n : Int) (ts : List (List (BitVec 8))) (e : Ending) (w' : World) : Prop :=
 ∃ v F', e = .returned (.tuple #[v, .agg (refC r), .int .i64 n]) ∧ SlB (fun k => w.heap.size ≤ k ∧ ¬ F' k) w' v l ∧ BkO F' bp w' ts ∧ (∀ k, F' k → F k ∨ w.heap.size ≤ k) ∧ Chg F w w'
theorem hide_end {F : Foot} {bp v3 : Value} {w w3 w4 : World} {g : Nat} {ts : List (List (BitVec 8))} {L : List (BitVec 8)} (hFl : ∀ k, F k → k < w.heap.size) (b3 : Below w.heap.size w w3) (hg : w.heap.size ≤ g) (hg3 : g < w3.heap.size) (hs : SlB (fun k => g < k) w3 v3 L) (hk : BkEnd F bp w3 ts w4) (M : Array Value) :
 ∃ F', SlB (fun k => w.heap.size ≤ k ∧ ¬ F' k) (w4.setRow g M) v3 L ∧ BkO F' bp (w4.setRow g M) ts ∧ (∀ k, F' k → F k ∨ w.heap.size ≤ k) ∧ Chg F w (w4.setRow g M) := by
 obtain ⟨⟨F', h1, h2⟩, hc⟩ := hk
 have hz := b3.size
 refine ⟨F', ?_, h1.keep (by simp) fun k hk _ => setRow_other w4 _ k M fun e => ?_, fun k hk => ?_, ?_⟩
 ·have s3 : SlB (fun k => g < k ∧ k < w3.heap.size) w3 v3 L := hs.mono fun k hk hlt => ⟨hk, hlt⟩
  have s4 : SlB (fun k => g < k ∧ k < w3.heap.size) w4 v3 L := s3.keep hc.size fun k hk hlt => hc.block k hlt fun hf => by have := hFl k hf; omega
  have s5 : SlB (fun k => g < k ∧ k < w3.heap.size) (w4.setRow g M) v3 L := s4.keep (by simp) fun k hk _ => setRow_other w4 _ k M (by omega)
  refine s5.mono fun k hk _ => ⟨by omega, fun hf => ?_⟩
  rcases h2 k hf with h | h
  ·have := hFl k h; omega
  ·omega
 ·subst e
  rcases h2 k hk with h | h
  ·have := hFl k h; omega
  ·omega
 ·rcases h2 k hk with h | h
  ·exact .inl h
  ·exact .inr (by omega)
 ·exact ((Chg.of_below b3).trans (F1 := F) hc fun x hx => .inl hx).trans (F1 := fun k => k = g) ⟨rfl, rfl, rfl, by simp, fun k _ hn => setRow_other w4 _ k M hn⟩ fun x hx => .inr (by omega)
theorem buildPf3 (p : Int) (e : BitVec 32) (dg : List (BitVec 8)) (h : dg.length = 32) (w : World) : (Instr.build 69 #[(0, .int .i64 p), (1, .int .u32 (V e)), (2, .agg (u8s dg).toArray)]).run Tryz.prog w = .ok (.agg (refC ⟨p, e, dg⟩)) w := by
 match dg, h with
 | [a0, a1, a2, a3, a4, a5, a6, a7, a8, a9, a10, a11, a12, a13, a14, a15, a16, a17, a18, a19, a20, a21, a22, a23, a24, a25, a26, a27, a28, a29, a30, a31], _ => exact run_build w _ _ _ (by kernel_rfl)
set_option maxRecDepth 100000 in
set_option maxHeartbeats 4000000 in
theorem phide_any {F : Foot} {bp : Value} {ts : List (List (BitVec 8))} (key : List (BitVec 8)) (lk : key.length = 32) (ep : BitVec 32) (place block : Int) (hbk : block ≤ 9223372036854775807) (page : List (BitVec 8)) (v : Value) (w x : World) (hr : BkO F bp w ts) (hn : ts.length < 100000) (hv : Sl w v page) (hp : page.length ≤ 1000000) (hT : Tabs x) (hC9 : CTabs x) (hxw : Below x.heap.size x w) (hF : ∀ k, F k → x.heap.size ≤ k) :
 Calls Tryz.prog 73 #[bp, .agg (u8s key).toArray, .int .u32 (V ep), .int .i64 place, .int .i64 block, v] w (HideEnd F bp w (hideR key ep place block page).1 (hideR key ep place block page).2.1 (hideR key ep place block page).2.2 (if (hideR key ep place block page).2.2 = 0 then ts ++ [(hideR key ep place block page).1] else ts)) := by
 have sl := fun wx (h : Below w.heap.size w wx) => pseal_any key lk ep block hbk page v wx (hv.below h) (by omega) (hC9.below (hxw.trans (h.mono hxw.size)) (Nat.le_refl _))
 have pl := fun wx => pisPlace_any place wx
 have flt := hr.lt
 obtain ⟨C, hC⟩ : ∃ C, C = (u8s key).toArray := ⟨_, rfl⟩
 have cs : C.size = 32 := by rw [hC]; simp [u8s_length, lk]
 rw [← hC] at sl ⊢
 obtain ⟨Z, hZ⟩ : ∃ Z, Z = refC zref := ⟨_, rfl⟩
 have zs : Z.size = 34 := by rw [hZ]; exact refC_size zref_wf
 have zo : Z.all (·.oneCell') = true := by rw [hZ]; exact refC_one _
 have hx : ∀ w, (zeroValue 69).run Tryz.prog w = .ok (.agg Z) w := by rw [hZ]; exact zeroRfP
 have bn : ∀ w, (Instr.build 69 #[]).run Tryz.prog w = .ok (.agg Z) w := by rw [hZ]; exact buildPf0
 have ak := (at_new w C 61).alloc (.cells Z 69)
 have az : At ((w.alloc (.cells C 61)).alloc (.cells Z 69)) (w.heap.size + 1) Z 69 := by
  have h := at_new (w.alloc (.cells C 61)) Z 69
  simpa using h
 have bz : Below w.heap.size w ((w.alloc (.cells C 61)).alloc (.cells Z 69)) := ((Below.refl _ _).alloc (Nat.le_refl _) _).alloc (by simp) _
 have wz : ((w.alloc (.cells C 61)).alloc (.cells Z 69)).heap.size = w.heap.size + 2 := by simp
 have BAD : Hid (∀ w' : World, Below w.heap.size w w' → HideEnd F bp w [] zref 1 ts (.returned (.tuple #[.slice none 0 0, .agg Z, .int .i64 1])) w') := zh fun w' hb => ⟨_, F, by rw [hZ], slB_nil _ _, hr.below hb, fun k hk => .inl hk, Chg.of_below hb⟩
 by_cases hpl : place < 0 ∨ 1 < place
 ·have e1 : hideR key ep place block page = ([], zref, 1) := by simp [hideR, hpl]
  rw [e1]
  have e2 : decide (place < 0 ∨ 1 < place) = true := by simp [hpl]
  rw [e2] at pl
  have PL := zh pl; have ZS := zh zs; have ZO := zh zo; have BN := zh bn; have AZ := zh az; have BZ := zh bz
  clear sl pl cs zs zo bn ak az bz wz hC hZ hpl e1 e2 hr hn hv hp hT hC9 hxw hF lk flt hbk
  show Calls _ _ _ _ (HideEnd F bp w [] zref 1 (if (1 : Int) = 0 then _ else ts))
  rw [if_neg (by decide)]
  go_enter Tryz.func73, Tryz.ntmps73
  go_upto_region 1 with fail
  clear hx
  generalize (w.alloc (.cells C 61)).alloc (.cells Z 69) = w1 at *
  go_wp2_with fail
  refine (PL.out _).mono ?_
  rintro e w2 ⟨rfl, hb2⟩
  have AZ2 := zh (AZ.out.below hb2 AZ.out.lt); have B2 := zh (BZ.out.trans (hb2.mono BZ.out.size))
  clear hb2 AZ BZ PL
  go_wp2_with (first
   | (refine Mem.wpList_build zr 69 _ #[] (.agg Z) zr (by simp) BN.out ?_)
   | (refine wpList_store_all zr 69 _ _ zr zr (w.heap.size + 1) Z zr zr (by rw [ZS.out]; exact infoRfP) Z 69 AZ2.out zr ZO.out ?_))
  try simp only [Exit.inBlock, Exit.then]
  refine ret_tmp_row_tmp zr (w.heap.size + 1) 69 Z _ (.slice none 0 0) (.int .i64 1) zr zr zr (AZ2.out.row Z) Tryz.underlying69 zr (by rw [ZS.out]; exact infoRfP) ?_
  exact BAD.out _ (below_row B2.out (Nat.le_succ _) Z)
 ·have e2 : decide (place < 0 ∨ 1 < place) = false := by simp [hpl]
  rw [e2] at pl
  by_cases hb : sealBad block page = true
  ·have e1 : hideR key ep place block page = ([], zref, 1) := by simp [hideR, hb]
   have e3 : sealR key ep block page = ([], 1) := by simp [sealR, hb]
   rw [e3] at sl
   rw [e1]
   have PL := zh pl; have SL := zh sl; have CS := zh cs; have ZS := zh zs; have ZO := zh zo; have BN := zh bn; have AK := zh ak; have AZ := zh az; have BZ := zh bz
   clear sl pl cs zs zo bn ak az bz wz hC hZ hpl e1 e2 e3 hb hr hn hv hp hT hC9 hxw hF lk flt hbk
   show Calls _ _ _ _ (HideEnd F bp w [] zref 1 (if (1 : Int) = 0 then _ else ts))
   rw [if_neg (by decide)]
   go_enter Tryz.func73, Tryz.ntmps73
   go_upto_region 1 with fail
   clear hx
   generalize (w.alloc (.cells C 61)).alloc (.cells Z 69) = w1 at *
   go_wp2_with fail
   refine (PL.out _).mono ?_
   rintro e w2 ⟨rfl, hb2⟩
   have AK2 := zh (AK.out.below hb2 AK.out.lt); have AZ2 := zh (AZ.out.below hb2 AZ.out.lt); have B2 := zh (BZ.out.trans (hb2.mono BZ.out.size))
   clear hb2 AZ AK BZ PL
   go_wp2_with (refine wpList_load_all zr 61 _ zr w.heap.size zr _ Tryz.underlying61 zr C _ AK2.out (by rw [CS.out]; exact infoDg) ?_)
   refine (SL.out w2 B2.out).mono ?_
   rintro e w3 ⟨v3, rfl, _, hb3⟩
   have AZ3 := zh (AZ2.out.below hb3 AZ2.out.lt); have B3 := zh (B2.out.trans (hb3.mono B2.out.size))
   clear hb3 AZ2 AK2 B2 SL
   go_wp2_with (first
    | (refine Mem.wpList_build zr 69 _ #[] (.agg Z) zr (by simp) BN.out ?_)
    | (refine wpList_store_all zr 69 _ _ zr zr (w.heap.size + 1) Z zr zr (by rw [ZS.out]; exact infoRfP) Z 69 AZ3.out zr ZO.out ?_))
   try simp only [Exit.inBlock, Exit.then]
   refine ret_tmp_row_tmp zr (w.heap.size + 1) 69 Z _ (.slice none 0 0) (.int .i64 1) zr zr zr (AZ3.out.row Z) Tryz.underlying69 zr (by rw [ZS.out]; exact infoRfP) ?_
   exact BAD.out _ (below_row B3.out (Nat.le_succ _) Z)
  ·clear BAD bn
   have e3 : sealR key ep block page = (sealL key ep block page, 0) := by simp [sealR, hb]
   rw [e3] at sl
   obtain ⟨L, hL⟩ : ∃ L, L = sealL key ep block page := ⟨_, rfl⟩
   rw [← hL] at sl
   have e1 : hideR key ep place block page = (L, ⟨place, ep, digestOf L⟩, 0) := by simp [hideR, hb, hpl, hL]
   rw [e1]
   have hln : L.length = 256 := by rw [hL, sealL_length]; simp [sealBad] at hb; omega
   have dg := fun (wx : World) (vx : Value) (h : Below w.heap.size w wx) (hs : SlB (fun k => w.heap.size ≤ k) wx vx L) => pdig_any L vx wx x (hr.below h) hn hs (fun k hk hf => by have := flt k hf; omega) (by omega) hT (hxw.trans (h.mono hxw.size)) hF
   obtain ⟨D, hD⟩ : ∃ D, D = (u8s (digestOf L)).toArray := ⟨_, rfl⟩
   have b3 : ∀ wx, (Instr.build 69 #[(0, .int .i64 place), (1, .int .u32 (V ep)), (2, .agg D)]).run Tryz.prog wx = .ok (.agg (refC ⟨place, ep, digestOf L⟩)) wx := fun wx => by rw [hD]; exact buildPf3 place ep (digestOf L) (digestOf_length _) wx
   rw [← hD] at dg
   obtain ⟨M, hM⟩ : ∃ M, M = refC ⟨place, ep, digestOf L⟩ := ⟨_, rfl⟩
   have ms : M.size = 34 := by rw [hM]; exact refC_size (wf_dig place ep L (by omega) (by omega))
   have mo : M.all (·.oneCell') = true := by rw [hM]; exact refC_one _
   rw [← hM] at b3
   have PL := zh pl; have SL := zh sl; have DG := zh dg; have B3 := zh b3; have HM := zh hM; have MS := zh ms; have MO := zh mo; have CS := zh cs; have ZS := zh zs; have AK := zh ak; have AZ := zh az; have BZ := zh bz; have WZ := zh wz; have FLT := zh flt; have LN := zh hln
   clear sl pl dg b3 hM ms mo cs zs zo ak az bz wz hC hZ hpl e1 e2 e3 hb hr hn hv hp hT hC9 hxw hF lk flt hD hln hbk hL
   show Calls _ _ _ _ (HideEnd F bp w L ⟨place, ep, digestOf L⟩ 0 (if (0 : Int) = 0 then ts ++ [L] else ts))
   rw [if_pos rfl]
   go_enter Tryz.func73, Tryz.ntmps73
   go_upto_region 1 with fail
   clear hx
   generalize (w.alloc (.cells C 61)).alloc (.cells Z 69) = w1 at *
   go_wp2_with fail
   refine (PL.out _).mono ?_
   rintro e w2 ⟨rfl, hb2⟩
   have AK2 := zh (AK.out.below hb2 AK.out.lt); have AZ2 := zh (AZ.out.below hb2 AZ.out.lt); have B2 := zh (BZ.out.trans (hb2.mono BZ.out.size)); have W2 : Hid (w.heap.size + 2 ≤ w2.heap.size) := zh (by rw [← WZ.out]; exact hb2.size)
   clear hb2 AZ AK BZ PL WZ
   go_wp2_with (refine wpList_load_all zr 61 _ zr w.heap.size zr _ Tryz.underlying61 zr C _ AK2.out (by rw [CS.out]; exact infoDg) ?_)
   refine (SL.out w2 B2.out).mono ?_
   rintro e w3 ⟨v3, rfl, hs3, hb3⟩
   have AZ3 := zh (AZ2.out.below hb3 AZ2.out.lt); have B4 := zh (B2.out.trans (hb3.mono B2.out.size)); have S3 : Hid (SlB (fun k => w.heap.size + 1 < k) w3 v3 L) := zh (hs3.mono fun k hk _ => by have := W2.out; omega); have W3 : Hid (w.heap.size + 2 ≤ w3.heap.size) := zh (Nat.le_trans W2.out hb3.size)
   clear hb3 hs3 AZ2 AK2 B2 SL W2
   go_wp2_with fail
   refine (DG.out w3 v3 B4.out (S3.out.mono fun k hk _ => by omega)).mono ?_
   rintro e w4 ⟨rfl, hk4⟩
   have AZ4 := zh (AZ3.out.chg hk4.2 fun hf => by have := FLT.out _ hf; omega)
   have HE := zh (hide_end FLT.out B4.out (Nat.le_succ _) (by have := W3.out; omega) S3.out hk4 M)
   clear hk4 AZ3 B4 S3 W3 DG
   go_wp2_with (first
    | (refine Mem.wpList_build zr 69 _ #[(0, .int .i64 place), (1, .int .u32 (V ep)), (2, .agg D)] (.agg M) zr (by simp [Act.eval]) B3.out ?_)
    | (refine wpList_store_all zr 69 _ _ zr zr (w.heap.size + 1) M zr zr (by rw [MS.out]; exact infoRfP) Z 69 AZ4.out (by rw [ZS.out, MS.out]) MO.out ?_))
   try simp only [Exit.inBlock, Exit.then]
   refine ret_tmp_row_tmp zr (w.heap.size + 1) 69 M _ v3 (.int .i64 0) zr zr zr (AZ4.out.row M) Tryz.underlying69 zr (by rw [MS.out]; exact infoRfP) ?_
   obtain ⟨F', h1, h2, h3, h4⟩ := HE.out
   exact ⟨_, F', by rw [HM.out], h1, h2, h3, h4⟩
end Sha
end Go.Proofs.YtahcjnganedbiaaGreatDoor
namespace Go.Proofs.YtahcjnganedbiaaGreatDoor
namespace Sha
open Go.RowKit Mem
set_option maxRecDepth 100000
theorem chg_none {w w' : World} (h : Chg (fun _ => False) w w') : Below w.heap.size w w' := h.below (Below.refl _ _) (fun _ h => h.elim) (Nat.le_refl _)
def ptRow (q : Nat) (v : Value) : Array Value := #[.int .i64 (q : Int), v]
theorem lput_at {G : Foot} {w : World} {a : Option Addr} {cap n : Nat} {l : List (Nat × List (BitVec 8))} (h : WPut G w (.slice a n cap) l) {j : Nat} (hj : j < l.length) :
 ∃ b o vh, a = some ⟨b, o, none⟩ ∧ G b ∧ w.cell? ⟨b, o + j * 2, none⟩ = some (.int .i64 (((l.getD j (0, [])).1 : Nat) : Int)) ∧ w.cell? ⟨b, o + j * 2 + 1, none⟩ = some vh ∧ SlB G w vh (l.getD j (0, [])).2 := by
 obtain ⟨ws, he, hl, a', cap', e, hc, hr⟩ := h
 injection e with e1 e2 _
 obtain ⟨b, o, ea, hG, _, hcell⟩ := hr (by omega)
 obtain ⟨p, hp, hp1, hp2⟩ := he.at (List.getElem?_eq_getElem hj)
 have h2 := putC_at ws j p hp
 have hd : l.getD j (0, []) = l[j] := by rw [List.getD_eq_getElem?_getD, List.getElem?_eq_getElem hj]; rfl
 refine ⟨b, o, p.2, by rw [e1]; exact ea, hG, ?_, ?_, by rw [hd]; exact hp2⟩
 ·rw [hd, ← hp1, Nat.mul_comm]; exact hcell _ _ h2.1
 ·have := hcell _ _ h2.2
  rw [Nat.add_assoc, Nat.mul_comm]; exact this
end Sha
end Go.Proofs.YtahcjnganedbiaaGreatDoor
namespace Go.Proofs.YtahcjnganedbiaaGreatDoor
namespace Sha
open Go.RowKit Mem
def chVs : List (Int × Value) → List Value
 | [] => []
 | p :: l => .int .i64 p.1 :: p.2 :: chVs l
theorem chVs_snoc (p : Int × Value) : ∀ l, chVs (l ++ [p]) = chVs l ++ [.int .i64 p.1, p.2]
 | [] => rfl
 | _ :: l => by simp [chVs, chVs_snoc p l]
theorem chVs_at : ∀ (l : List (Int × Value)) (i : Nat) (p : Int × Value), l[i]? = some p → (chVs l)[i * 2]? = some (.int .i64 p.1) ∧ (chVs l)[i * 2 + 1]? = some p.2
 | q :: l, 0, p, h => by
  have hq : q = p := by simpa using h
  subst hq
  exact ⟨rfl, rfl⟩
 | q :: l, i + 1, p, h => by
  have h' : l[i]? = some p := by simpa using h
  have ih := chVs_at l i p h'
  have e : chVs (q :: l) = .int .i64 q.1 :: q.2 :: chVs l := rfl
  rw [e, show (i + 1) * 2 = i * 2 + 1 + 1 by omega, show i * 2 + 1 + 1 + 1 = (i * 2 + 1) + 1 + 1 by omega]
  simpa using ih
structure ElseT {β : Type} (T : Foot → World → Value → β → Prop) : Prop where
 keep : ∀ D w w' u x, T D w u x → w.heap.size ≤ w'.heap.size → (∀ k, D k → k < w.heap.size → w'.heap[k]? = w.heap[k]?) → T D w' u x
 mono : ∀ D E w u x, T D w u x → (∀ k, D k → k < w.heap.size → E k) → T E w u x
theorem elseB : ElseT (fun D w u (x : List (BitVec 8)) => SlB D w u x) := ⟨fun _ _ _ _ _ h a b => h.keep a b, fun _ _ _ _ _ h a => h.mono a⟩
theorem elseR : ElseT (fun D w u (L : List RefV) => SlR D w 34 u L.length (refCs L)) := ⟨fun _ _ _ _ _ h a b => SlR.keep h a b, fun _ _ _ _ _ h a => SlR.mono h a⟩
structure OwnL {β : Type} (T : Foot → World → Value → β → Prop) (w : World) (B : Nat) (t : TypeId) (v : Value) (D : Foot) (ws : List (Int × Value)) (xs : List (Int × β)) : Prop where
 e : Each2 (fun (q : Int × Value) (c : Int × β) => q.1 = c.1 ∧ T D w q.2 c.2) ws xs
 o : w.ownsRow B t 2 v xs.length (chVs ws)
 d : ∀ k, D k → k < w.heap.size ∧ v.ownBlock ≠ some k
section
variable {β : Type} {T : Foot → World → Value → β → Prop} {w w' w3 w5 : World} {B : Nat} {t : TypeId} {v v' u : Value} {D G : Foot} {ws : List (Int × Value)} {xs : List (Int × β)} {x : β} {z : Int}
theorem ownL_nil (w : World) (B : Nat) (t : TypeId) : OwnL T w B t (.slice none 0 0) (fun _ => False) [] [] := ⟨trivial, World.ownsRow_nil _ _ _ _, fun _ h => h.elim⟩
theorem OwnL.below (h : OwnL T w B t v D ws xs) (E : ElseT T) (hb : Below w.heap.size w w') : OwnL T w' B t v D ws xs :=
 ⟨h.e.mono fun _ _ a => ⟨a.1, E.keep _ _ _ _ _ a.2 hb.size fun k _ hl => hb.block k hl⟩, ownsRow_below h.o hb, fun k hk => ⟨Nat.lt_of_lt_of_le (h.d k hk).1 hb.size, (h.d k hk).2⟩⟩
theorem OwnL.add (h : OwnL T w B t v D ws xs) (E : ElseT T) (hs : T G w u x) (hG : ∀ k, G k → k < w.heap.size ∧ v.ownBlock ≠ some k) (hb : Below w.heap.size w w3) (ha : App w3 w5 v v') (ho : w5.ownsRow B t 2 v' (xs.length + 1) (chVs ws ++ [.int .i64 z, u])) :
 OwnL T w5 B t v' (fun k => D k ∨ G k) (ws ++ [(z, u)]) (xs ++ [(z, x)]) := by
 have s1 := hb.size; have s2 := ha.size
 have keep : ∀ k, k < w.heap.size → v.ownBlock ≠ some k → w5.heap[k]? = w.heap[k]? := fun k hl hn => by rw [ha.k k (by omega) hn, hb.block k hl]
 have hh : ∀ k, (D k ∨ G k) → k < w.heap.size ∧ v.ownBlock ≠ some k := fun k hk => hk.elim (h.d k) (hG k)
 refine ⟨Each2.snoc ⟨rfl, E.mono _ _ _ _ _ (E.keep _ _ _ _ _ hs (by omega) fun k hk hl => keep k hl (hG k hk).2) fun k hk _ => .inr hk⟩ (h.e.mono fun _ _ a => ⟨a.1, E.mono _ _ _ _ _ (E.keep _ _ _ _ _ a.2 (by omega) fun k hk hl => keep k hl (h.d k hk).2) fun k hk _ => .inl hk⟩), ?_, fun k hk => ?_⟩
 ·rw [chVs_snoc, List.length_append]; exact ho
 ·obtain ⟨a, b⟩ := hh k hk
  refine ⟨by omega, ?_⟩
  rcases ha.b with e | ⟨g, e, hge⟩
  ·rw [e]; exact b
  ·rw [e]; intro c; injection c with c; omega
theorem OwnL.cells (h : OwnL T w B t v D ws xs) : ∃ a cap, v = .slice a xs.length cap ∧ (xs ≠ [] → ∃ b o, a = some ⟨b, o, none⟩ ∧ b < w.heap.size ∧ ∀ (i : Nat) (c : Int × β), xs[i]? = some c → w.cell? ⟨b, o + i * 2, none⟩ = some (.int .i64 c.1) ∧ ∃ u, w.cell? ⟨b, o + i * 2 + 1, none⟩ = some u ∧ T D w u c.2) := by
 obtain ⟨_, a, cap, e, _, hc⟩ := ownsRow_slR h.o
 refine ⟨a, cap, e, fun hne => ?_⟩
 obtain ⟨bb, oo, ea, _, hlt, hcell⟩ := hc (fun h => hne (List.eq_nil_of_length_eq_zero h))
 refine ⟨bb, oo, ea, hlt, fun i c hi => ?_⟩
 obtain ⟨q, hq, h1, h2⟩ := h.e.at hi
 obtain ⟨g1, g2⟩ := chVs_at ws i q hq
 refine ⟨by rw [← h1]; exact hcell _ _ g1, q.2, ?_, h2⟩
 rw [Nat.add_assoc]
 exact hcell _ _ g2
end
theorem own_chs {w : World} {B : Nat} {t : TypeId} {v : Value} {D : Foot} {ws : List (Int × Value)} {C : List ChV} (h : OwnL (fun D w u (x : List (BitVec 8)) => SlB D w u x) w B t v D ws C) : SlCh w v C := by
 obtain ⟨a, cap, e, hc⟩ := h.cells
 refine ⟨a, cap, e, fun hne => ?_⟩
 obtain ⟨b, o, ea, hlt, hh⟩ := hc hne
 refine ⟨b, o, ea, hlt, fun i hi => ?_⟩
 obtain ⟨c0, u, c1, hu⟩ := hh i (C.getD i zch) (by rw [List.getD_eq_getElem?_getD, List.getElem?_eq_getElem hi]; rfl)
 exact ⟨c0, u, c1, hu.sl⟩
theorem slR_slrf {D : Foot} {w : World} {v : Value} {L : List RefV} (h : SlR D w 34 v L.length (refCs L)) (hw : ∀ r ∈ L, r.Wf) : SlRf w v L := by
 obtain ⟨_, a, cap, e, _, hc⟩ := h
 refine ⟨a, cap, e, fun hne => ?_⟩
 obtain ⟨b, o, ea, _, hlt, hcell⟩ := hc (fun h => hne (List.eq_nil_of_length_eq_zero h))
 refine ⟨b, o, ea, hlt, fun i hi j u hu => ?_⟩
 have hj : j < 34 := by
  have := (List.getElem?_eq_some_iff.1 hu).1
  rwa [refL_length (getD_wf hw i)] at this
 rw [Nat.add_assoc]
 exact hcell (i * 34 + j) u (by rw [refCs_get L hw i j hi hj]; exact hu)
theorem own_nds {w : World} {B : Nat} {t : TypeId} {v : Value} {D : Foot} {ws : List (Int × Value)} {N : List NdV} (h : OwnL (fun D w u (L : List RefV) => SlR D w 34 u L.length (refCs L)) w B t v D ws N) (hw : ∀ n ∈ N, ∀ r ∈ n.2, r.Wf) : SlNd w v N := by
 obtain ⟨a, cap, e, hc⟩ := h.cells
 refine ⟨a, cap, e, fun hne => ?_⟩
 obtain ⟨b, o, ea, hlt, hh⟩ := hc hne
 refine ⟨b, o, ea, hlt, fun i hi => ?_⟩
 obtain ⟨c0, u, c1, hu⟩ := hh i (N.getD i znd) (by rw [List.getD_eq_getElem?_getD, List.getElem?_eq_getElem hi]; rfl)
 exact ⟨c0, u, c1, slR_slrf hu (hw _ (by rw [List.getD_eq_getElem?_getD, List.getElem?_eq_getElem hi]; exact List.getElem_mem hi))⟩
theorem Sl.slB {w : World} {v : Value} {l : List (BitVec 8)} (h : Sl w v l) : SlB (fun k => k < w.heap.size) w v l := by
 obtain ⟨a, cap, e, hc, hr⟩ := h
 refine ⟨by simp [u8s_length], a, cap, e, hc, fun hne => ?_⟩
 obtain ⟨b, o, ea, hlt, hcell⟩ := hr (fun h => hne (by rw [h]; rfl))
 refine ⟨b, o, ea, hlt, hlt, fun j u hu => ?_⟩
 have hj : j < l.length := by have := (List.getElem?_eq_some_iff.1 hu).1; rwa [u8s_length] at this
 rw [u8s_get l j hj] at hu
 injection hu with hu
 rw [← hu]
 exact hcell j hj
end Sha
end Go.Proofs.YtahcjnganedbiaaGreatDoor
namespace Go.Proofs.YtahcjnganedbiaaGreatDoor
namespace Sha
open Go.ChangeShapes Go.WideShapes Go.ChangeAt Go.WideMaps Go.WideElems Go.RowKit Mem
set_option maxRecDepth 100000
theorem cRfs : Tryz.prog.cellsOf 47 = 1 := by kernel_rfl
theorem open_refs_in {H : Type} {enc : TypeId × Value → H} {W : World} {n : Nat} {v : Value} {y : DataW H × List MemPlace} (hf : DataW.trod enc Tryz.prog W 0 (fun _ => true) true n 47 [v] = some y) :
 ∃ L : List RefV, SlRf W v L ∧ ∀ r ∈ L, r.Wf := by
 rcases DataW.trod_slice Tryz.underlying47 hf with ⟨hcs, _⟩ | ⟨a, len0, cap0, elems, rest, n, _, hcs, _, hb, hl, hm, hlen, hel, _, _⟩
 ·simp at hcs
  subst hcs
  exact ⟨[], SlRf.nil _, by simp⟩
 ·simp at hcs
  subst hcs
  rw [show Tryz.prog.cellsOf 64 = 34 by kernel_rfl] at hel
  have each : ∀ i, i < len0 → ∃ x : RefV, x.Wf ∧ ∀ j, j < 34 → W.cell? ((a.add (i * 34)).add j) = (refL x)[j]? := fun i hi => by
   have h1 := hel i hi
   rw [List.getElem?_eq_getElem (by omega), Option.bind_eq_some_iff] at h1
   obtain ⟨cs', hc, hy⟩ := h1
   obtain ⟨x, hx, rfl⟩ := ref_of hy
   refine ⟨x, hx, fun j hj => ?_⟩
   have h2 := (World.cells?_some hc).2.2 j hj
   simpa using h2
  haveI : Inhabited RefV := ⟨zref⟩
  obtain ⟨f, hff⟩ := Deep.choose_lt each
  have hL : ((List.range len0).map f).length = len0 := by simp
  have hg : ∀ i, i < len0 → ((List.range len0).map f).getD i zref = f i := fun i hi => by simp [List.getD_eq_getElem?_getD, hi]
  refine ⟨(List.range len0).map f, ⟨some a, cap0, by rw [hL], fun hne => ?_⟩, fun r hr => ?_⟩
  ·have h0 : 0 < len0 := by rw [← hL]; exact List.length_pos_iff.2 hne
   have hc := (hff 0 h0).2 0 (by decide)
   have e0 : (refL (f 0))[0]? = some (.int .i64 (f 0).pl) := rfl
   rw [e0] at hc
   obtain ⟨bb, oo, q⟩ := a
   have hq : q = none := by
    have := World.cell?_spot hc
    simpa [Addr.add] using this
   subst hq
   refine ⟨bb, oo, rfl, ?_, fun i hi j u hu => ?_⟩
   ·rw [Addr.add_mid, Addr.add_mid] at hc
    exact block_lt_of_cell hc
   ·rw [hL] at hi
    rw [hg i hi] at hu
    have hj : j < 34 := by
     have := (List.getElem?_eq_some_iff.1 hu).1
     rwa [refL_length (hff i hi).1] at this
    have h3 := (hff i hi).2 j hj
    rw [Addr.add_mid, Addr.add_mid, hu] at h3
    exact h3
  ·obtain ⟨i, hi, rfl⟩ := List.mem_map.1 hr
   exact (hff i (List.mem_range.1 hi)).1
theorem nd_of {H : Type} {enc : TypeId × Value → H} {W : World} {n : Nat} {cs : List Value} {y : DataW H × List MemPlace} (hf : DataW.trod enc Tryz.prog W 0 (fun _ => true) true n 54 cs = some y) : ∃ (x : NdV) (u : Value), cs = [.int .i64 x.1, u] ∧ SlRf W u x.2 ∧ ∀ r ∈ x.2, r.Wf := by
 obtain ⟨_, _, _, _, hl, _, _⟩ := DataW.trod_struct Tryz.underlying54 hf
 rw [show Tryz.prog.cellsOf 54 = 2 by kernel_rfl] at hl
 obtain ⟨y0, y1, m, _, _, h0, h1⟩ := trod_struct2 Tryz.underlying54 hf
 simp only at h0 h1
 rw [show Tryz.prog.cellsOf 3 = 1 by kernel_rfl] at h0
 rw [cRfs] at h1
 obtain ⟨a, b, rfl⟩ : ∃ a b, cs = [a, b] := match cs, hl with | [a, b], _ => ⟨a, b, rfl⟩
 obtain ⟨z0, e0, _, _⟩ := DataW.trod_int Tryz.underlying3 h0
 simp at e0
 obtain ⟨L, hL, hw⟩ := open_refs_in h1
 exact ⟨(z0, L), b, by rw [e0], hL, hw⟩
theorem ch_of {H : Type} {enc : TypeId × Value → H} {W : World} {n : Nat} {cs : List Value} {y : DataW H × List MemPlace} (hf : DataW.trod enc Tryz.prog W 0 (fun _ => true) true n 38 cs = some y) : ∃ (x : ChV) (u : Value), cs = [.int .i64 x.1, u] ∧ Sl W u x.2 := by
 obtain ⟨_, _, _, _, hl, _, _⟩ := DataW.trod_struct Tryz.underlying38 hf
 rw [show Tryz.prog.cellsOf 38 = 2 by kernel_rfl] at hl
 obtain ⟨y0, y1, m, _, _, h0, h1⟩ := trod_struct2 Tryz.underlying38 hf
 simp only at h0 h1
 rw [show Tryz.prog.cellsOf 3 = 1 by kernel_rfl] at h0
 rw [cS] at h1
 obtain ⟨a, b, rfl⟩ : ∃ a b, cs = [a, b] := match cs, hl with | [a, b], _ => ⟨a, b, rfl⟩
 obtain ⟨z0, e0, _, _⟩ := DataW.trod_int Tryz.underlying3 h0
 simp at e0
 obtain ⟨l, hl2, _⟩ := open_sl_in h1
 exact ⟨(z0, l), b, by rw [e0], hl2⟩
theorem open_nds {H : Type} {enc : TypeId × Value → H} {W : World} {base : Nat} {v : Value} {d : DataW H} {p : List MemPlace} (hval : Value.okWide Tryz.prog W .any base 22 v) (h : DataW.Trod enc Tryz.prog W 0 (fun _ => true) true 22 v d p) :
 ∃ N : List NdV, SlNd W v N ∧ ∀ n ∈ N, ∀ r ∈ n.2, r.Wf := by
 obtain ⟨a0, len0, cap0, rfl⟩ := okWide_slice Tryz.underlying22 hval
 obtain ⟨fuel, hf⟩ := h
 rcases DataW.trod_slice Tryz.underlying22 hf with ⟨hcs, _⟩ | ⟨a, len, cap, elems, rest, n, _, hcs, _, hb, hl, hm, hlen, hel, _, _⟩
 ·simp [Value.cells] at hcs
  obtain ⟨rfl, rfl, rfl⟩ := hcs
  exact ⟨[], SlNd.nil _ _, by simp⟩
 ·simp [Value.cells] at hcs
  obtain ⟨rfl, rfl, rfl⟩ := hcs
  rw [show Tryz.prog.cellsOf 54 = 2 by kernel_rfl] at hel
  have each : ∀ i, i < len0 → ∃ x : NdV, (∀ r ∈ x.2, r.Wf) ∧ ∃ u, SlRf W u x.2 ∧ W.cell? (a.add (i * 2)) = some (.int .i64 x.1) ∧ W.cell? ((a.add (i * 2)).add 1) = some u := fun i hi => by
   have h1 := hel i hi
   rw [List.getElem?_eq_getElem (by omega), Option.bind_eq_some_iff] at h1
   obtain ⟨cs', hc, hy⟩ := h1
   obtain ⟨x, u, rfl, hs, hw⟩ := nd_of hy
   have h2 := (World.cells?_some hc).2.2
   refine ⟨x, hw, u, hs, ?_, ?_⟩
   ·have := h2 0 (by decide); simpa [Addr.add] using this
   ·have := h2 1 (by decide); simpa using this
  haveI : Inhabited NdV := ⟨znd⟩
  obtain ⟨f, hff⟩ := Deep.choose_lt each
  have hL : ((List.range len0).map f).length = len0 := by simp
  have hg : ∀ i, i < len0 → ((List.range len0).map f).getD i znd = f i := fun i hi => by simp [List.getD_eq_getElem?_getD, hi]
  refine ⟨(List.range len0).map f, ⟨some a, cap0, by rw [hL], fun hne => ?_⟩, fun x hx => ?_⟩
  ·have h0 : 0 < len0 := by rw [← hL]; exact List.length_pos_iff.2 hne
   obtain ⟨_, _, _, hc, _⟩ := hff 0 h0
   obtain ⟨bb, oo, q⟩ := a
   have hq : q = none := by
    have := World.cell?_spot hc
    simpa [Addr.add] using this
   subst hq
   refine ⟨bb, oo, rfl, ?_, fun i hi => ?_⟩
   ·rw [Addr.add_mid] at hc
    exact block_lt_of_cell hc
   ·rw [hL] at hi
    rw [hg i hi]
    obtain ⟨_, u, hs, c0, c1⟩ := hff i hi
    rw [Addr.add_mid] at c0
    rw [Addr.add_mid, Addr.add_mid] at c1
    exact ⟨c0, u, c1, hs⟩
  ·obtain ⟨i, hi, rfl⟩ := List.mem_map.1 hx
   exact (hff i (List.mem_range.1 hi)).1
theorem open_chs {H : Type} {enc : TypeId × Value → H} {W : World} {base : Nat} {v : Value} {d : DataW H} {p : List MemPlace} (hval : Value.okWide Tryz.prog W .any base 23 v) (h : DataW.Trod enc Tryz.prog W 0 (fun _ => true) true 23 v d p) :
 ∃ C : List ChV, SlCh W v C := by
 obtain ⟨a0, len0, cap0, rfl⟩ := okWide_slice Tryz.underlying23 hval
 obtain ⟨fuel, hf⟩ := h
 rcases DataW.trod_slice Tryz.underlying23 hf with ⟨hcs, _⟩ | ⟨a, len, cap, elems, rest, n, _, hcs, _, hb, hl, hm, hlen, hel, _, _⟩
 ·simp [Value.cells] at hcs
  obtain ⟨rfl, rfl, rfl⟩ := hcs
  exact ⟨[], SlCh.nil _ _⟩
 ·simp [Value.cells] at hcs
  obtain ⟨rfl, rfl, rfl⟩ := hcs
  rw [show Tryz.prog.cellsOf 38 = 2 by kernel_rfl] at hel
  have each : ∀ i, i < len0 → ∃ x : ChV, ∃ u, Sl W u x.2 ∧ W.cell? (a.add (i * 2)) = some (.int .i64 x.1) ∧ W.cell? ((a.add (i * 2)).add 1) = some u := fun i hi => by
   have h1 := hel i hi
   rw [List.getElem?_eq_getElem (by omega), Option.bind_eq_some_iff] at h1
   obtain ⟨cs', hc, hy⟩ := h1
   obtain ⟨x, u, rfl, hs⟩ := ch_of hy
   have h2 := (World.cells?_some hc).2.2
   refine ⟨x, u, hs, ?_, ?_⟩
   ·have := h2 0 (by decide); simpa [Addr.add] using this
   ·have := h2 1 (by decide); simpa using this
  haveI : Inhabited ChV := ⟨zch⟩
  obtain ⟨f, hff⟩ := Deep.choose_lt each
  have hL : ((List.range len0).map f).length = len0 := by simp
  have hg : ∀ i, i < len0 → ((List.range len0).map f).getD i zch = f i := fun i hi => by simp [List.getD_eq_getElem?_getD, hi]
  refine ⟨(List.range len0).map f, ⟨some a, cap0, by rw [hL], fun hne => ?_⟩⟩
  have h0 : 0 < len0 := by rw [← hL]; exact List.length_pos_iff.2 hne
  obtain ⟨_, _, hc, _⟩ := hff 0 h0
  obtain ⟨bb, oo, q⟩ := a
  have hq : q = none := by
   have := World.cell?_spot hc
   simpa [Addr.add] using this
  subst hq
  refine ⟨bb, oo, rfl, ?_, fun i hi => ?_⟩
  ·rw [Addr.add_mid] at hc
   exact block_lt_of_cell hc
  ·rw [hL] at hi
   rw [hg i hi]
   obtain ⟨u, hs, c0, c1⟩ := hff i hi
   rw [Addr.add_mid] at c0
   rw [Addr.add_mid, Addr.add_mid] at c1
   exact ⟨c0, u, c1, hs⟩
theorem open_u8w {H : Type} {enc : TypeId × Value → H} {W : World} {base : Nat} {v : Value} {d : DataW H} {p : List MemPlace} (hval : Value.okWide Tryz.prog W .any base 5 v) (h : DataW.Trod enc Tryz.prog W 0 (fun _ => true) true 5 v d p) :
 ∃ b : Nat, v = .int .u8 (b : Int) ∧ b < 256 := by
 obtain ⟨c, rfl, _, _, wc⟩ := open_int Tryz.underlying5 hval h
 simp [Lit.wf, IntKind.min, IntKind.max, IntKind.signed, IntKind.bits] at wc
 exact ⟨c.toNat, by congr 1; omega, by omega⟩
end Sha
end Go.Proofs.YtahcjnganedbiaaGreatDoor
