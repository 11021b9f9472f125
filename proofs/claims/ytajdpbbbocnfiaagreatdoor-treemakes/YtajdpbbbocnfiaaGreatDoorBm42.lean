/- My own texts, merged. -/
import Derived.Test.YtajdpbbbocnfiaaGreatDoorBm40
import Derived.Lib.SlBytesConst
import Derived.Test.YtajdpbbbocnfiaaGreatDoorBm34
import Derived.Test.YtajdpbbbocnfiaaGreatDoorBm03
import Derived.Test.YtajdpbbbocnfiaaGreatDoorBm12
import Derived.Test.YtajdpbbbocnfiaaGreatDoorBm05
import Derived.Test.YtajdpbbbocnfiaaGreatDoorBm24
import Derived.Test.YtajdpbbbocnfiaaGreatDoorBm39
import Derived.Test.YtajdpbbbocnfiaaGreatDoorBm13
import Derived.Test.YtajdpbbbocnfiaaGreatDoorBm17
import Derived.Test.YtajdpbbbocnfiaaGreatDoorBm02
import Derived.Test.YtajdpbbbocnfiaaGreatDoorBm21
import Derived.Test.YtajdpbbbocnfiaaGreatDoorBm27
import Derived.Test.YtajdpbbbocnfiaaGreatDoorBm18
import Derived.Test.YtajdpbbbocnfiaaGreatDoorBm09
import Derived.Laws.OwnMore
namespace Go.Proofs.YtajdpbbbocnfiaaGreatDoor
namespace Sha
open Go.RowKit Mem
def K1 : List (BitVec 8) := 1 :: List.replicate 31 0
theorem build_K1 (w : World) : (Instr.build 22 #[(0, .int .u8 1)]).run Tryz.prog w = .ok (.agg (u8s K1).toArray) w := by kernel_rfl
theorem notBad (block : Int) (l : List (BitVec 8)) (h : l.length = 256) (hb : 0 ≤ block) : sealBad block l = false := by
 have h1 : ¬ block < 0 := by omega
 simp [sealBad, h, h1]
theorem hideR_good (key : List (BitVec 8)) (ep : BitVec 32) (place block : Int) (page : List (BitVec 8)) (h : page.length = 256) (hb : 0 ≤ block) (h0 : 0 ≤ place) (h1 : place ≤ 1) : hideR key ep place block page = (sealL key ep block page, ⟨place, ep, digestOf (sealL key ep block page)⟩, 0) := by
 have g : ¬ (place < 0 ∨ 1 < place) := by omega
 unfold hideR
 rw [notBad block page h hb, Bool.false_or, if_neg (by simpa using g)]
theorem openR_good (key : List (BitVec 8)) (r : RefV) (block : Int) (x : List (BitVec 8)) (h : x.length = 256) (hb : 0 ≤ block) (hd : digestOf x = r.dg) : openR key r block x = (sealL key r.ep block x, 0) := by
 unfold openR
 rw [notBad block x h hb, if_neg (by decide), if_neg (fun hn => hn hd)]
end Sha
end Go.Proofs.YtajdpbbbocnfiaaGreatDoor
namespace Go.Proofs.YtajdpbbbocnfiaaGreatDoor
namespace Sha
open Go.RowKit Mem
def kidR (p : Nat) (R : List RefV) (i : Nat) : List RefV := (R.drop (fst p i)).take (many p i)
def pageI (P : List (List (BitVec 8))) (R : List RefV) (i : Nat) : List (BitVec 8) := if i < P.length then P.getD i [] else (layN (kidR P.length R i)).1
def hidI (key : List (BitVec 8)) (ep : BitVec 32) (P : List (List (BitVec 8))) (R : List RefV) (i : Nat) : List (BitVec 8) × RefV × Int := hideR key ep 0 (2 + 2 * (i : Int)) (pageI P R i)
def itemsT (key : List (BitVec 8)) (ep : BitVec 32) (P : List (List (BitVec 8))) : Nat → List (List (BitVec 8) × RefV)
 | 0 => []
 | i + 1 => itemsT key ep P i ++ [((hidI key ep P ((itemsT key ep P i).map (·.2)) i).1, (hidI key ep P ((itemsT key ep P i).map (·.2)) i).2.1)]
def refsT (key : List (BitVec 8)) (ep : BitVec 32) (P : List (List (BitVec 8))) (n : Nat) : List RefV := (itemsT key ep P n).map (·.2)
def selT (key : List (BitVec 8)) (ep : BitVec 32) (P : List (List (BitVec 8))) (i : Nat) : List (BitVec 8) := (hidI key ep P (refsT key ep P i) i).1
def refT (key : List (BitVec 8)) (ep : BitVec 32) (P : List (List (BitVec 8))) (i : Nat) : RefV := (hidI key ep P (refsT key ep P i) i).2.1
def pgT (key : List (BitVec 8)) (ep : BitVec 32) (P : List (List (BitVec 8))) (i : Nat) : List (BitVec 8) := pageI P (refsT key ep P i) i
structure GoodP (P : List (List (BitVec 8))) : Prop where
 p0 : 1 ≤ P.length
 p1 : P.length ≤ 216
 len : ∀ x ∈ P, x.length = 256
section
variable (key : List (BitVec 8)) (ep : BitVec 32) (P : List (List (BitVec 8)))
theorem itemsT_length (n : Nat) : (itemsT key ep P n).length = n := by
 induction n with
 | zero => rfl
 | succ n ih => rw [itemsT, List.length_append, ih]; rfl
theorem refsT_length (n : Nat) : (refsT key ep P n).length = n := by rw [refsT, List.length_map, itemsT_length]
theorem refsT_succ (n : Nat) : refsT key ep P (n + 1) = refsT key ep P n ++ [refT key ep P n] := by
 rw [refsT, itemsT, List.map_append]; rfl
theorem refsT_get : ∀ (n i : Nat), i < n → (refsT key ep P n).getD i zref = refT key ep P i := by
 intro n
 induction n with
 | zero => intro i hi; omega
 | succ n ih =>
  intro i hi
  rw [refsT_succ]
  by_cases h : i < n
  ·rw [List.getD_eq_getElem?_getD, List.getElem?_append_left (by rw [refsT_length]; exact h), ← List.getD_eq_getElem?_getD]
   exact ih i h
  ·have e : i = n := by omega
   subst e
   rw [List.getD_eq_getElem?_getD, List.getElem?_append_right (by rw [refsT_length]; exact Nat.le_refl _), refsT_length, Nat.sub_self]
   rfl
theorem refsT_list (n : Nat) : refsT key ep P n = (List.range n).map (refT key ep P) := by
 induction n with
 | zero => rfl
 | succ n ih => rw [refsT_succ, ih, List.range_succ, List.map_append]; rfl
theorem kidR_length (p : Nat) (R : List RefV) (i : Nat) (h : fst p i + many p i ≤ R.length) : (kidR p R i).length = many p i := by
 unfold kidR
 rw [List.length_take, List.length_drop]
 omega
theorem kidR_get (p : Nat) (R : List RefV) (i t : Nat) (ht : t < many p i) : (kidR p R i).getD t zref = R.getD (fst p i + t) zref := by
 unfold kidR
 rw [List.getD_eq_getElem?_getD, List.getElem?_take, if_pos ht, List.getElem?_drop, ← List.getD_eq_getElem?_getD]
end
theorem node_kids (p i : Nat) (h0 : 1 ≤ p) (h1 : p ≤ 216) (hi : p ≤ i) (hit : i < itn p) : 1 ≤ many p i ∧ fst p i + many p i ≤ i := by
 have hl := lv_of p h0 h1
 have hk := fun j => kids_cond p i j h0 h1 hi hit
 have h6 := many_le p i
 constructor
 ·have h2 := lev_lo p i
  have h3 := lev_hi p i (Nat.lt_of_lt_of_le hit (itn_le p))
  have hge : 1 ≤ lev p i := by
   rcases Nat.eq_zero_or_pos (lev p i) with a | a
   ·rw [a, Nat.zero_add] at h3
    have : stn p 1 = p := rfl
    omega
   ·exact a
  have hle := lev_le p i
  unfold many fst
  obtain ⟨k, hk⟩ : ∃ k, lev p i = k + 1 := ⟨lev p i - 1, by omega⟩
  rw [hk] at h2 h3 ⊢
  have e1 := stn_lvn p k (by omega)
  have e2 := stn_lvn p (k + 1) (by omega)
  have e3 := lvn_cnt p k (by omega)
  have e4 := cnt_le (lvn p k)
  rw [Nat.add_sub_cancel]
  omega
 ·rcases Nat.eq_zero_or_pos (many p i) with a | a
  ·have h2 := lev_lo p i
   have h3 := lev_hi p i (Nat.lt_of_lt_of_le hit (itn_le p))
   exfalso
   have hge : 1 ≤ lev p i := by
    rcases Nat.eq_zero_or_pos (lev p i) with b | b
    ·rw [b, Nat.zero_add] at h3
     have : stn p 1 = p := rfl
     omega
    ·exact b
   have hle := lev_le p i
   unfold many fst at a
   obtain ⟨k, hk⟩ : ∃ k, lev p i = k + 1 := ⟨lev p i - 1, by omega⟩
   rw [hk] at h2 h3 a
   have e1 := stn_lvn p k (by omega)
   have e2 := stn_lvn p (k + 1) (by omega)
   have e3 := lvn_cnt p k (by omega)
   have e4 := cnt_le (lvn p k)
   rw [Nat.add_sub_cancel] at a
   omega
  ·have := ((hk (many p i - 1)).2 (by omega)).2.1
   omega
section
variable {key : List (BitVec 8)} {ep : BitVec 32} {P : List (List (BitVec 8))}
theorem refT_wf (i : Nat) : (refT key ep P i).Wf := hideR_wf _ _ _ _ _
theorem refT_pl (i : Nat) : (refT key ep P i).pl = 0 := by
 unfold refT hidI hideR
 split <;> rfl
theorem refsT_wf (n : Nat) : ∀ r ∈ refsT key ep P n, r.Wf := by
 intro r hr
 rw [refsT_list] at hr
 obtain ⟨i, _, rfl⟩ := List.mem_map.1 hr
 exact refT_wf i
theorem node_lay (hP : GoodP P) (i n : Nat) (hi : P.length ≤ i) (hit : i < itn P.length) (hn : i ≤ n) : (layN (kidR P.length (refsT key ep P n) i)).2 = 0 := by
 have h := node_kids P.length i hP.p0 hP.p1 hi hit
 have hl : (kidR P.length (refsT key ep P n) i).length = many P.length i := kidR_length _ _ _ (by rw [refsT_length]; omega)
 have h6 := many_le P.length i
 rw [layN_good (by omega) (by omega)]
 intro t ht
 rw [kidR_get _ _ _ _ (by omega), refsT_get key ep P n _ (by omega)]
 unfold plOk
 rw [refT_pl]
 rfl
theorem kidR_wf (p : Nat) {R : List RefV} (h : ∀ r ∈ R, r.Wf) (i : Nat) : ∀ r ∈ kidR p R i, r.Wf := fun r hr => h r (List.mem_of_mem_drop (List.mem_of_mem_take hr))
theorem pgT_length (hP : GoodP P) (i : Nat) (hit : i < itn P.length) : (pgT key ep P i).length = 256 := by
 unfold pgT pageI
 by_cases h : i < P.length
 ·rw [if_pos h, List.getD_eq_getElem?_getD, List.getElem?_eq_getElem h]
  exact hP.len _ (List.getElem_mem h)
 ·rw [if_neg h]
  exact layN_length (kidR_wf _ (refsT_wf i) i) (Prod.ext rfl (node_lay hP i i (by omega) hit (Nat.le_refl _)))
theorem hid_ok (hP : GoodP P) (i : Nat) (hit : i < itn P.length) : hidI key ep P (refsT key ep P i) i = (selT key ep P i, refT key ep P i, 0) ∧ selT key ep P i = sealL key ep (2 + 2 * (i : Int)) (pgT key ep P i) ∧ refT key ep P i = ⟨0, ep, digestOf (selT key ep P i)⟩ := by
 have hl := pgT_length (key := key) (ep := ep) hP i hit
 have h : hidI key ep P (refsT key ep P i) i = _ := hideR_good key ep 0 (2 + 2 * (i : Int)) (pgT key ep P i) hl (by omega) (by omega) (by omega)
 unfold selT refT
 rw [h]
 exact ⟨rfl, rfl, rfl⟩
theorem selT_length (hP : GoodP P) (i : Nat) (hit : i < itn P.length) : (selT key ep P i).length = 256 := by
 rw [(hid_ok hP i hit).2.1, sealL_length, pgT_length hP i hit]
theorem open_made (hP : GoodP P) (i : Nat) (hit : i < itn P.length) : openR key (refT key ep P i) (2 + 2 * (i : Int)) (selT key ep P i) = (pgT key ep P i, 0) := by
 obtain ⟨_, h2, h3⟩ := hid_ok (key := key) (ep := ep) hP i hit
 rw [openR_good key _ _ _ (selT_length hP i hit) (by omega) (by rw [h3])]
 have e : (refT key ep P i).ep = ep := by rw [h3]
 rw [e, h2, sealL_back]
end
def makeT (key : List (BitVec 8)) (ep : BitVec 32) (P : List (List (BitVec 8))) : List (Nat × List (BitVec 8)) × RefV × Int :=
 if 1 ≤ P.length ∧ P.length ≤ 216 ∧ (P.all fun x => x.length == 256) = true then ((List.range (itn P.length)).map fun i => (2 + 2 * i, selT key ep P i), refT key ep P (itn P.length - 1), 0) else ([], zref, 1)
def fetchT (B key : List (BitVec 8)) (p : Nat) (z : Int) (r : RefV) : List (BitVec 8) × Int :=
 if BZ p z r.pl < 0 ∨ (B.length : Int) < 256 * BZ p z r.pl + 256 then ([], 1) else openR key r (BZ p z r.pl) (blkOf B (BZ p z r.pl).toNat)
def kidsT (p : Nat) (z : Int) (page : List (BitVec 8)) : List RefV × Int := if (KZ p z).length = 0 then ([], 1) else parseN page ((KZ p z).length : Int)
def wayG (B key : List (BitVec 8)) (p : Nat) (root : RefV) (x : Nat) : Nat → List RefV × Int
 | 0 => ([root], 0)
 | k + 1 =>
  if (wayG B key p root x k).2 ≠ 0 then ([], (wayG B key p root x k).2)
  else if (fetchT B key p (itp p x (topn p - k) : Int) ((wayG B key p root x k).1.getD 0 zref)).2 ≠ 0 then ([], (fetchT B key p (itp p x (topn p - k) : Int) ((wayG B key p root x k).1.getD 0 zref)).2)
  else if (kidsT p (itp p x (topn p - k) : Int) (fetchT B key p (itp p x (topn p - k) : Int) ((wayG B key p root x k).1.getD 0 zref)).1).2 ≠ 0 then ([], (kidsT p (itp p x (topn p - k) : Int) (fetchT B key p (itp p x (topn p - k) : Int) ((wayG B key p root x k).1.getD 0 zref)).1).2)
  else ((kidsT p (itp p x (topn p - k) : Int) (fetchT B key p (itp p x (topn p - k) : Int) ((wayG B key p root x k).1.getD 0 zref)).1).1.getD (parN p (itp p x (topn p - (k + 1)))).2 zref :: (wayG B key p root x k).1, 0)
def wayT (B key : List (BitVec 8)) (p : Nat) (root : RefV) (z : Int) : List RefV × List (BitVec 8) × Int :=
 if z < 0 ∨ (p : Int) ≤ z then ([], [], 1)
 else if (wayG B key p root z.toNat (topn p)).2 ≠ 0 then ([], [], (wayG B key p root z.toNat (topn p)).2)
 else if (fetchT B key p z ((wayG B key p root z.toNat (topn p)).1.getD 0 zref)).2 ≠ 0 then ([], [], (fetchT B key p z ((wayG B key p root z.toNat (topn p)).1.getD 0 zref)).2)
 else ((wayG B key p root z.toNat (topn p)).1, (fetchT B key p z ((wayG B key p root z.toNat (topn p)).1.getD 0 zref)).1, 0)
def laidR (R : List RefV) (f : Nat) (L : List RefV) : List RefV := R.take f ++ L ++ R.drop (f + L.length)
def wholeG (B key : List (BitVec 8)) (p : Nat) (root : RefV) : Nat → List RefV × List (List (BitVec 8)) × Int
 | 0 => (List.replicate (itn p - 1) zref ++ [root], List.replicate p [], 0)
 | k + 1 =>
  if (wholeG B key p root k).2.2 ≠ 0 then ([], [], (wholeG B key p root k).2.2)
  else if (fetchT B key p ((itn p - (k + 1) : Nat) : Int) ((wholeG B key p root k).1.getD (itn p - (k + 1)) zref)).2 ≠ 0 then ([], [], (fetchT B key p ((itn p - (k + 1) : Nat) : Int) ((wholeG B key p root k).1.getD (itn p - (k + 1)) zref)).2)
  else if itn p - (k + 1) < p then ((wholeG B key p root k).1, (wholeG B key p root k).2.1.set (itn p - (k + 1)) (fetchT B key p ((itn p - (k + 1) : Nat) : Int) ((wholeG B key p root k).1.getD (itn p - (k + 1)) zref)).1, 0)
  else if (kidsT p ((itn p - (k + 1) : Nat) : Int) (fetchT B key p ((itn p - (k + 1) : Nat) : Int) ((wholeG B key p root k).1.getD (itn p - (k + 1)) zref)).1).2 ≠ 0 then ([], [], (kidsT p ((itn p - (k + 1) : Nat) : Int) (fetchT B key p ((itn p - (k + 1) : Nat) : Int) ((wholeG B key p root k).1.getD (itn p - (k + 1)) zref)).1).2)
  else (laidR (wholeG B key p root k).1 (fst p (itn p - (k + 1))) (kidsT p ((itn p - (k + 1) : Nat) : Int) (fetchT B key p ((itn p - (k + 1) : Nat) : Int) ((wholeG B key p root k).1.getD (itn p - (k + 1)) zref)).1).1, (wholeG B key p root k).2.1, 0)
def wholeT (B key : List (BitVec 8)) (p : Nat) (root : RefV) : List RefV × List (List (BitVec 8)) × Int :=
 if (wholeG B key p root (itn p)).2.2 ≠ 0 then ([], [], (wholeG B key p root (itn p)).2.2) else wholeG B key p root (itn p)
end Sha
end Go.Proofs.YtajdpbbbocnfiaaGreatDoor
namespace Go.Proofs.YtajdpbbbocnfiaaGreatDoor
namespace Sha
open Go.RowKit Mem
theorem KZ_node (p i : Nat) (hi : p ≤ i) (hit : i < itn p) : (KZ p (i : Int)).length = many p i := by
 unfold KZ
 rw [if_pos ⟨by omega, by omega⟩, kz_length, Int.toNat_natCast]
theorem kids_len {p i : Nat} {pg : List (BitVec 8)} (hi : p ≤ i) (hit : i < itn p) (h : (kidsT p (i : Int) pg).2 = 0) : (kidsT p (i : Int) pg).1.length = many p i ∧ layN (kidsT p (i : Int) pg).1 = (pg, 0) := by
 unfold kidsT at *
 rw [KZ_node p i hi hit] at *
 split at h
 ·cases h
 ·rename_i h2
  rw [if_neg h2]
  have g := parseN_ok (p := pg) (z := ((many p i : Nat) : Int)) (K := (parseN pg ((many p i : Nat) : Int)).1) (Prod.ext rfl h)
  exact ⟨by have := g.2; omega, g.1⟩
section
variable {R : List RefV} {f : Nat} {L : List RefV}
theorem laidR_length (h : f + L.length ≤ R.length) : (laidR R f L).length = R.length := by simp [laidR]; omega
theorem laidR_in {t : Nat} (h : f + L.length ≤ R.length) (ht : t < L.length) : (laidR R f L).getD (f + t) zref = L.getD t zref := by
 unfold laidR
 have e : (R.take f).length = f := by rw [List.length_take]; omega
 rw [List.getD_eq_getElem?_getD, List.append_assoc, List.getElem?_append_right (by omega), e, Nat.add_sub_cancel_left, List.getElem?_append_left ht, ← List.getD_eq_getElem?_getD]
theorem laidR_out {j : Nat} (h : f + L.length ≤ R.length) (hj : j < f ∨ f + L.length ≤ j) : (laidR R f L).getD j zref = R.getD j zref := by
 unfold laidR
 have e : (R.take f).length = f := by rw [List.length_take]; omega
 rw [List.getD_eq_getElem?_getD, List.append_assoc, List.getD_eq_getElem?_getD]
 rcases hj with g | g
 ·rw [List.getElem?_append_left (by omega), List.getElem?_take, if_pos g]
 ·rw [List.getElem?_append_right (by omega), e, List.getElem?_append_right (by omega), List.getElem?_drop]
  congr 2
  omega
end
structure TrInv (B key : List (BitVec 8)) (p : Nat) (root : RefV) (k : Nat) (R : List RefV) (G : List (List (BitVec 8))) : Prop where
 lr : R.length = itn p
 lg : G.length = p
 rt : R.getD (itn p - 1) zref = root
 ok : ∀ i : Nat, itn p ≤ i + k → i < itn p → (fetchT B key p (i : Int) (R.getD i zref)).2 = 0 ∧ (i < p → G.getD i [] = (fetchT B key p (i : Int) (R.getD i zref)).1) ∧ (p ≤ i → (kidsT p (i : Int) (fetchT B key p (i : Int) (R.getD i zref)).1).2 = 0 ∧ ∀ t, t < many p i → R.getD (fst p i + t) zref = (kidsT p (i : Int) (fetchT B key p (i : Int) (R.getD i zref)).1).1.getD t zref)
section
variable {B key : List (BitVec 8)} {p : Nat} {root : RefV}
theorem winv_zero (h0 : 1 ≤ p) (h1 : p ≤ 216) : TrInv B key p root 0 (List.replicate (itn p - 1) zref ++ [root]) (List.replicate p []) := by
 have hb := itn_big p h0 h1
 refine ⟨by simp; omega, by simp, ?_, fun i h2 h3 => by omega⟩
 rw [List.getD_eq_getElem?_getD, List.getElem?_append_right (by simp)]
 simp
theorem winv_page {k : Nat} {R : List RefV} {G : List (List (BitVec 8))} (W : TrInv B key p root k R G) (hk : k < itn p) (hp : itn p - (k + 1) < p) (hf : (fetchT B key p ((itn p - (k + 1) : Nat) : Int) (R.getD (itn p - (k + 1)) zref)).2 = 0) :
 TrInv B key p root (k + 1) R (G.set (itn p - (k + 1)) (fetchT B key p ((itn p - (k + 1) : Nat) : Int) (R.getD (itn p - (k + 1)) zref)).1) := by
 have hlg := W.lg
 refine ⟨W.lr, by rw [List.length_set]; exact W.lg, W.rt, fun i h2 h3 => ?_⟩
 by_cases he : i = itn p - (k + 1)
 ·subst he
  refine ⟨hf, fun _ => ?_, fun h => by omega⟩
  rw [List.getD_eq_getElem?_getD, List.getElem?_set_self (by omega)]
  rfl
 ·obtain ⟨a, b, c⟩ := W.ok i (by omega) h3
  refine ⟨a, fun h => ?_, c⟩
  rw [List.getD_eq_getElem?_getD, List.getElem?_set_ne (by omega), ← List.getD_eq_getElem?_getD]
  exact b h
theorem winv_node (h0 : 1 ≤ p) (h1 : p ≤ 216) {k : Nat} {R : List RefV} {G : List (List (BitVec 8))} (W : TrInv B key p root k R G) (hk : k < itn p) (hp : p ≤ itn p - (k + 1)) (hf : (fetchT B key p ((itn p - (k + 1) : Nat) : Int) (R.getD (itn p - (k + 1)) zref)).2 = 0)
 (hg : (kidsT p ((itn p - (k + 1) : Nat) : Int) (fetchT B key p ((itn p - (k + 1) : Nat) : Int) (R.getD (itn p - (k + 1)) zref)).1).2 = 0) :
 TrInv B key p root (k + 1) (laidR R (fst p (itn p - (k + 1))) (kidsT p ((itn p - (k + 1) : Nat) : Int) (fetchT B key p ((itn p - (k + 1) : Nat) : Int) (R.getD (itn p - (k + 1)) zref)).1).1) G := by
 obtain ⟨i, hi⟩ : ∃ i, i = itn p - (k + 1) := ⟨_, rfl⟩
 rw [← hi] at hp hf hg ⊢
 have hit : i < itn p := by omega
 have hlr := W.lr
 have hl := (kids_len hp hit hg).1
 obtain ⟨n1, n2⟩ := node_kids p i h0 h1 hp hit
 obtain ⟨L, hL⟩ : ∃ L, L = (kidsT p (i : Int) (fetchT B key p (i : Int) (R.getD i zref)).1).1 := ⟨_, rfl⟩
 rw [← hL] at hl ⊢
 have hfit : fst p i + L.length ≤ R.length := by omega
 have keep : ∀ j, i ≤ j → (laidR R (fst p i) L).getD j zref = R.getD j zref := fun j hj => laidR_out hfit (.inr (by omega))
 refine ⟨by rw [laidR_length hfit]; exact hlr, W.lg, by rw [keep _ (by omega)]; exact W.rt, fun j h2 h3 => ?_⟩
 by_cases he : j = i
 ·subst he
  rw [keep _ (Nat.le_refl _)]
  refine ⟨hf, fun h => by omega, fun _ => ⟨hg, fun t ht => ?_⟩⟩
  rw [laidR_in hfit (by omega), hL]
 ·obtain ⟨a, b, c⟩ := W.ok j (by omega) h3
  rw [keep j (by omega)]
  refine ⟨a, b, fun h => ⟨(c h).1, fun t ht => ?_⟩⟩
  rw [← (c h).2 t ht]
  refine laidR_out hfit ?_
  rcases Nat.lt_or_ge (fst p j + t) (fst p i) with g | g
  ·exact .inl g
  ·rcases Nat.lt_or_ge (fst p j + t) (fst p i + L.length) with q | q
   ·exfalso
    have e1 := (kid_iff p j (fst p j + t) t h0 h1 h h3).1 ⟨ht, rfl⟩
    have e2 := (kid_iff p i (fst p j + t) (fst p j + t - fst p i) h0 h1 hp hit).1 ⟨by omega, by omega⟩
    have e3 := e1.2.symm.trans e2.2
    injection e3 with e3 _
    exact he e3
   ·exact .inr q
theorem whole_inv (h0 : 1 ≤ p) (h1 : p ≤ 216) : ∀ k, k ≤ itn p → (wholeG B key p root k).2.2 = 0 → TrInv B key p root k (wholeG B key p root k).1 (wholeG B key p root k).2.1 := by
 intro k
 induction k with
 | zero => intro _ _; exact winv_zero h0 h1
 | succ k ih =>
  intro hk he
  have W := ih (by omega)
  unfold wholeG at he ⊢
  generalize wholeG B key p root k = S at *
  split at he
  ·rename_i g; exact absurd he g
  ·rename_i g0
   have W := W (Decidable.not_not.1 g0)
   rw [if_neg g0]
   split at he
   ·rename_i g; exact absurd he g
   ·rename_i g1
    rw [if_neg g1]
    split at he
    ·rename_i g2
     rw [if_pos g2]
     exact winv_page W (by omega) g2 (Decidable.not_not.1 g1)
    ·rename_i g2
     rw [if_neg g2]
     split at he
     ·rename_i g; exact absurd he g
     ·rename_i g3
      rw [if_neg g3]
      exact winv_node h0 h1 W (by omega) (by omega) (Decidable.not_not.1 g1) (Decidable.not_not.1 g3)
theorem whole_stop : ∀ n, (wholeG B key p root n).2.2 ≠ 0 → ∃ k, k < n ∧ (wholeG B key p root k).2.2 = 0 ∧ (wholeG B key p root (k + 1)).2.2 ≠ 0 := by
 intro n
 induction n with
 | zero => intro h; exact absurd rfl h
 | succ n ih =>
  intro h
  by_cases g : (wholeG B key p root n).2.2 = 0
  ·exact ⟨n, by omega, g, h⟩
  ·obtain ⟨k, h1, h2⟩ := ih g
   exact ⟨k, by omega, h2⟩
theorem whole_why {k : Nat} (h : (wholeG B key p root k).2.2 = 0) (h2 : (wholeG B key p root (k + 1)).2.2 ≠ 0) :
 (fetchT B key p ((itn p - (k + 1) : Nat) : Int) ((wholeG B key p root k).1.getD (itn p - (k + 1)) zref)).2 ≠ 0 ∨ (p ≤ itn p - (k + 1) ∧ (fetchT B key p ((itn p - (k + 1) : Nat) : Int) ((wholeG B key p root k).1.getD (itn p - (k + 1)) zref)).2 = 0 ∧ (kidsT p ((itn p - (k + 1) : Nat) : Int) (fetchT B key p ((itn p - (k + 1) : Nat) : Int) ((wholeG B key p root k).1.getD (itn p - (k + 1)) zref)).1).2 ≠ 0) := by
 unfold wholeG at h2
 rw [if_neg (fun g => g h)] at h2
 split at h2
 ·rename_i g; exact .inl g
 ·rename_i g1
  split at h2
  ·exact absurd rfl h2
  ·split at h2
   ·rename_i g2 g3
    exact .inr ⟨by omega, Decidable.not_not.1 g1, g3⟩
   ·exact absurd rfl h2
end
theorem itp_child (p x m : Nat) (h0 : 1 ≤ p) (h1 : p ≤ 216) (hx : x < p) (hm : m < topn p) : (parN p (itp p x m)).1 = itp p x (m + 1) ∧ (parN p (itp p x m)).2 < many p (itp p x (m + 1)) ∧ fst p (itp p x (m + 1)) + (parN p (itp p x m)).2 = itp p x m ∧ p ≤ itp p x (m + 1) ∧ itp p x (m + 1) < itn p := by
 have hp := itp_par p x m h0 h1 hx hm
 have hl := itp_lev p x h0 h1 hx m (by omega)
 have hl2 := itp_lev p x h0 h1 hx (m + 1) (by omega)
 have hlast : itp p x m + 1 < itn p := (lev_top p _ h0 h1).2 ⟨Nat.lt_of_lt_of_le hl.2.1 (stn_mono p (m + 1) (topn p + 1) (by omega) (by have := top_le p; omega)), by omega⟩
 have e : (parN p (itp p x m)).1 = itp p x (m + 1) := by
  unfold PZ at hp
  rw [if_pos ⟨by omega, by omega⟩, Int.toNat_natCast] at hp
  injection hp with hp _
  omega
 have hpl := par_lev p (itp p x m) h0 h1 hlast
 rw [e] at hpl
 have hq := (kid_iff p (itp p x (m + 1)) (itp p x m) (parN p (itp p x m)).2 h0 h1 hpl.2.2.2.1 hpl.2.2.1).2 ⟨hlast, Prod.ext e rfl⟩
 exact ⟨e, hq.1, hq.2, hpl.2.2.2.1, hpl.2.2.1⟩
section
variable {B key : List (BitVec 8)} {p : Nat} {root : RefV}
theorem way_run (h0 : 1 ≤ p) (h1 : p ≤ 216) {k' : Nat} {R : List RefV} {G : List (List (BitVec 8))} (W : TrInv B key p root k' R G) (x : Nat) (hx : x < p) : ∀ k, k ≤ topn p → (∀ j, j < k → itn p ≤ itp p x (topn p - j) + k') → wayG B key p root x k = ((List.range (k + 1)).map fun t => R.getD (itp p x (topn p - k + t)) zref, 0) := by
 intro k
 induction k with
 | zero =>
  intro _ _
  have e := itp_root p x h0 h1 hx
  show ([root], (0 : Int)) = _
  rw [← W.rt]
  have e2 : itn p - 1 = itp p x (topn p) := by omega
  rw [e2]
  rfl
 | succ k ih =>
  intro hk hall
  have hi := ih (by omega) (fun j hj => hall j (by omega))
  have hc := itp_child p x (topn p - (k + 1)) h0 h1 hx (by omega)
  rw [show topn p - (k + 1) + 1 = topn p - k by omega] at hc
  obtain ⟨c1, c2, c3, c4, c5⟩ := hc
  obtain ⟨o1, _, o3⟩ := W.ok (itp p x (topn p - k)) (hall k (by omega)) c5
  obtain ⟨o4, o5⟩ := o3 c4
  have hh : (wayG B key p root x k).1.getD 0 zref = R.getD (itp p x (topn p - k)) zref := by
   rw [hi]
   simp [List.getD_eq_getElem?_getD]
  have hz : (wayG B key p root x k).2 = 0 := by rw [hi]
  unfold wayG
  rw [if_neg (fun g => g hz), hh, if_neg (fun g => g o1), if_neg (fun g => g o4), ← o5 _ c2, c3, hi]
  congr 1
  rw [List.range_succ_eq_map (n := k + 1), List.map_cons, List.map_map]
  congr 1
  apply List.map_congr_left
  intro t _
  show _ = R.getD (itp p x (topn p - (k + 1) + (t + 1))) zref
  rw [show topn p - (k + 1) + (t + 1) = topn p - k + t by omega]
theorem wayT_ok {x : Nat} (hx : x < p) (h : (wayG B key p root x (topn p)).2 = 0) (h2 : (fetchT B key p (x : Int) ((wayG B key p root x (topn p)).1.getD 0 zref)).2 = 0) : wayT B key p root (x : Int) = ((wayG B key p root x (topn p)).1, (fetchT B key p (x : Int) ((wayG B key p root x (topn p)).1.getD 0 zref)).1, 0) := by
 unfold wayT
 rw [if_neg (by omega), Int.toNat_natCast, if_neg (fun g => g h), if_neg (fun g => g h2)]
theorem whole_way (h0 : 1 ≤ p) (h1 : p ≤ 216) {R : List RefV} {G : List (List (BitVec 8))} (W : TrInv B key p root (itn p) R G) (x : Nat) (hx : x < p) : wayT B key p root (x : Int) = ((List.range (topn p + 1)).map (fun t => R.getD (itp p x t) zref), G.getD x [], 0) := by
 have h := way_run h0 h1 W x hx (topn p) (Nat.le_refl _) (fun j _ => by omega)
 have e : (wayG B key p root x (topn p)).1.getD 0 zref = R.getD x zref := by
  rw [h]
  have e0 : itp p x 0 = x := rfl
  simp [List.getD_eq_getElem?_getD, e0]
 have hb := itn_big p h0 h1
 obtain ⟨o1, o2, _⟩ := W.ok x (by omega) (by omega)
 rw [wayT_ok hx (by rw [h]) (by rw [e]; exact o1), e, ← o2 hx, h]
 simp
end
end Sha
end Go.Proofs.YtajdpbbbocnfiaaGreatDoor
namespace Go.Proofs.YtajdpbbbocnfiaaGreatDoor
namespace Sha
open Go.RowKit Mem
def putsT (key : List (BitVec 8)) (ep : BitVec 32) (P : List (List (BitVec 8))) : List (Nat × List (BitVec 8)) := (List.range (itn P.length)).map fun i => (2 + 2 * i, selT key ep P i)
theorem putsT_length (key : List (BitVec 8)) (ep : BitVec 32) (P : List (List (BitVec 8))) : (putsT key ep P).length = itn P.length := by simp [putsT]
theorem putsT_get (key : List (BitVec 8)) (ep : BitVec 32) (P : List (List (BitVec 8))) (i : Nat) (h : i < itn P.length) : (putsT key ep P).getD i (0, []) = (2 + 2 * i, selT key ep P i) := by simp [putsT, List.getD_eq_getElem?_getD, h]
theorem makeT_ok (key : List (BitVec 8)) (ep : BitVec 32) {P : List (List (BitVec 8))} (hP : GoodP P) : makeT key ep P = (putsT key ep P, refT key ep P (itn P.length - 1), 0) := by
 unfold makeT
 rw [if_pos ⟨hP.p0, hP.p1, by rw [List.all_eq_true]; intro x hx; simp [hP.len x hx]⟩]
 rfl
def layS (s : St6) (L : List (Nat × List (BitVec 8))) : St6 := { s with w := s.w ++ L, t := s.t ++ L.map fun q => (q.1 : Int) }
theorem layS_nil (s : St6) : layS s [] = s := by
 obtain ⟨n, b, w, sh, t⟩ := s
 simp [layS]
theorem layS_snoc (s : St6) (L : List (Nat × List (BitVec 8))) (q : Nat × List (BitVec 8)) : layS s (L ++ [q]) = dvWrite (layS s L) q.1 q.2 := by
 obtain ⟨n, b, w, sh, t⟩ := s
 simp [layS, dvWrite]
def stImg (key : List (BitVec 8)) (ep : BitVec 32) (P : List (List (BitVec 8))) : St6 := stFlush (layS (stNew (2 + 2 * itn P.length)) (putsT key ep P))
theorem ok_lay {m : Nat} {s : St6} (h : Ok6 m s) (L : List (Nat × List (BitVec 8))) (hq : ∀ q ∈ L, q.1 < s.n ∧ q.2.length = 256) : Ok6 (m + L.length) (layS s L) := by
 have hall : ∀ j, j ≤ L.length → Ok6 (m + j) (layS s (L.take j)) := by
  intro j
  induction j with
  | zero => intro _; rw [List.take_zero, layS_nil]; exact h
  | succ j ih =>
   intro hj
   have e : L.take (j + 1) = L.take j ++ [L[j]] := by rw [List.take_add_one, List.getElem?_eq_getElem (by omega)]; rfl
   have hm := hq L[j] (List.getElem_mem _)
   rw [e, layS_snoc]
   exact ok_write (ih (by omega)) _ _ hm.1 hm.2
 have := hall L.length (Nat.le_refl _)
 rwa [List.take_length] at this
section
variable {key : List (BitVec 8)} {ep : BitVec 32} {P : List (List (BitVec 8))}
theorem puts_ok (hP : GoodP P) : ∀ q ∈ putsT key ep P, q.1 < 2 + 2 * itn P.length ∧ q.2.length = 256 := by
 intro q hq
 obtain ⟨i, hi, rfl⟩ := List.mem_map.1 hq
 have hi := List.mem_range.1 hi
 exact ⟨by show 2 + 2 * i < _; omega, selT_length hP i hi⟩
theorem img_lay_ok (hP : GoodP P) : Ok6 (itn P.length) (layS (stNew (2 + 2 * itn P.length)) (putsT key ep P)) := by
 have hb := itn_big P.length hP.p0 hP.p1
 have h := ok_lay (ok_new (2 + 2 * itn P.length) (by omega) (by omega)) (putsT key ep P) (puts_ok hP)
 rw [putsT_length, Nat.zero_add] at h
 exact h
theorem img_ok (hP : GoodP P) : Ok6 (itn P.length + 1) (stImg key ep P) := ok_flush (img_lay_ok hP)
theorem img_b (hP : GoodP P) : (stImg key ep P).b.length = (2 + 2 * itn P.length) * 256 := (img_ok hP).b
theorem img_t : (stImg key ep P).t.length = itn P.length + 1 := by
 show (([] ++ (putsT key ep P).map fun q : Nat × List (BitVec 8) => (q.1 : Int)) ++ [-1]).length = _
 simp [putsT_length]
def Blks (key : List (BitVec 8)) (ep : BitVec 32) (P : List (List (BitVec 8))) (B : List (BitVec 8)) : Prop := ∀ i, i < itn P.length → blkOf B (2 + 2 * i) = selT key ep P i
theorem img_blks (hP : GoodP P) : Blks key ep P (stImg key ep P).b := by
 intro i hi
 have ho := img_lay_ok (key := key) (ep := ep) hP
 have hw : (layS (stNew (2 + 2 * itn P.length)) (putsT key ep P)).w = putsT key ep P := by simp [layS, stNew]
 have hn : (layS (stNew (2 + 2 * itn P.length)) (putsT key ep P)).n = 2 + 2 * itn P.length := rfl
 have hb := ho.b
 have hwf := ho.wf
 rw [hn] at hb hwf
 rw [hw] at hwf
 have hf := readTo_flush hwf hb (k := 2 + 2 * i) (by omega) (putsT key ep P).length (Nat.le_refl _)
 show blkOf (flushTo (layS (stNew (2 + 2 * itn P.length)) (putsT key ep P)).w _ (layS (stNew (2 + 2 * itn P.length)) (putsT key ep P)).w.length) _ = _
 rw [hw, hf]
 have hr : ∀ d j, i < j → j ≤ itn P.length → readTo (2 + 2 * i) d (putsT key ep P) j = selT key ep P i := by
  intro d j
  induction j with
  | zero => intro h; omega
  | succ j ih =>
   intro h1 h2
   rw [readTo, putsT_get key ep P j (by omega)]
   by_cases e : i = j
   ·subst e; rw [if_pos rfl]
   ·rw [if_neg (by show ¬ 2 + 2 * j = _; omega)]
    exact ih (by omega) (by omega)
 rw [putsT_length]
 exact hr _ _ hi (Nat.le_refl _)
variable {B : List (BitVec 8)}
theorem fetch_made (hP : GoodP P) (hB : B.length = (2 + 2 * itn P.length) * 256) (hK : Blks key ep P B) (i : Nat) (hi : i < itn P.length) : fetchT B key P.length (i : Int) (refT key ep P i) = (pgT key ep P i, 0) := by
 have e : BZ P.length (i : Int) (refT key ep P i).pl = 2 + 2 * (i : Int) := by
  rw [refT_pl]
  have := BZ_at P.length i 0 hi (by omega)
  simpa using this
 unfold fetchT
 rw [e, if_neg (by omega), show (2 + 2 * (i : Int)).toNat = 2 + 2 * i by omega, hK i hi]
 exact open_made hP i hi
theorem kids_made (hP : GoodP P) (i : Nat) (hp : P.length ≤ i) (hi : i < itn P.length) : kidsT P.length (i : Int) (pgT key ep P i) = (kidR P.length (refsT key ep P i) i, 0) := by
 have hn := node_kids P.length i hP.p0 hP.p1 hp hi
 have hl : (kidR P.length (refsT key ep P i) i).length = many P.length i := kidR_length _ _ _ (by rw [refsT_length]; omega)
 have hlay : layN (kidR P.length (refsT key ep P i) i) = (pgT key ep P i, 0) := by
  unfold pgT pageI
  rw [if_neg (by omega)]
  exact Prod.ext rfl (node_lay hP i i hp hi (Nat.le_refl _))
 unfold kidsT
 rw [KZ_node P.length i hp hi, if_neg (by omega), ← hl]
 exact lay_parse (kidR_wf _ (refsT_wf i) i) hlay
theorem back_refs (hP : GoodP P) (hB : B.length = (2 + 2 * itn P.length) * 256) (hK : Blks key ep P B) {k : Nat} {R : List RefV} {G : List (List (BitVec 8))} (W : TrInv B key P.length (refT key ep P (itn P.length - 1)) k R G) :
 ∀ d i, itn P.length ≤ i + d → itn P.length ≤ i + k + 1 → i < itn P.length → R.getD i zref = refT key ep P i := by
 intro d
 induction d with
 | zero => intro i h1 _ h3; omega
 | succ d ih =>
  intro i h1 h2 h3
  by_cases hr : i + 1 < itn P.length
  ·have hpl := par_lev P.length i hP.p0 hP.p1 hr
   have hq := (kid_iff P.length (parN P.length i).1 i (parN P.length i).2 hP.p0 hP.p1 hpl.2.2.2.1 hpl.2.2.1).2 ⟨hr, rfl⟩
   have hn := node_kids P.length _ hP.p0 hP.p1 hpl.2.2.2.1 hpl.2.2.1
   obtain ⟨q, hqq⟩ : ∃ q, q = (parN P.length i).1 := ⟨_, rfl⟩
   obtain ⟨t, ht⟩ : ∃ t, t = (parN P.length i).2 := ⟨_, rfl⟩
   rw [← hqq] at hpl hn
   rw [← hqq, ← ht] at hq
   have hgt : i < q := by omega
   have hRq := ih q (by omega) (by omega) hpl.2.2.1
   obtain ⟨_, _, o⟩ := W.ok q (by omega) hpl.2.2.1
   have o2 := (o hpl.2.2.2.1).2 t hq.1
   rw [hRq, fetch_made hP hB hK q hpl.2.2.1, kids_made hP q hpl.2.2.2.1 hpl.2.2.1, hq.2] at o2
   rw [o2]
   show (kidR P.length (refsT key ep P q) q).getD t zref = _
   rw [kidR_get _ _ _ _ hq.1, hq.2, refsT_get key ep P q i (by omega)]
  ·have e : i = itn P.length - 1 := by omega
   rw [e]
   exact W.rt
theorem back_ok (hP : GoodP P) (hB : B.length = (2 + 2 * itn P.length) * 256) (hK : Blks key ep P B) : (wholeG B key P.length (refT key ep P (itn P.length - 1)) (itn P.length)).2.2 = 0 := by
 refine Decidable.not_not.1 fun h => ?_
 obtain ⟨k, hk, g0, g1⟩ := whole_stop (itn P.length) h
 have W := whole_inv hP.p0 hP.p1 k (by omega) g0
 have hr := back_refs hP hB hK W (itn P.length) (itn P.length - (k + 1)) (by omega) (by omega) (by omega)
 have hw := whole_why g0 g1
 rw [hr, fetch_made hP hB hK _ (by omega)] at hw
 rcases hw with a | ⟨a, _, b⟩
 ·exact a rfl
 ·rw [kids_made hP _ a (by omega)] at b
  exact b rfl
theorem backT (hP : GoodP P) (hB : B.length = (2 + 2 * itn P.length) * 256) (hK : Blks key ep P B) : wholeT B key P.length (refT key ep P (itn P.length - 1)) = (refsT key ep P (itn P.length), P, 0) := by
 have h := back_ok hP hB hK
 have W := whole_inv hP.p0 hP.p1 (itn P.length) (Nat.le_refl _) h
 have hb := itn_big P.length hP.p0 hP.p1
 unfold wholeT
 rw [if_neg (fun g => g h)]
 have hR : (wholeG B key P.length (refT key ep P (itn P.length - 1)) (itn P.length)).1 = refsT key ep P (itn P.length) := by
  apply List.ext_getElem
  ·rw [W.lr, refsT_length]
  ·intro i h1 h2
   have hi : i < itn P.length := by rw [W.lr] at h1; exact h1
   have a := back_refs hP hB hK W (itn P.length) i (by omega) (by omega) hi
   rw [← refsT_get key ep P (itn P.length) i hi, List.getD_eq_getElem?_getD, List.getD_eq_getElem?_getD, List.getElem?_eq_getElem h1, List.getElem?_eq_getElem h2] at a
   exact a
 have hG : (wholeG B key P.length (refT key ep P (itn P.length - 1)) (itn P.length)).2.1 = P := by
  apply List.ext_getElem
  ·rw [W.lg]
  ·intro i h1 h2
   have a := (W.ok i (by omega) (by omega)).2.1 h2
   rw [back_refs hP hB hK W (itn P.length) i (by omega) (by omega) (by omega), fetch_made hP hB hK i (by omega)] at a
   have e : pgT key ep P i = P.getD i [] := if_pos h2
   simp only [e] at a
   rw [List.getD_eq_getElem?_getD, List.getD_eq_getElem?_getD, List.getElem?_eq_getElem h1, List.getElem?_eq_getElem h2] at a
   exact a
 exact Prod.ext hR (Prod.ext hG h)
theorem backW (hP : GoodP P) (hB : B.length = (2 + 2 * itn P.length) * 256) (hK : Blks key ep P B) (x : Nat) (hx : x < P.length) : wayT B key P.length (refT key ep P (itn P.length - 1)) (x : Int) = ((List.range (topn P.length + 1)).map (fun t => refT key ep P (itp P.length x t)), P.getD x [], 0) := by
 have h := back_ok hP hB hK
 have W := whole_inv hP.p0 hP.p1 (itn P.length) (Nat.le_refl _) h
 rw [whole_way hP.p0 hP.p1 W x hx]
 have hG : (wholeG B key P.length (refT key ep P (itn P.length - 1)) (itn P.length)).2.1 = P := by
  have := backT hP hB hK
  unfold wholeT at this
  rw [if_neg (fun g => g h)] at this
  rw [this]
 rw [hG]
 congr 1
 apply List.map_congr_left
 intro t ht
 have ht := List.mem_range.1 ht
 have hl := itp_lev P.length x hP.p0 hP.p1 hx t (by omega)
 have hs := stn_mono P.length (t + 1) (topn P.length + 1) (by omega) (by have := top_le P.length; omega)
 exact back_refs hP hB hK W (itn P.length) _ (by unfold itn; omega) (by unfold itn; omega) (by unfold itn; omega)
end
end Sha
end Go.Proofs.YtajdpbbbocnfiaaGreatDoor
namespace Go.Proofs.YtajdpbbbocnfiaaGreatDoor
namespace Sha
open Go.RowKit Mem
def TT (w : World) : Prop := Tabs w ∧ CTabs w
theorem TT.below {w w' : World} (h : TT w) (hb : Below w.heap.size w w') : TT w' := ⟨h.1.below hb (Nat.le_refl _), h.2.below hb (Nat.le_refl _)⟩
def MkEnd (w : World) (t : List (Nat × List (BitVec 8)) × RefV × Int) (e : Ending) (w' : World) : Prop := ∃ v, e = .returned (.tuple #[v, .agg (refC t.2.1), .int .i64 t.2.2]) ∧ WPut (fun k => w.heap.size ≤ k) w' v t.1 ∧ Below w.heap.size w w'
def WyEnd (w : World) (t : List RefV × List (BitVec 8) × Int) (e : Ending) (w' : World) : Prop := ∃ vr vp, e = .returned (.tuple #[vr, vp, .int .i64 t.2.2]) ∧ SlRf w' vr t.1 ∧ Sl w' vp t.2.1 ∧ Below w.heap.size w w'
def WhEnd (w : World) (t : List RefV × List (List (BitVec 8)) × Int) (e : Ending) (w' : World) : Prop := ∃ vr vp, e = .returned (.tuple #[vr, vp, .int .i64 t.2.2]) ∧ SlRf w' vr t.1 ∧ Sls w' vp t.2.1 ∧ Below w.heap.size w w'
structure TreeP : Prop where
 make : ∀ key ep P v w, TT w → key.length = 32 → Sls w v P → P.length ≤ 1000 → (∀ x ∈ P, x.length ≤ 1000) → Calls Tryz.prog 9 #[.pointer none, .agg (u8s key).toArray, .int .u32 (V ep), v] w (MkEnd w (makeT key ep P))
 lay : ∀ {F G : Foot} {b : Nat} {s : St6} (L : List (Nat × List (BitVec 8))) (v : Value) (w : World), PSt F b w s → Ok6 500 s → WPut G w v L → (∀ k, G k → ¬ F k) → L.length ≤ 400 → (∀ q ∈ L, q.1 < s.n ∧ q.2.length = 256) → Calls Tryz.prog 42 #[rq b, v] w fun e w' => e = .returned (.int .i64 0) ∧ StEnd PSt F b w (layS s L) w'
 fetch : ∀ {F : Foot} {b : Nat} {s : St6} key p (z : Int) r w, TT w → key.length = 32 → PSt F b w s → Ok6 1000 s → s.w = [] → 1 ≤ p → p ≤ 216 → r.Wf → Calls Tryz.prog 25 #[.pointer none, rq b, .agg (u8s key).toArray, .agg (psC p), .int .i64 z, .agg (refC r)] w (SealEnd w (fetchT s.b key p z r).1 (fetchT s.b key p z r).2)
 kids : ∀ p (z : Int) pg v w, Sl w v pg → pg.length ≤ 1000 → 1 ≤ p → p ≤ 216 → Calls Tryz.prog 27 #[.agg (psC p), .int .i64 z, v] w (RfEnd w (kidsT p z pg).1 (kidsT p z pg).2)
 whole : ∀ {F : Foot} {b : Nat} {s : St6} key p r w, TT w → key.length = 32 → PSt F b w s → Ok6 1000 s → s.w = [] → 1 ≤ p → p ≤ 216 → r.Wf → Calls Tryz.prog 18 #[.pointer none, rq b, .agg (u8s key).toArray, .agg (psC p), .agg (refC r)] w (WhEnd w (wholeT s.b key p r))
 way : ∀ {F : Foot} {b : Nat} {s : St6} key p r (z : Int) w, TT w → key.length = 32 → PSt F b w s → Ok6 1000 s → s.w = [] → 1 ≤ p → p ≤ 216 → r.Wf → Calls Tryz.prog 20 #[.pointer none, rq b, .agg (u8s key).toArray, .agg (psC p), .agg (refC r), .int .i64 z] w (WyEnd w (wayT s.b key p r z))
end Sha
end Go.Proofs.YtajdpbbbocnfiaaGreatDoor
namespace Go.Proofs.YtajdpbbbocnfiaaGreatDoor
namespace Sha
open Go.RowKit Mem
def fkT (B key : List (BitVec 8)) (p : Nat) (z : Int) (r : RefV) : List RefV × Int := if (fetchT B key p z r).2 ≠ 0 then ([], (fetchT B key p z r).2) else kidsT p z (fetchT B key p z r).1
theorem kidsT_wf (p : Nat) (z : Int) (pg : List (BitVec 8)) : ∀ r ∈ (kidsT p z pg).1, r.Wf := by
 unfold kidsT parseN
 intro r hr
 split at hr
 ·cases hr
 ·split at hr
  ·cases hr
  ·split at hr
   ·cases hr
   ·exact allN_wf pg r hr
theorem fkT_wf (B key : List (BitVec 8)) (p : Nat) (z : Int) (x : RefV) : ∀ r ∈ (fkT B key p z x).1, r.Wf := by
 unfold fkT
 intro r hr
 split at hr
 ·cases hr
 ·exact kidsT_wf _ _ _ r hr
theorem fkT_ok {B key : List (BitVec 8)} {p : Nat} {z : Int} {x : RefV} (h : (fetchT B key p z x).2 = 0) : fkT B key p z x = kidsT p z (fetchT B key p z x).1 := by
 unfold fkT; rw [if_neg (fun n => n h)]
theorem fkT_no {B key : List (BitVec 8)} {p : Nat} {z : Int} {x : RefV} (h : (fetchT B key p z x).2 ≠ 0) : fkT B key p z x = ([], (fetchT B key p z x).2) := by
 unfold fkT; rw [if_pos h]
theorem fkT_len {B key : List (BitVec 8)} {p i : Nat} {x : RefV} (hi : p ≤ i) (hit : i < itn p) (h : (fkT B key p (i : Int) x).2 = 0) : (fkT B key p (i : Int) x).1.length = many p i := by
 unfold fkT at *
 by_cases g : (fetchT B key p (i : Int) x).2 = 0
 ·rw [if_neg (fun n => n g)] at h ⊢
  exact (kids_len hi hit h).1
 ·rw [if_pos g] at h
  exact absurd h g
section
variable {R : List RefV} {f : Nat} {L : List RefV}
theorem laidR_none : laidR R f [] = R := by simp [laidR]
theorem laidR_set {t : Nat} (h : f + L.length ≤ R.length) (ht : t < L.length) : (laidR R f (L.take t)).set (f + t) (L.getD t zref) = laidR R f (L.take (t + 1)) := by
 have e1 : (R.take f).length = f := by rw [List.length_take]; omega
 have e2 : (L.take t).length = t := by rw [List.length_take]; omega
 have e3 : (L.take (t + 1)).length = t + 1 := by rw [List.length_take]; omega
 have hd : R.drop (f + t) = R[f + t]'(by omega) :: R.drop (f + (t + 1)) := by rw [List.drop_eq_getElem_cons (by omega)]; rfl
 have hk : L.take (t + 1) = L.take t ++ [L.getD t zref] := by rw [List.take_add_one, List.getElem?_eq_getElem ht, List.getD_eq_getElem?_getD, List.getElem?_eq_getElem ht]; rfl
 unfold laidR
 rw [e2, e3, List.set_append_right _ _ (by rw [List.length_append, e1, e2]; exact Nat.le_refl _), List.length_append, e1, e2, Nat.sub_self, hd, hk, List.set_cons_zero]
 simp [List.append_assoc]
theorem laidR_wf (hR : ∀ r ∈ R, r.Wf) (hL : ∀ r ∈ L, r.Wf) : ∀ r ∈ laidR R f L, r.Wf := by
 intro r hr
 unfold laidR at hr
 rcases List.mem_append.1 hr with h | h
 ·rcases List.mem_append.1 h with h | h
  ·exact hR r (List.mem_of_mem_take h)
  ·exact hL r h
 ·exact hR r (List.mem_of_mem_drop h)
end
section
variable {B key : List (BitVec 8)} {p : Nat} {root : RefV}
theorem wholeG_node {k : Nat} (h : (wholeG B key p root k).2.2 = 0) (hp : p ≤ itn p - (k + 1)) : wholeG B key p root (k + 1) = if (fkT B key p ((itn p - (k + 1) : Nat) : Int) ((wholeG B key p root k).1.getD (itn p - (k + 1)) zref)).2 ≠ 0 then ([], [], (fkT B key p ((itn p - (k + 1) : Nat) : Int) ((wholeG B key p root k).1.getD (itn p - (k + 1)) zref)).2) else (laidR (wholeG B key p root k).1 (fst p (itn p - (k + 1))) (fkT B key p ((itn p - (k + 1) : Nat) : Int) ((wholeG B key p root k).1.getD (itn p - (k + 1)) zref)).1, (wholeG B key p root k).2.1, 0) := by
 rw [wholeG, if_neg (fun n => n h)]
 by_cases g : (fetchT B key p ((itn p - (k + 1) : Nat) : Int) ((wholeG B key p root k).1.getD (itn p - (k + 1)) zref)).2 = 0
 ·rw [if_neg (fun n => n g), if_neg (by omega), fkT_ok g]
 ·rw [if_pos g, fkT_no g, if_pos g]
theorem wholeG_page {k : Nat} (h : (wholeG B key p root k).2.2 = 0) (hp : itn p - (k + 1) < p) : wholeG B key p root (k + 1) = if (fetchT B key p ((itn p - (k + 1) : Nat) : Int) ((wholeG B key p root k).1.getD (itn p - (k + 1)) zref)).2 ≠ 0 then ([], [], (fetchT B key p ((itn p - (k + 1) : Nat) : Int) ((wholeG B key p root k).1.getD (itn p - (k + 1)) zref)).2) else ((wholeG B key p root k).1, (wholeG B key p root k).2.1.set (itn p - (k + 1)) (fetchT B key p ((itn p - (k + 1) : Nat) : Int) ((wholeG B key p root k).1.getD (itn p - (k + 1)) zref)).1, 0) := by
 rw [wholeG, if_neg (fun n => n h), if_pos hp]
theorem wholeG_err {k : Nat} {e : Int} (h : (wholeG B key p root k).2.2 = e) (he : e ≠ 0) : ∀ n, k ≤ n → (wholeG B key p root n).2.2 = e := by
 intro n hn
 induction n with
 | zero => rw [show 0 = k by omega]; exact h
 | succ n ih =>
  rcases Nat.lt_or_ge n k with g | g
  ·rw [show n + 1 = k by omega]; exact h
  ·have i := ih g
   rw [wholeG, if_pos (by rw [i]; exact he)]
   exact i
theorem wholeT_err {k : Nat} {e : Int} (hk : k ≤ itn p) (h : (wholeG B key p root k).2.2 = e) (he : e ≠ 0) : wholeT B key p root = ([], [], e) := by
 have g := wholeG_err h he (itn p) hk
 unfold wholeT
 rw [if_pos (by rw [g]; exact he), g]
theorem wholeT_good (h : (wholeG B key p root (itn p)).2.2 = 0) : wholeT B key p root = wholeG B key p root (itn p) := by
 unfold wholeT
 rw [if_neg (fun n => n h)]
theorem wholeG_none : ∀ k, k + p ≤ itn p → (wholeG B key p root k).2.2 = 0 → (wholeG B key p root k).2.1 = List.replicate p [] := by
 intro k
 induction k with
 | zero => intro _ _; rfl
 | succ k ih =>
  intro hk h
  have h0 : (wholeG B key p root k).2.2 = 0 := by
   rcases Classical.em ((wholeG B key p root k).2.2 = 0) with g | g
   ·exact g
   ·exact absurd (wholeG_err rfl g (k + 1) (Nat.le_succ _)) (by rw [h]; exact fun x => g x.symm)
  have i := ih (by omega) h0
  rw [wholeG_node h0 (by omega)] at h ⊢
  split at h
  ·exact absurd h (by assumption)
  ·rename_i g
   rw [if_neg g]
   exact i
theorem wholeG_wf (hr : root.Wf) : ∀ k, ∀ r ∈ (wholeG B key p root k).1, r.Wf := by
 intro k
 induction k with
 | zero =>
  intro r h
  rcases List.mem_append.1 h with h | h
  ·rw [List.eq_of_mem_replicate h]; exact zref_wf
  ·rw [List.mem_singleton.1 h]; exact hr
 | succ k ih =>
  intro r h
  rcases Classical.em ((wholeG B key p root k).2.2 = 0) with g | g
  ·rcases Nat.lt_or_ge (itn p - (k + 1)) p with q | q
   ·rw [wholeG_page g q] at h
    split at h
    ·cases h
    ·exact ih r h
   ·rw [wholeG_node g q] at h
    split at h
    ·cases h
    ·exact laidR_wf ih (fkT_wf _ _ _ _ _) r h
  ·rw [wholeG, if_pos g] at h
   cases h
theorem wayG_step {x k : Nat} (h : (wayG B key p root x k).2 = 0) : wayG B key p root x (k + 1) = if (fkT B key p (itp p x (topn p - k) : Int) ((wayG B key p root x k).1.getD 0 zref)).2 ≠ 0 then ([], (fkT B key p (itp p x (topn p - k) : Int) ((wayG B key p root x k).1.getD 0 zref)).2) else ((fkT B key p (itp p x (topn p - k) : Int) ((wayG B key p root x k).1.getD 0 zref)).1.getD (parN p (itp p x (topn p - (k + 1)))).2 zref :: (wayG B key p root x k).1, 0) := by
 rw [wayG, if_neg (fun n => n h)]
 by_cases g : (fetchT B key p (itp p x (topn p - k) : Int) ((wayG B key p root x k).1.getD 0 zref)).2 = 0
 ·rw [if_neg (fun n => n g), fkT_ok g]
 ·rw [if_pos g, fkT_no g, if_pos g]
theorem wayG_stop {x k : Nat} {e : Int} (h : (wayG B key p root x k).2 = e) (he : e ≠ 0) : ∀ n, k ≤ n → (wayG B key p root x n).2 = e := by
 intro n hn
 induction n with
 | zero => rw [show 0 = k by omega]; exact h
 | succ n ih =>
  rcases Nat.lt_or_ge n k with g | g
  ·rw [show n + 1 = k by omega]; exact h
  ·have i := ih g
   rw [wayG, if_pos (by rw [i]; exact he)]
   exact i
theorem wayG_wf (hr : root.Wf) (x : Nat) : ∀ k, ∀ r ∈ (wayG B key p root x k).1, r.Wf := by
 intro k
 induction k with
 | zero => intro r h; rw [List.mem_singleton.1 h]; exact hr
 | succ k ih =>
  intro r h
  rcases Classical.em ((wayG B key p root x k).2 = 0) with g | g
  ·rw [wayG_step g] at h
   split at h
   ·cases h
   ·rcases List.mem_cons.1 h with h | h
    ·rw [h]; exact getD_wf (fkT_wf _ _ _ _ _) _
    ·exact ih r h
  ·rw [wayG, if_pos g] at h
   cases h
theorem wayG_length {x : Nat} : ∀ k, (wayG B key p root x k).2 = 0 → (wayG B key p root x k).1.length = k + 1 := by
 intro k
 induction k with
 | zero => intro _; rfl
 | succ k ih =>
  intro h
  have h0 : (wayG B key p root x k).2 = 0 := by
   rcases Classical.em ((wayG B key p root x k).2 = 0) with g | g
   ·exact g
   ·exact absurd (wayG_stop rfl g (k + 1) (Nat.le_succ _)) (by rw [h]; exact fun x => g x.symm)
  rw [wayG_step h0] at h ⊢
  split at h
  ·exact absurd h (by assumption)
  ·rename_i g
   rw [if_neg g, List.length_cons, ih h0]
theorem wayT_err {x k : Nat} {e : Int} (hx : x < p) (hk : k ≤ topn p) (h : (wayG B key p root x k).2 = e) (he : e ≠ 0) : wayT B key p root (x : Int) = ([], [], e) := by
 have g := wayG_stop h he (topn p) hk
 unfold wayT
 rw [if_neg (by omega), Int.toNat_natCast, if_pos (by rw [g]; exact he), g]
theorem wayT_last {x : Nat} (hx : x < p) (h : (wayG B key p root x (topn p)).2 = 0) : wayT B key p root (x : Int) = if (fetchT B key p (x : Int) ((wayG B key p root x (topn p)).1.getD 0 zref)).2 ≠ 0 then ([], [], (fetchT B key p (x : Int) ((wayG B key p root x (topn p)).1.getD 0 zref)).2) else ((wayG B key p root x (topn p)).1, (fetchT B key p (x : Int) ((wayG B key p root x (topn p)).1.getD 0 zref)).1, 0) := by
 unfold wayT
 rw [if_neg (by omega), Int.toNat_natCast, if_neg (fun n => n h)]
def wayL (B key : List (BitVec 8)) (p : Nat) (root : RefV) (x k : Nat) : List RefV := List.replicate (topn p - k) zref ++ (wayG B key p root x k).1
theorem wayL_zero {x : Nat} : (List.replicate (topn p + 1) zref).set (topn p) root = wayL B key p root x 0 := by
 unfold wayL
 show _ = List.replicate (topn p) zref ++ [root]
 rw [List.replicate_succ', List.set_append_right _ _ (by simp)]
 simp
theorem wayL_length {x k : Nat} (hk : k ≤ topn p) (h : (wayG B key p root x k).2 = 0) : (wayL B key p root x k).length = topn p + 1 := by
 unfold wayL
 rw [List.length_append, List.length_replicate, wayG_length k h]
 omega
theorem wayL_head {x k : Nat} : (wayL B key p root x k).getD (topn p - k) zref = (wayG B key p root x k).1.getD 0 zref := by
 unfold wayL
 rw [List.getD_eq_getElem?_getD, List.getElem?_append_right (by simp), List.length_replicate, Nat.sub_self, List.getD_eq_getElem?_getD]
theorem wayL_set {x k : Nat} (hk : k < topn p) (h : (wayG B key p root x k).2 = 0) (h2 : (fkT B key p (itp p x (topn p - k) : Int) ((wayG B key p root x k).1.getD 0 zref)).2 = 0) : (wayL B key p root x k).set (topn p - (k + 1)) ((fkT B key p (itp p x (topn p - k) : Int) ((wayG B key p root x k).1.getD 0 zref)).1.getD (parN p (itp p x (topn p - (k + 1)))).2 zref) = wayL B key p root x (k + 1) := by
 have e := wayG_step h
 rw [if_neg (fun n => n h2)] at e
 unfold wayL
 rw [e]
 show _ = List.replicate (topn p - (k + 1)) zref ++ (_ :: _)
 rw [show topn p - k = (topn p - (k + 1)) + 1 by omega, List.replicate_succ', List.append_assoc, List.set_append_right _ _ (by simp)]
 simp
theorem wayL_wf (hr : root.Wf) (x k : Nat) : ∀ r ∈ wayL B key p root x k, r.Wf := by
 intro r h
 rcases List.mem_append.1 h with h | h
 ·rw [List.eq_of_mem_replicate h]; exact zref_wf
 ·exact wayG_wf hr x k r h
theorem wayL_last {x : Nat} : wayL B key p root x (topn p) = (wayG B key p root x (topn p)).1 := by
 unfold wayL
 rw [Nat.sub_self]
 rfl
end
end Sha
end Go.Proofs.YtajdpbbbocnfiaaGreatDoor
namespace Go.Proofs.YtajdpbbbocnfiaaGreatDoor
namespace Sha
open Go.RowKit Mem
theorem txt_add {D : Foot} {wr w2 w3 w5 : World} {v v' v2 : Value} {x : List (BitVec 8)} {l : List (List (BitVec 8))} {hs : List Value} {B : Nat} (he : Each2 (fun p q => SlB D wr p q) hs l) (hown : wr.ownsRow B 39 1 v l.length hs) (hd : ∀ k, D k → k < wr.heap.size ∧ v.ownBlock ≠ some k)
 (hb : Below wr.heap.size wr w2) (ho : OwnB w2 wr.heap.size v2 x) (hb2 : Below w2.heap.size w2 w3) (ha : App w3 w5 v v') :
 ∃ D' : Foot, Each2 (fun p q => SlB D' w5 p q) (hs ++ [v2]) (l ++ [x]) ∧ ∀ k, D' k → k < w5.heap.size ∧ v'.ownBlock ≠ some k := by
 have hb3 : Below wr.heap.size wr w3 := hb.trans (hb2.mono hb.size)
 have z3 := hb3.size
 have z2 := hb2.size
 have z5 := ha.size
 have s2 : SlB (fun k => D k ∨ v2.ownBlock = some k) w3 v2 x := by
  have h0 : SlB (fun k => D k ∨ v2.ownBlock = some k) w2 v2 x := by
   refine ⟨by simp [u8s_length], ?_⟩
   obtain ⟨a, cap, e, hc, hr⟩ := ho.open
   refine ⟨a, cap, e, hc, fun hne => ?_⟩
   obtain ⟨g, ea, _, hlt, hcell⟩ := hr (fun h0 => hne (by rw [h0]; rfl))
   refine ⟨g, 0, ea, .inr (by rw [e, ea]; rfl), hlt, fun j u hu => ?_⟩
   have hj : j < x.length := by
    have := (List.getElem?_eq_some_iff.1 hu).1
    rwa [u8s_length] at this
   rw [Nat.zero_add, hcell j hj, ← u8s_get x j hj, hu]
  exact h0.keep hb2.size fun k _ hlt => hb2.block k hlt
 have e3 : Each2 (fun p q => SlB (fun k => D k ∨ v2.ownBlock = some k) w3 p q) (hs ++ [v2]) (l ++ [x]) :=
  Each2.snoc s2 (he.mono fun _ _ g => (g.keep hb3.size fun k _ hlt => hb3.block k hlt).mono fun _ hk _ => .inl hk)
 have hd' : ∀ k, (D k ∨ v2.ownBlock = some k) → k < w3.heap.size ∧ v.ownBlock ≠ some k := fun k hk => by
  rcases hk with hk | hk
  ·exact ⟨Nat.lt_of_lt_of_le (hd k hk).1 z3, (hd k hk).2⟩
  ·have h6 := ho.lt k hk
   refine ⟨by omega, fun e => ?_⟩
   have := (World.ownsRow.lt hown k e).2
   omega
 refine ⟨fun k => D k ∨ v2.ownBlock = some k, e3.mono fun _ _ g => g.keep z5 fun k hk hlt => ha.k k hlt (hd' k hk).2, fun k hk => ?_⟩
 obtain ⟨h1, h2⟩ := hd' k hk
 refine ⟨by omega, fun e => ?_⟩
 rcases ha.b with e2 | ⟨g, e2, hg⟩
 ·rw [e2] at e; exact h2 e
 ·rw [e2] at e
  have : g = k := by simpa using e
  omega
theorem own_sls {D : Foot} {w : World} {v : Value} {l : List (List (BitVec 8))} {hs : List Value} {B : Nat} (he : Each2 (fun p q => SlB D w p q) hs l) (hown : w.ownsRow B 39 1 v l.length hs) : Sls w v l := by
 have hR := ownsRow_slR hown
 obtain ⟨hl, a, cap, rfl, hc, hr⟩ := hR
 refine ⟨a, cap, rfl, hc, fun hne => ?_⟩
 obtain ⟨bb, oo, ea, _, hlt, hcell⟩ := hr (fun h0 => hne (List.eq_nil_of_length_eq_zero h0))
 refine ⟨bb, oo, ea, hlt, fun i hi => ?_⟩
 obtain ⟨u, hu, hs2⟩ := Each2.at he (i := i) (y := l.getD i []) (by rw [List.getD_eq_getElem?_getD, List.getElem?_eq_getElem hi]; rfl)
 exact ⟨u, hcell i u hu, hs2.sl⟩
end Sha
end Go.Proofs.YtajdpbbbocnfiaaGreatDoor
namespace Go.Proofs.YtajdpbbbocnfiaaGreatDoor
namespace Sha
open Go.RowKit Mem
set_option maxRecDepth 100000
set_option maxHeartbeats 4000000 in
theorem pages_any (ts : List (List (BitVec 8))) (v : Value) (w : World) (hv : Sls w v ts) (hn : ts.length ≤ 1000) : Calls Tryz.prog 8 #[v] w fun e w' => ∃ v', e = .returned v' ∧ Sls w' v' (ts.map pageL) ∧ Below w.heap.size w w' := by
 obtain ⟨i8, hi8, hz8, hs8, hb8⟩ := info_parts infoU8
 have hv0 := hv
 obtain ⟨asx, caps, rfl, _, _⟩ := hv0
 obtain ⟨n, hnn⟩ : ∃ n, n = ts.length := ⟨_, rfl⟩
 rw [← hnn] at hv hn ⊢
 have HS := zh hv; have HN := zh hnn
 have I8 := zh hi8; have Z8 := zh hz8; have S8 := zh hs8; have B8' := zh hb8
 clear hv hnn hi8 hz8 hs8 hb8
 go_enter Tryz.func8, Tryz.ntmps8
 go_wp2_with fail
 go_loopw [3, 9] (fun v i wr => ∃ j : Nat, j ≤ n ∧ i = .int .i64 j ∧ ∃ v' D hs, v' = v ∧ Each2 (fun p q => SlB D wr p q) hs ((ts.map pageL).take j) ∧ wr.ownsRow w.heap.size 39 1 v' j hs ∧ (∀ k, D k → k < wr.heap.size ∧ v'.ownBlock ≠ some k) ∧ Below w.heap.size w wr) (fun _ i _ => n - (intOf i).toNat)
 case atStart => exact ⟨0, by omega, rfl, _, fun _ => False, [], rfl, trivial, ownsRow_nil0 _ _ _ _, fun k hk => hk.elim, Below.refl _ _⟩
 case round =>
  obtain ⟨j, hj, rfl, v, D, hs, rfl, he, hown, hd, hb⟩ := hrel
  by_cases hlt : j < n
  ·have hlt' : (j : Int) < (n : Int) := by omega
   have hps : j < ts.length := by rw [← HN.out]; exact hlt
   obtain ⟨pb, po, vi, rfl, hpb, hcell, hsl⟩ := sls_at (HS.out.below hb) hps
   have htk : (ts.map pageL).take (j + 1) = (ts.map pageL).take j ++ [pageL (ts.getD j [])] := by
    rw [List.take_add_one, List.getElem?_map, List.getElem?_eq_getElem hps, List.getD_eq_getElem?_getD, List.getElem?_eq_getElem hps]; rfl
   have htl : ((ts.map pageL).take j).length = j := by rw [List.length_take, List.length_map]; omega
   obtain ⟨p, hp⟩ : ∃ p, p = ts.getD j [] := ⟨_, rfl⟩
   rw [← hp] at hsl htk
   obtain ⟨a1, c1, rfl⟩ := sl_inv hsl
   obtain ⟨k, hk⟩ : ∃ k, k = Nat.min p.length 256 := ⟨_, rfl⟩
   have hsp := splice_page p k hk
   have hk256 : k ≤ 256 := by rw [hk]; exact Nat.min_le_right _ _
   have pl := pageL_length p
   obtain ⟨M, hM⟩ : ∃ M, M = (u8s (pageL p)).toArray := ⟨_, rfl⟩
   rw [← hM] at hsp
   obtain ⟨av, cv, rfl⟩ := rows_hd hown
   have OW := zh hown; have HE := zh he; have HD := zh hd; have BB := zh hb; have TK := zh htk; have TL := zh htl; have SL := zh hsl; have SP := zh hsp; have HK := zh hk; have HM := zh hM; have PL := zh pl
   clear hown he hd hb htk htl hsl hps hp hpb hsp hk hM pl
   go_upto_region 6 with (refine wpList_make_full _ zr _ _ 39 zr wr.heap.size 5 i8 (.int .u8 0) 1 Tryz.underlying39 I8.out Z8.out S8.out .i64 .i64 256 256 256 zr zr rfl rfl (by rw [B8'.out]; omega) (by simp [maxLen]) (Nat.le_refl _) ?_; intro w4 ho4 hg4; have R4 : Hid (At w4 wr.heap.size (u8s (List.replicate 256 0)).toArray 5) := zh (by have h := own_full ho4; rw [made_zeros] at h; exact h); have B4 : Hid (Below wr.heap.size wr w4) := zh ((Below.refl _ _).grown hg4 (Nat.le_refl _) (fun _ h => by cases h)); clear ho4 hg4)
   clear hcell
   obtain ⟨g, hg⟩ : ∃ g, g = wr.heap.size := ⟨_, rfl⟩
   have HG := zh hg
   have SL4 := zh (SL.out.below B4.out)
   rw [← hg] at R4 ⊢
   clear hg
   go_upto_region 7 with (refine wpList_copy_sl zr _ _ zr g 0 256 256 (.slice a1 p.length c1) p zr zr SL4.out k HK.out _ _ R4.out (by simp [u8s]; omega) _ SP.out ?_; intro w5 ha5 hs5 ho5 hbb5; have R5 := zh ha5; have B5 := zh (hbb5 _ _ B4.out (by rw [HG.out]; exact Nat.le_refl _)); clear ha5 hs5 ho5 hbb5)
   have O5 : Hid (OwnB w5 wr.heap.size (.slice (some ⟨g, 0, none⟩) 256 256) (pageL p)) := zh (by
    have h := own_fulls (L := pageL p) (by rw [← HM.out]; exact R5.out) (by rw [HG.out]; exact Nat.le_refl _) (by rw [PL.out]; decide)
    rw [PL.out] at h
    exact h)
   have L3 : Hid (Below w5.heap.size w5 (w5.alloc (.cells #[.slice (some ⟨g, 0, none⟩) 256 256] 39))) := zh ((Below.refl _ _).alloc (Nat.le_refl _) _)
   have OW3 := zh (ownsRow_below (ownsRow_below OW.out B5.out) L3.out)
   have B3 : Hid (Below w.heap.size w (w5.alloc (.cells #[.slice (some ⟨g, 0, none⟩) 256 256] 39))) := zh ((BB.out.trans (B5.out.mono BB.out.size)).trans (L3.out.mono (Nat.le_trans BB.out.size B5.out.size)))
   clear R4 R5 B4 SL4
   go_wp2_with (first
    | (at_builtin; go_loud (refine wpList_append_app zr _ _ 24 zr (.slice (some ⟨w5.heap.size, 0, none⟩) 1 1) j 1 1 [.slice (some ⟨g, 0, none⟩) 256 256] (.slice none 0 0) 24 elemRS9 zr (by decide) zr OW3.out zr (rdR_new (w := w5) (e := 39) (C := #[.slice (some ⟨g, 0, none⟩) 256 256])) (by simp [Value.oneCell']) (by omega) (by omega) B3.out.size ?_); intro v6 w6 ho6 ha6 hb6; have O6 := zh ho6; have A6 := zh ha6; have B6 := zh (B3.out.trans hb6); clear ho6 ha6 hb6))
   obtain ⟨D', e5, d5⟩ := txt_add HE.out (by rw [TL.out]; exact OW.out) HD.out B5.out O5.out L3.out A6.out
   have E5 := zh e5; have D5 := zh d5
   clear e5 d5
   go_roundw
   case rel => exact ⟨j + 1, by omega, by go_num, v6, D', _, rfl, by rw [TK.out]; exact E5.out, O6.out, D5.out, B6.out⟩
   case measure => simp [intOf]; omega
  ·have hj2 : j = n := by omega
   have hge : ¬ (j : Int) < (n : Int) := by omega
   have hml : (ts.map pageL).length = n := by rw [List.length_map]; exact HN.out.symm
   have htk : (ts.map pageL).take j = ts.map pageL := List.take_of_length_le (by omega)
   rw [htk] at he
   have SF := zh (own_sls he (by rw [hml, ← hj2]; exact hown))
   have BF := zh hb
   clear he hown hd hb htk hml
   go_wp2_with fail
   go_ret
   exact ⟨_, rfl, SF.out, BF.out⟩
def farP (P : List (List (BitVec 8))) : Bool := decide (14 < P.length ∧ P.length ≤ 216 ∨ 300 < P.length) || P.any fun p => decide (600 < p.length)
theorem farP_no {P : List (List (BitVec 8))} (h : farP P = false) : (P.length ≤ 14 ∨ 216 < P.length ∧ P.length ≤ 300) ∧ ∀ p ∈ P, p.length ≤ 600 := by
 unfold farP at h
 rw [Bool.or_eq_false_iff] at h
 have h1 := of_decide_eq_false h.1
 refine ⟨by omega, fun p hp => ?_⟩
 have := List.any_eq_false.1 h.2 p hp
 have := of_decide_eq_false (by simpa using this : decide (600 < p.length) = false)
 omega
set_option maxHeartbeats 2000000 in
theorem far14_any (ts : List (List (BitVec 8))) (v : Value) (w : World) (hv : Sls w v ts) : Calls Tryz.prog 6 #[v] w (fun e w' => e = .returned (.bool (farP ts)) ∧ w' = w) := by
 have hv0 := hv
 obtain ⟨asx, caps, rfl, _, _⟩ := hv0
 by_cases hbig : 14 < ts.length ∧ ts.length ≤ 216 ∨ 300 < ts.length
 ·have hy : farP ts = true := by unfold farP; rw [decide_eq_true hbig]; rfl
  rw [hy]
  obtain ⟨n, hnn⟩ : ∃ n, n = ts.length := ⟨_, rfl⟩
  rw [← hnn] at hbig ⊢
  clear hv hy hnn
  rcases hbig with ⟨h1, h2⟩ | h1
  ·have g1 : (14 : Int) < (n : Int) := by omega
   have g2 : (n : Int) ≤ 216 := by omega
   go_enter Tryz.func6, Tryz.ntmps6
   go_wp2_with fail
   go_ret
   exact ⟨rfl, rfl⟩
  ·have g1 : (14 : Int) < (n : Int) := by omega
   have g2 : ¬ (n : Int) ≤ 216 := by omega
   have g3 : (300 : Int) < (n : Int) := by omega
   go_enter Tryz.func6, Tryz.ntmps6
   go_wp2_with fail
   go_ret
   exact ⟨rfl, rfl⟩
 ·have hyes : ∀ j, j < ts.length → 600 < (ts.getD j []).length → farP ts = true := fun j hj h => by
   unfold farP
   rw [Bool.or_eq_true]
   right
   rw [List.any_eq_true]
   refine ⟨ts.getD j [], ?_, decide_eq_true h⟩
   rw [List.getD_eq_getElem?_getD, List.getElem?_eq_getElem hj]
   exact List.getElem_mem hj
  have hno : (∀ j, j < ts.length → (ts.getD j []).length ≤ 600) → farP ts = false := fun h => by
   unfold farP
   rw [Bool.or_eq_false_iff]
   refine ⟨decide_eq_false hbig, ?_⟩
   rw [List.any_eq_false]
   intro p hp
   obtain ⟨j, hj, e⟩ := List.mem_iff_getElem.1 hp
   have := h j hj
   rw [List.getD_eq_getElem?_getD, List.getElem?_eq_getElem hj, Option.getD_some, e] at this
   simpa using this
  obtain ⟨Y, hY⟩ : ∃ Y, Y = farP ts := ⟨_, rfl⟩
  rw [← hY] at hyes hno ⊢
  obtain ⟨n, hnn⟩ : ∃ n, n = ts.length := ⟨_, rfl⟩
  rw [← hnn] at hv hbig hyes hno ⊢
  have HS := zh hv; have HN := zh hnn; have YES := zh hyes; have NO := zh hno
  clear hv hnn hyes hno hY
  have hc : ¬ (14 : Int) < (n : Int) ∨ ((14 : Int) < (n : Int) ∧ ¬ (n : Int) ≤ 216) := by omega
  have g3 : ¬ (300 : Int) < (n : Int) := by omega
  clear hbig
  rcases hc with h1 | ⟨h1, h2⟩
  all_goals (
   go_enter Tryz.func6, Tryz.ntmps6
   go_upto_region 4 with fail
   go_loopw [20] (fun vi wr => ∃ j : Nat, j ≤ n ∧ vi = .int .i64 (j : Int) ∧ (∀ k, k < j → (ts.getD k []).length ≤ 600) ∧ wr = w) (fun vi _ => n - (intOf vi).toNat)
   case atStart => exact ⟨0, by omega, rfl, fun k hk => by omega, rfl⟩
   case round =>
    obtain ⟨j, hj, rfl, hal, rfl⟩ := hrel
    by_cases hlt : j < n
    ·have hlt' : (j : Int) < (n : Int) := by omega
     have hps : j < ts.length := by rw [← HN.out]; exact hlt
     obtain ⟨pb, po, vi, rfl, hpb, hcell, hsl⟩ := sls_at HS.out hps
     have hy := YES.out j hlt
     have hal2 : (ts.getD j []).length ≤ 600 → ∀ k, k < j + 1 → (ts.getD k []).length ≤ 600 := fun h k hk => by
      rcases Nat.lt_or_ge k j with x | x
      ·exact hal k x
      ·rw [show k = j by omega]; exact h
     obtain ⟨a1, c1, rfl⟩ := sl_inv hsl
     obtain ⟨m, hm⟩ : ∃ m, m = (ts.getD j []).length := ⟨_, rfl⟩
     rw [← hm] at hcell hy hal2
     have HY := zh hy; have AL2 := zh hal2
     clear hy hal2 hal hsl hm hps
     by_cases hbg : 600 < m
     ·have hb2 : (600 : Int) < (m : Int) := by omega
      have HY2 := zh (HY.out hbg)
      go_wp2_with fail
      go_ret
      exact ⟨by rw [HY2.out]; rfl, rfl⟩
     ·have hb2 : ¬ (600 : Int) < (m : Int) := by omega
      have AL3 := zh (AL2.out (by omega))
      go_wp2_with fail
      go_roundw
      case rel => exact ⟨j + 1, by omega, by go_num, AL3.out, by first | rfl | trivial⟩
      case measure => simp [intOf]; omega
    ·have hin : j = n := by omega
     subst hin
     have HY := zh (NO.out hal)
     have hge : ¬ (j : Int) < (j : Int) := by omega
     go_wp2_with fail
     go_ret
     exact ⟨by rw [HY.out]; rfl, rfl⟩)
theorem made_refs (n : Nat) : (madeCells (Value.agg (refC zref)).cells (n * 34)).toList = refCs (List.replicate n zref) := by
 have hw : ∀ r ∈ List.replicate n zref, r.Wf := fun r hr => by rw [List.eq_of_mem_replicate hr]; exact zref_wf
 have hz : (Value.agg (refC zref)).cells = refC zref := rfl
 have hs : (refC zref).size = 34 := refC_size zref_wf
 rw [hz]
 apply List.ext_getElem?
 intro i
 by_cases hi : i < n * 34
 ·have h1 : i / 34 < n := by omega
  have e : i = i / 34 * 34 + i % 34 := by omega
  have h2 := refCs_get (List.replicate n zref) hw (i / 34) (i % 34) (by simpa using h1) (by omega)
  rw [← e] at h2
  rw [h2, List.getD_eq_getElem?_getD, List.getElem?_replicate, if_pos h1, Option.getD_some]
  have hr : refL zref = (refC zref).toList := rfl
  rw [hr, Array.getElem?_toList, Array.getElem?_toList]
  unfold madeCells
  rw [Array.getElem?_map, Array.getElem?_range, if_pos hi, Option.map_some, hs]
  have hlt : i % 34 < (refC zref).size := by omega
  rw [Array.getElem?_eq_getElem hlt, getElem!_pos (refC zref) (i % 34) hlt]
 ·rw [List.getElem?_eq_none (by rw [Array.length_toList, size_madeCells]; omega), List.getElem?_eq_none (by rw [refCs_length _ hw, List.length_replicate]; omega)]
theorem made_none (n : Nat) : (madeCells (Value.slice none 0 0).cells (n * 1)).toList = List.replicate n (.slice none 0 0) := by
 rw [Nat.mul_one]
 exact toList_madeCells_one _ n
theorem each_none (D : Foot) (w : World) : ∀ n, Each2 (fun p q => SlB D w p q) (List.replicate n (.slice none 0 0)) (List.replicate n [])
 | 0 => trivial
 | n + 1 => ⟨slB_nil _ _, each_none D w n⟩
theorem Each2.set {α β : Type} {R : α → β → Prop} : ∀ {l : List α} {m : List β} (i : Nat) {x : α} {y : β}, Each2 R l m → R x y → Each2 R (l.set i x) (m.set i y)
 | [], [], _, _, _, _, _ => trivial
 | _ :: _, _ :: _, 0, _, _, h, hr => ⟨hr, h.2⟩
 | _ :: _, _ :: _, i + 1, _, _, h, hr => ⟨h.1, Each2.set i h.2 hr⟩
theorem own_set1 {w : World} {B i n : Nat} {t : TypeId} {v x : Value} {hs : List Value} (h : w.ownsRow B t 1 v n hs) (hi : i < n) :
 ∃ g cap cur, v = .slice (some ⟨g, 0, none⟩) n cap ∧ B ≤ g ∧ g < w.heap.size ∧ At w g cur t ∧ i < cur.size ∧ ∀ w', At w' g (cur.setIfInBounds i x) t → w'.ownsRow B t 1 v n (hs.set i x) := by
 have hl0 := h.1
 rcases h.2 with ⟨_, h0⟩ | ⟨g, cap, cur, rfl, hg, hh, hn, hm, hsz, ht⟩
 ·omega
 refine ⟨g, cap, cur, rfl, hg, (Array.getElem?_eq_some_iff.1 hh).1, hh, by rw [hsz]; omega, fun w' hA => ⟨by rw [List.length_set]; exact hl0, .inr ⟨g, cap, cur.setIfInBounds i x, rfl, hg, hA, hn, hm, ?_, ?_⟩⟩⟩
 ·rw [Array.size_setIfInBounds]; exact hsz
 ·rw [Array.toList_setIfInBounds, ← ht]
  exact List.take_set
end Sha
end Go.Proofs.YtajdpbbbocnfiaaGreatDoor
