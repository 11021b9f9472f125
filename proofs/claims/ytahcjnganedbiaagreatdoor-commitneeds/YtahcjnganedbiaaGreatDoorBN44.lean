/- The program's commit: Plan (written by complan.py). Layer 16's law: alive (written by comalive.py). -/
import Derived.Test.YtahcjnganedbiaaGreatDoorBN43
import Derived.Test.YtahcjnganedbiaaGreatDoorBN09
import Derived.Test.YtahcjnganedbiaaGreatDoorBN38
import Derived.Test.YtahcjnganedbiaaGreatDoorBN22
import Derived.Test.YtahcjnganedbiaaGreatDoorBN00
namespace Go.Proofs.YtahcjnganedbiaaGreatDoor
namespace Sha
open Go.RowKit Mem
set_option maxRecDepth 100000
theorem RMap.ext {w : World} {B bm c : Nat} {f : Int → Option Value} {Q Q' : Nat → Prop} {M M' : Nat → List RefV} (h : RMap w B bm f Q M c) (hs : ∀ q, Q' q → Q q) (hM : ∀ q, Q' q → M' q = M q) : RMap w B bm f Q' M' c :=
 let ⟨m, g, own, dis⟩ := h
 ⟨m, g, fun q hq => by rw [hM q hq]; exact own q (hs q hq), fun q q' a b => dis q q' (hs q a) (hs q' b)⟩
def AtCh (C : List ChV) (k m : Nat) : Prop := (∀ i, i < k → (C.getD i zch).1 < (m : Int)) ∧ ∀ i, k ≤ i → i < C.length → (m : Int) ≤ (C.getD i zch).1
section
variable {key : List (BitVec 8)} {ep : BitVec 32} {p : Nat} {root : RefV} {N : List NdV} {C : List ChV}
theorem atCh_zero (G : GoodC p root N C) : AtCh C 0 0 := ⟨fun i h => by omega, fun i _ h => (((may_iff p N C).1 G.may).1 i h).1.1⟩
theorem atCh_next (G : GoodC p root N C) {k m : Nat} (h : AtCh C k m) (hk : k < C.length) : ∃ x : Nat, (C.getD k zch).1 = (x : Int) ∧ x < p ∧ m ≤ x ∧ (C.getD k zch).2.length = 256 ∧ tchC p C x = true ∧ chgP C x = some (C.getD k zch).2 ∧ AtCh C (k + 1) (x + 1) ∧ ∀ i, m ≤ i → i < x → tchC p C i = false := by
 have hr := ((may_iff p N C).1 G.may).1
 obtain ⟨⟨a, b⟩, c, _⟩ := hr k hk
 have hm := h.2 k (Nat.le_refl _) hk
 obtain ⟨x, hx⟩ : ∃ x : Nat, (C.getD k zch).1 = (x : Int) := ⟨(C.getD k zch).1.toNat, by omega⟩
 refine ⟨x, hx, by omega, by omega, c, ?_, chgP_get hr hk hx, ⟨fun i hi => ?_, fun i h1 h2 => ?_⟩, fun i h1 h2 => ?_⟩
 ·unfold tchC
  rw [if_pos (by omega)]
  have : (x : Int) ∈ pgsC C := mem_pgsC.2 ⟨k, hk, hx⟩
  simpa using this
 ·rcases Nat.lt_or_ge i k with g | g
  ·have := h.1 i g; omega
  ·have : i = k := by omega
   subst this; omega
 ·have := rise_lt hr k i (by omega) h2; omega
 ·unfold tchC
  rw [if_pos (by omega)]
  have : (i : Int) ∉ pgsC C := fun hh => by
   obtain ⟨j, hj, e⟩ := mem_pgsC.1 hh
   rcases Nat.lt_or_ge j k with g | g
   ·have := h.1 j g; omega
   ·rcases Nat.eq_or_lt_of_le g with e2 | g2
    ·subst e2; omega
    ·have := rise_lt hr k j g2 hj; omega
  simpa using this
theorem atCh_end (_G : GoodC p root N C) {m : Nat} (h : AtCh C C.length m) : ∀ i, m ≤ i → i < p → tchC p C i = false := fun i h1 h2 => by
 unfold tchC
 rw [if_pos h2]
 have : (i : Int) ∉ pgsC C := fun hh => by
  obtain ⟨j, hj, e⟩ := mem_pgsC.1 hh
  have := h.1 j hj; omega
 simpa using this
theorem tch_node {i : Nat} (h : p ≤ i) : tchC p C i = isN p (pgsC C) i := by unfold tchC; rw [if_neg (by omega)]
theorem isN_low {i : Nat} (h : i < p) : isN p (pgsC C) i = false := by unfold isN; rw [decide_eq_false (by omega), Bool.false_and]
def AtNd (p : Nat) (C : List ChV) (j m : Nat) : Prop := p ≤ m ∧ (List.range m).filter (isN p (pgsC C)) = (needT p (pgsC C)).take j
theorem atNd_zero : AtNd p C 0 p := ⟨Nat.le_refl _, by
 rw [List.take_zero, List.filter_eq_nil_iff]
 intro i hi
 rw [isN_low (List.mem_range.1 hi)]
 decide⟩
theorem atNd_next {j m : Nat} (h : AtNd p C j m) (hj : j < (needT p (pgsC C)).length) : QC p C ((needT p (pgsC C)).getD j 0) ∧ m ≤ (needT p (pgsC C)).getD j 0 ∧ AtNd p C (j + 1) ((needT p (pgsC C)).getD j 0 + 1) ∧ (needT p (pgsC C)).take (j + 1) = (needT p (pgsC C)).take j ++ [(needT p (pgsC C)).getD j 0] ∧ ∀ i, m ≤ i → i < (needT p (pgsC C)).getD j 0 → tchC p C i = false := by
 obtain ⟨a, b, c⟩ := filter_at (isN p (pgsC C)) (itn p) j hj
 obtain ⟨h1, h2⟩ := h
 obtain ⟨x, hx⟩ : ∃ x, x = (needT p (pgsC C)).getD j 0 := ⟨_, rfl⟩
 have hx' : ((List.range (itn p)).filter (isN p (pgsC C))).getD j 0 = x := hx.symm
 rw [hx'] at a b c
 rw [← hx]
 have hc : (List.range x).filter (isN p (pgsC C)) = (needT p (pgsC C)).take j := c
 have hm : m ≤ x := filter_le _ (h2.trans hc.symm) b
 have ht : (needT p (pgsC C)).take (j + 1) = (needT p (pgsC C)).take j ++ [x] := by
  rw [List.take_add_one, List.getElem?_eq_getElem hj, hx, List.getD_eq_getElem?_getD, List.getElem?_eq_getElem hj]; rfl
 refine ⟨⟨a, b⟩, hm, ⟨by have := ((isN_iff p _ x).1 b).1; omega, ?_⟩, ht, fun i g1 g2 => ?_⟩
 ·rw [filter_succ, hc, if_pos b, ht]
 ·rw [tch_node (by omega)]
  exact filter_gap _ (h2.trans hc.symm) i g1 g2
theorem atNd_end {m : Nat} (h : AtNd p C (needT p (pgsC C)).length m) (_hm : m ≤ itn p) : ∀ i, m ≤ i → i < itn p → tchC p C i = false := fun i g1 g2 => by
 obtain ⟨h1, h2⟩ := h
 rw [List.take_length] at h2
 rw [tch_node (by omega)]
 exact filter_gap _ h2 i g1 g2
theorem nds_map (G : GoodC p root N C) : ndsC key ep p root N C (itn p) = (needT p (pgsC C)).map fun (q : Nat) => ((q : Int), refsC key ep p root N C (itn p) q) := by
 unfold ndsC
 show (needT p (pgsC C)).map _ = _
 refine List.map_congr_left fun q hq => ?_
 have hq := (mem_need p _ q).1 hq
 have hp := ((isN_iff p _ q).1 hq.2).1
 have hk := node_kids p q G.h0 G.h1 hp hq.1
 congr 1
 refine refs_ext (refsC_length _ _) (refsC_length _ _) fun t ht => ?_
 rw [refsC_get _ _ _ ht, refsC_get _ _ _ ht, if_pos (by omega), if_pos (by omega)]
end
section
variable {w1 w w2 : World} {bd bm : Nat} {f : Int → Option Value} {key : List (BitVec 8)} {ep : BitVec 32} {p : Nat} {root : RefV} {vp : Value} {D : Foot} {ws : List (Nat × Value)} {N : List NdV} {C : List ChV}
def DrM (w1 w : World) (bd bm : Nat) (f : Int → Option Value) (key : List (BitVec 8)) (ep : BitVec 32) (p : Nat) (root : RefV) (N : List NdV) (C : List ChV) (m : Nat) (vp : Value) (D : Foot) (ws : List (Nat × Value)) : Prop := DrI w1 w bd bm f key ep p (rootC key ep p root N C m) (QC p C) (refsC key ep p root N C m) vp D ws (putsC key ep p root N C m)
theorem DrM.skip {m x : Nat} (h : DrM w1 w bd bm f key ep p root N C m vp D ws) (hm : m ≤ x) (hx : x < itn p) (hs : ∀ i, m ≤ i → i < x → tchC p C i = false) : DrM w1 w bd bm f key ep p root N C x vp D ws := by
 obtain ⟨a, b⟩ := skip_any (key := key) (ep := ep) (root := root) (N := N) x hm hs
 exact DrI.alike h (by rw [rootC_lt hx, rootC_lt (by omega)]) (fun q _ => b q) a
theorem DrM.fin {m : Nat} (G : GoodC p root N C) (h : DrM w1 w bd bm f key ep p root N C m vp D ws) (hm : m ≤ itn p) (hs : ∀ i, m ≤ i → i < itn p → tchC p C i = false) : DrM w1 w bd bm f key ep p root N C (itn p) vp D ws := by
 obtain ⟨a, b⟩ := skip_any (key := key) (ep := ep) (root := root) (N := N) (itn p) hm hs
 refine DrI.alike h ?_ (fun q _ => b q) a
 by_cases e : m = itn p
 ·rw [e]
 ·have hb := itn_big p G.h0 G.h1
  have hn := sel_none (key := key) (ep := ep) (root := root) (N := N) (hs (itn p - 1) (by omega) (by omega))
  rw [rootC_lt (show m < itn p by omega)]
  unfold rootC
  rw [if_pos (Nat.le_refl _), frC_none hn]
  rfl
end
set_option maxHeartbeats 8000000 in
theorem pplan_good (key : List (BitVec 8)) (ep : BitVec 32) (p : Nat) (root : RefV) (N : List NdV) (C : List ChV) (vn vc : Value) (w : World) (hT : TT w) (lk : key.length = 32) (hn : SlNd w vn N) (hc : SlCh w vc C) (hN : NdWf N) (hl : C.length ≤ 1000) (G : GoodC p root N C) :
 Calls Tryz.prog 21 #[.pointer none, .agg (u8s key).toArray, .int .u32 (V ep), .agg (psC p), .agg (refC root), vn, vc] w (PlEnd w (putsC key ep p root N C (itn p), ndsC key ep p root N C (itn p), rootC key ep p root N C (itn p), 0)) := by
 have h0 := G.h0
 have h1 := G.h1
 have hit := itn_le259 p h1
 have hbig := itn_big p h0 h1
 have hr := G.rw
 have ip := fun wx => isPlace16_any root.pl wx
 have my := fun wx (h : Below w.heap.size w wx) => pmay_any p N C vn vc wx (hn.below h) (hc.below h) hN h1 hl
 rw [G.may] at my
 have nd := fun wx (h : Below w.heap.size w wx) => pneedOf_any p C vc wx (hc.below h) h1 hl
 have hpd : decide (0 ≤ root.pl ∧ root.pl ≤ 1) = true := G.rt
 have ro := fun vk wx (h : Below w.heap.size w wx) (hk : SlI wx vk (needI p (pgsC C))) => prefsOf_any N (needT p (pgsC C)) vn vk wx (hn.below h) hN hk (by have := needT_len p (pgsC C) h1; omega) (fun i hi => by have := ((mem_need p _ i).1 hi).1; omega)
 have bld0 := fun bm wx => build_dr key lk ep p root hr bm wx
 have hnl : (needI p (pgsC C)).length = (needT p (pgsC C)).length := by unfold needI; exact List.length_map ..
 have hng := fun j hj => needI_get p (pgsC C) j hj
 have hnlen := needT_len p (pgsC C) h1
 obtain ⟨PK, hPK⟩ : ∃ P : World → World → Nat → Nat → (Int → Option Value) → Nat → Value → Foot → List (Nat × Value) → Prop, P = fun w1 w bd bm f m vp D ws => DrM w1 w bd bm f key ep p root N C m vp D ws := ⟨_, rfl⟩
 have hfirst0 : ∀ w1 w3 bm f, Below w1.heap.size w1 w3 → RMap w3 w1.heap.size bm f (fun q => q ∈ needT p (pgsC C)) (fun q => findD N (q : Int)) 1000 → PK w1 (w3.alloc (.cells (drC key ep p root bm (.slice none 0 0)) 118)) w3.heap.size bm f 0 (.slice none 0 0) (fun _ => False) [] := fun w1 w3 bm f hb hm => by
  rw [hPK]
  show DrI _ _ _ _ _ _ _ _ _ _ _ _ _ _ _
  rw [rootC_lt (by omega)]
  have hM : ∀ q, QC p C q → refsC key ep p root N C 0 q = findD N (q : Int) := fun q hq => refsC_zero q (((may_iff p N C).1 G.may).2 q hq.1 hq.2).1
  have hm2 := (hm.below ((Below.refl _ _).alloc (Nat.le_refl _) (.cells (drC key ep p root bm (.slice none 0 0)) 118)))
  exact ⟨hb.alloc hb.size _, hb.size, at_new _ _ _, hm2.ext (fun q hq => (mem_need p _ q).2 hq) hM, trivial, World.ownsRow_nil _ _ _ _, fun _ h => h.elim, lk, hr, fun q hq r hrr => findD_wf hN.w _ r (by rw [← hM q hq]; exact hrr)⟩
 have hch := fun k m (h : AtCh C k m) hk => atCh_next G h hk
 have hce := fun m h => atCh_end (m := m) G h
 have hhide := fun (w1 wx : World) bd bm f vp D ws (x k : Nat) (hk : k < C.length) (hx : (C.getD k zch).1 = (x : Int)) (hxp : x < p) (hl2 : (C.getD k zch).2.length = 256) (ht : tchC p C x = true) (hcp : chgP C x = some (C.getD k zch).2) (h : PK w1 wx bd bm f x vp D ws) (hT1 : TT w1) (v : Value) (hv : Sl wx v (C.getD k zch).2) => by
  rw [hPK] at h
  exact phide16_any (i := x) G h hT1 (by omega) ht (C.getD k zch).2 (by unfold pageC; rw [if_pos hxp]; exact hcp) hl2 v hv
 have hhn := fun (w1 wx : World) bd bm f vp D ws (i : Nat) (hq : QC p C i) (h : PK w1 wx bd bm f i vp D ws) (hT1 : TT w1) => by
  rw [hPK] at h
  exact phideNode_any (i := i) G h hT1 hq
 have hskip : ∀ w1 wx bd bm f vp D ws m x, PK w1 wx bd bm f m vp D ws → m ≤ x → x < itn p → (∀ i, m ≤ i → i < x → tchC p C i = false) → PK w1 wx bd bm f x vp D ws := fun w1 wx bd bm f vp D ws m x h a b c => by rw [hPK] at h ⊢; exact DrM.skip h a b c
 have hfin : ∀ w1 wx bd bm f vp D ws m, PK w1 wx bd bm f m vp D ws → m ≤ itn p → (∀ i, m ≤ i → i < itn p → tchC p C i = false) → PK w1 wx bd bm f (itn p) vp D ws := fun w1 wx bd bm f vp D ws m h a b => by rw [hPK] at h ⊢; exact DrM.fin G h a b
 have hPI : ∀ w1 wx bd bm f vp D ws m, PK w1 wx bd bm f m vp D ws → DrI w1 wx bd bm f key ep p (rootC key ep p root N C m) (QC p C) (refsC key ep p root N C m) vp D ws (putsC key ep p root N C m) := fun w1 wx bd bm f vp D ws m h => by rw [hPK] at h; exact h
 have hIP : ∀ w1 wx bd bm f vp D ws m, DrI w1 wx bd bm f key ep p (rootC key ep p root N C m) (QC p C) (refsC key ep p root N C m) vp D ws (putsC key ep p root N C m) → PK w1 wx bd bm f m vp D ws := fun w1 wx bd bm f vp D ws m h => by rw [hPK]; exact h
 have hn0 : AtCh C 0 0 := atCh_zero G
 have hnn0 : AtNd p C 0 p := atNd_zero
 have hnn := fun j m (h : AtNd p C j m) hj => atNd_next h hj
 have hne := fun m (h : AtNd p C (needT p (pgsC C)).length m) hm => atNd_end h hm
 have hmap := nds_map (key := key) (ep := ep) G
 have hrl := fun m q => refsC_length (key := key) (ep := ep) (p := p) (root := root) (N := N) (C := C) m q
 obtain ⟨PU, hPU⟩ : ∃ f, f = putsC key ep p root N C := ⟨_, rfl⟩
 obtain ⟨RR, hRR⟩ : ∃ f, f = rootC key ep p root N C := ⟨_, rfl⟩
 obtain ⟨RF, hRF⟩ : ∃ f, f = refsC key ep p root N C := ⟨_, rfl⟩
 have hall : (needT p (pgsC C)).take (needT p (pgsC C)).length = needT p (pgsC C) := List.take_length
 have hKg : ∀ j, j < (needT p (pgsC C)).length → (needI p (pgsC C)).getD j 0 = (((needT p (pgsC C)).getD j 0 : Nat) : Int) := fun j hj => by
  obtain ⟨i, a, b, _⟩ := hng j (by rw [hnl]; exact hj)
  rw [a, b]
 have hQw : ∀ q ∈ needT p (pgsC C), QC p C q := fun q hq => (mem_need p _ q).1 hq
 have hQm : ∀ q, QC p C q → q < itn p := fun q hq => hq.1
 obtain ⟨KI, hKI⟩ : ∃ K, K = needI p (pgsC C) := ⟨_, rfl⟩
 obtain ⟨KT, hKT⟩ : ∃ K, K = needT p (pgsC C) := ⟨_, rfl⟩
 obtain ⟨m, hm⟩ : ∃ m, m = itn p := ⟨_, rfl⟩
 rw [← hPU, ← hRR, ← hRF] at hPI hIP hhide hhn
 rw [← hPU, ← hRR]
 rw [← hRF] at hmap hrl
 rw [← hKI] at nd ro hnl hKg
 rw [← hKT] at ro hnl hnlen hfirst0 hnn hne hmap hall hKg hQw
 rw [← hm] at hskip hfin hne hmap hit hbig hQm ⊢
 rw [hmap]
 obtain ⟨kn, hkn⟩ : ∃ k, k = KT.length := ⟨_, rfl⟩
 rw [← hkn] at hnl hnlen hnn hne hall hKg
 have kc : (u8s key).toArray.size = 32 := by simp [u8s_length, lk]
 obtain ⟨DC, hDC⟩ : ∃ f : Nat → Array Value, f = fun bm => drC key ep p root bm (.slice none 0 0) := ⟨_, rfl⟩
 have bld : ∀ bm wx, (Instr.build 118 #[(0, .pointer none), (1, .agg (u8s key).toArray), (2, .int .u32 (V ep)), (3, .agg (psC p)), (4, .agg (refC root)), (5, .map (some bm))]).run Tryz.prog wx = .ok (.agg (DC bm)) wx := fun bm wx => by rw [hDC]; exact bld0 bm wx
 clear bld0
 have hfirst : ∀ w1 w3 bm f, Below w1.heap.size w1 w3 → RMap w3 w1.heap.size bm f (fun q => q ∈ KT) (fun q => findD N (q : Int)) 1000 → PK w1 (w3.alloc (.cells (DC bm) 118)) w3.heap.size bm f 0 (.slice none 0 0) (fun _ => False) [] := fun w1 w3 bm f a b => by rw [hDC]; exact hfirst0 w1 w3 bm f a b
 clear hfirst0
 obtain ⟨KC, hKC⟩ : ∃ K, K = (u8s key).toArray := ⟨_, rfl⟩
 have cs : (psC p).size = 1 := rfl
 obtain ⟨CS, hCS⟩ : ∃ C, C = psC p := ⟨_, rfl⟩
 have rs := refC_size hr; have r0 := ref0 root
 obtain ⟨RC, hRC⟩ : ∃ R, R = refC root := ⟨_, rfl⟩
 obtain ⟨pl, hpl⟩ : ∃ k, k = root.pl := ⟨_, rfl⟩
 have hxr := zeroRfP
 obtain ⟨Z, hZ⟩ : ∃ Z, Z = refC zref := ⟨_, rfl⟩
 have zs : Z.size = 34 := by rw [hZ]; exact refC_size zref_wf
 rw [← hpl] at ip hpd r0
 rw [← hCS] at my nd bld cs ⊢
 rw [← hRC] at rs r0 bld ⊢
 rw [← hKC] at kc bld ⊢
 rw [← hZ] at hxr
 have pb := plB_new w KC CS RC Z
 obtain ⟨an, cn, rfl⟩ := hn.hd
 obtain ⟨ac, cc, rfl⟩ := hc.hd
 obtain ⟨nN, hnN⟩ : ∃ n, n = N.length := ⟨_, rfl⟩
 rw [← hnN] at hn my ro ⊢
 obtain ⟨n, hnn2⟩ : ∃ n, n = C.length := ⟨_, rfl⟩
 rw [← hnn2] at hc hl my nd hch hce hhide ⊢
 unfold PlEnd
 have IP := zh ip; have MY := zh my; have PD := zh hpd; have CSZ := zh cs; have R0 := zh r0; have RS := zh rs; have KS := zh kc; have ZS := zh zs; have PB := zh pb; have NDD := zh nd; have RO := zh ro; have BLD := zh bld; have FST := zh hfirst; have CH := zh hch; have CHE := zh hce; have HH := zh hhide; have HN := zh hhn; have SKIP := zh hskip; have FIN := zh hfin; have PI := zh hPI; have IPK := zh hIP
 have N0 := zh hn0; have NN0 := zh hnn0; have NNX := zh hnn; have NNE := zh hne; have RFL := zh hrl; have ALL := zh hall; have KG := zh hKg; have QW := zh hQw; have QM := zh hQm; have NL := zh hnl; have NLE := zh hnlen; have HCV := zh hc; have HNC := zh hnn2; have TTW := zh hT; have BIG := zh hbig; have IT := zh hit; have KN := zh hkn
 clear hQm ip my hpd cs r0 rs kc zs pb nd ro bld hfirst hch hce hhide hhn hskip hfin hPI hIP hn0 hnn0 hnn hne hmap hrl hall hKg hQw hnl hnlen hc hnn2 hT hbig hit hPK hPU hRR hRF hKI hKT hm hkn hDC hKC hCS hRC hpl hZ hnN hng G lk hr hn hN
 go_enter Tryz.func21, Tryz.ntmps21
 go_upto_region 1 with fail
 rw [show (((w.alloc (.cells KC 61)).alloc (.cells CS 25)).alloc (.cells RC 69)).alloc (.cells Z 69) = plW w KC CS RC Z from rfl]
 generalize plW w KC CS RC Z = w4 at *
 have c0 : w4.cell? ⟨w.heap.size + 1 + 1, 0, none⟩ = some (.int .i64 pl) := (PB.out.r.cell 0).trans R0.out
 go_wp2_with fail
 refine (IP.out _).mono ?_
 rintro e w5 ⟨rfl, rfl⟩
 rw [PD.out]
 clear c0 hxr
 go_wp2_with (refine wpList_load_is_wanted zr 25 _ zr (w.heap.size + 1) 0 1 zr _ Tryz.underlying25 zr infoPS CS _ PB.out.s (by rw [CSZ.out]; decide) CS (by simp [CSZ.out]) ?_)
 refine (MY.out _ PB.out.b).mono ?_
 rintro e w6 ⟨rfl, hb6⟩
 have P6 := zh (PB.out.below hb6)
 clear hb6 PB
 go_wp2_with (refine wpList_load_all zr 25 _ zr (w.heap.size + 1) zr _ Tryz.underlying25 zr CS _ P6.out.s (by rw [CSZ.out]; exact infoPS) ?_)
 refine (NDD.out _ P6.out.b).mono ?_
 rintro e w1 ⟨v5, rfl, ho5, hb5⟩
 have P1 := zh (P6.out.below hb5); have S1 := zh (ownV_sli ho5)
 obtain ⟨a5, c5, e5⟩ := S1.out.hd
 subst e5
 rw [NL.out] at S1 ⊢
 have T1 : Hid (TT w1) := zh (TTW.out.below P1.out.b)
 have LZ : Hid (w.heap.size + 1 + 1 + 1 < w1.heap.size) := zh P1.out.z.lt
 clear ho5 hb5 P6
 go_upto_region 4 with fail
 refine wp_region_plan_in (fun x' => Below w1.heap.size w1 x') (.take 0 (.take 1 (.take 2 (.take 3 (.take 4 (.take 5 (.take 6 (.sole 7 (.take 8 (.sole 9 (.take 10 .done))))))))))) (by kernel_rfl) (by kernel_rfl) (by kernel_rfl) (Below.refl _ _).drew ?_
 (first | refine Mem.pm1 ?_ | refine Mem.pm2 ?_ | refine Mem.pt ?_ | refine Mem.pf ?_)
 (simp only [Act.put, Mem.pa, Mem.pb, Mem.pc])
 refine plan_row 61 _ w.heap.size _ KC 61 zr zr zr Mem.ev_a (fun w' hw' => P1.out.k.below hw' P1.out.k.lt) Tryz.underlying61 zr (by rw [KS.out]; kernel_rfl) ?_
 (simp only [Act.put, Mem.pa, Mem.pb, Mem.pc])
 (first | refine Mem.pm1 ?_ | refine Mem.pm2 ?_ | refine Mem.pt ?_ | refine Mem.pf ?_)
 (simp only [Act.put, Mem.pa, Mem.pb, Mem.pc])
 refine plan_row 25 _ (w.heap.size + 1) _ CS 25 zr zr zr Mem.ev_a (fun w' hw' => P1.out.s.below hw' P1.out.s.lt) Tryz.underlying25 zr (by rw [CSZ.out]; exact infoPS) ?_
 (simp only [Act.put, Mem.pa, Mem.pb, Mem.pc])
 refine plan_row 69 _ (w.heap.size + 1 + 1) _ RC 69 zr zr zr Mem.ev_a (fun w' hw' => P1.out.r.below hw' P1.out.r.lt) Tryz.underlying69 zr (by rw [RS.out]; exact infoRfP) ?_
 (simp only [Act.put, Mem.pa, Mem.pb, Mem.pc])
 (first | refine Mem.pm1 ?_ | refine Mem.pm2 ?_ | refine Mem.pt ?_ | refine Mem.pf ?_)
 (simp only [Act.put, Mem.pa, Mem.pb, Mem.pc])
 (first | refine Mem.pm1 ?_ | refine Mem.pm2 ?_ | refine Mem.pt ?_ | refine Mem.pf ?_)
 (simp only [Act.put, Mem.pa, Mem.pb, Mem.pc])
 refine plan_call 46 _ _ _ (by kernel_rfl) zr zr zr (by first | exact Mem.ev_none _ | (simp only [List.map_toArray, List.map_cons, List.map_nil, Mem.ev_tmp, List.getD_cons_succ, List.getD_cons_zero] <;> rfl)) ?_
 refine (RO.out _ _ (P1.out.b.drew) (S1.out.below (Below.refl _ _).drew)).mono ?_
 rintro e w3 ⟨bm, f, rfl, hrm, hb3⟩
 have D3 : Hid (Below w1.heap.size w1 w3) := zh (Below.trans (Below.refl _ _).drew hb3)
 have M3 : Hid (RMap w3 w1.heap.size bm f (fun q => q ∈ KT) (fun q => findD N (q : Int)) 1000) := zh hrm
 clear hrm hb3
 refine ⟨_, rfl, D3.out, ?_⟩
 (simp only [Act.put, Mem.pa, Mem.pb, Mem.pc])
 refine plan_build 118 _ #[(0, .pointer none), (1, .agg KC), (2, .int .u32 (V ep)), (3, .agg CS), (4, .agg RC), (5, .map (some bm))] (.agg (DC bm)) zr zr zr (by first | rfl | simp [Act.eval]) (fun wx => BLD.out _ wx) ?_
 (simp only [Act.put, Mem.pa, Mem.pb, Mem.pc])
 refine plan_box 118 _ (DC bm) zr zr zr Mem.ev_a (D3.out.alloc D3.out.size _) ?_
 have D4 : Hid (Below w1.heap.size w1 (w3.alloc (.cells (DC bm) 118))) := zh (D3.out.alloc D3.out.size _)
 have K4 := zh (FST.out w1 w3 bm f D3.out M3.out)
 (simp only [Act.put, Mem.pa, Mem.pb, Mem.pc])
 (first | refine Mem.pm1 ?_ | refine Mem.pm2 ?_ | refine Mem.pt ?_ | refine Mem.pf ?_)
 (simp only [Act.put, Mem.pa, Mem.pb, Mem.pc])
 refine plan_nil ?_
 obtain ⟨bd, hbd⟩ : ∃ bd, bd = w3.heap.size := ⟨_, rfl⟩
 rw [← hbd] at K4 ⊢
 clear hbd D3 M3
 generalize w3.alloc (.cells (DC bm) 118) = w4' at *
 go_upto_region 6 with fail
 go_loopw [54] (fun vi wr => ∃ k : Nat, k ≤ n ∧ vi = .int .i64 (k : Int) ∧ ∃ m' vp D ws, AtCh C k m' ∧ m' ≤ p ∧ PK w1 wr bd bm f m' vp D ws) (fun vi _ => n - (intOf vi).toNat)
 case atStart => exact ⟨0, by omega, rfl, 0, _, _, _, N0.out, by omega, K4.out⟩
 case round =>
  obtain ⟨k, hk, rfl, m', vp, D, ws, hat, hmp, hpk⟩ := hrel
  have AT := zh hat; have KW := zh hpk; have HMP := zh hmp
  have BW : Hid (Below w1.heap.size w1 wr) := zh (PI.out _ _ _ _ _ _ _ _ _ hpk).b
  have B0 : Hid (Below w.heap.size w wr) := zh (P1.out.b.trans (BW.out.mono P1.out.b.size))
  have VW := zh (HCV.out.below B0.out)
  clear hat hpk hmp
  by_cases hlt : k < n
  ·have hlt' : (k : Int) < (n : Int) := by omega
   obtain ⟨b1, o1, u, e1, hlb, cz0, cu0, hsu⟩ := slch_at (i := k) VW.out HNC.out hlt
   subst e1
   obtain ⟨x, hx, hxp, hmx, hl2, htc, hcp, hat2, hgap⟩ := CH.out k m' AT.out hlt
   rw [hx] at cz0
   obtain ⟨a3, cap3, rfl⟩ := sl_inv hsu
   rw [hl2] at cu0 hsu
   have cz : wr.cell? ⟨b1, o1 + k * 2, none⟩ = some (.int .i64 (x : Int)) := cz0
   have cu : wr.cell? ⟨b1, o1 + k * 2 + 1, none⟩ = some (.slice a3 256 cap3) := cu0
   have hb3 : Below wr.heap.size wr (wr.alloc (.cells (chRow (x : Int) (.slice a3 256 cap3)) 92)) := (Below.refl _ _).alloc (Nat.le_refl _) _
   have A3 := zh (at_new wr (chRow (x : Int) (.slice a3 256 cap3)) 92)
   have K3 : Hid (PK w1 (wr.alloc (.cells (chRow (x : Int) (.slice a3 256 cap3)) 92)) bd bm f x vp D ws) := zh (IPK.out _ _ _ _ _ _ _ _ _ ((PI.out _ _ _ _ _ _ _ _ _ (SKIP.out _ _ _ _ _ _ _ _ _ _ KW.out hmx (by have := BIG.out.1; omega) hgap)).below hb3))
   have CALL := zh (HH.out _ _ _ _ _ _ _ _ x k hlt hx hxp hl2 htc hcp K3.out T1.out (.slice a3 256 cap3) (hsu.below hb3))
   have AT2 := zh hat2; have XP : Hid (x + 1 ≤ p) := zh hxp
   clear cz0 cu0 hsu hx hl2 htc hcp hat2 hgap hlb hb3 hmx hxp
   obtain ⟨z, hz⟩ : ∃ z : Int, z = (x : Int) := ⟨_, rfl⟩
   rw [← hz] at A3 K3 CALL cz
   clear hz
   go_upto_region 8 with (refine wpList_store_new zr 92 _ _ zr zr (chRow z (.slice a3 256 cap3)) _ _ zr zr (by exact infoCh16) zr (chRow_one _ _ _ _) ?_)
   clear cz cu
   obtain ⟨bx, hbx⟩ : ∃ bx, bx = wr.heap.size := ⟨_, rfl⟩
   rw [← hbx] at A3 ⊢
   clear hbx
   generalize wr.alloc (.cells (chRow z (.slice a3 256 cap3)) 92) = w3 at *
   have c0 : w3.cell? ⟨bx, 0, none⟩ = some (.int .i64 z) := (A3.out.cell 0).trans rfl
   have c1 : w3.cell? ⟨bx, 1, none⟩ = some (.slice a3 256 cap3) := (A3.out.cell 1).trans rfl
   go_wp2_with fail
   refine CALL.out.mono ?_
   rintro e w5 ⟨rfl, ⟨vp', D', ws', hd, _⟩, _⟩
   have K5 := zh (IPK.out _ _ _ _ _ _ _ _ _ hd)
   clear hd c0 c1
   go_wp2_with fail
   go_roundw
   case rel => exact ⟨k + 1, by omega, by go_num, x + 1, vp', D', ws', AT2.out, XP.out, K5.out⟩
   case measure => simp [intOf]; omega
  ·have hkn : k = n := by omega
   subst hkn
   have hge : ¬ (k : Int) < (k : Int) := by omega
   have K5 : Hid (PK w1 wr bd bm f p vp D ws) := zh (SKIP.out _ _ _ _ _ _ _ _ _ _ KW.out HMP.out BIG.out.1 (CHE.out _ AT.out))
   have S5 := zh (S1.out.below BW.out)
   clear KW AT HMP
   go_upto_region 14 with fail
   have hkn1 : kn ≤ 259 := NLE.out
   obtain ⟨vp0, hvp0⟩ : ∃ v, v = vp := ⟨_, rfl⟩
   obtain ⟨wl, hwl⟩ : ∃ y, y = wr := ⟨_, rfl⟩
   rw [← hwl] at BW B0 VW K5 S5 ⊢
   clear hwl hvp0 vp0
   go_loopw [23, 71] (fun vt vi wr => ∃ j : Nat, j ≤ kn ∧ vi = .int .i64 (j : Int) ∧ ∃ m' vp D ws, AtNd p C j m' ∧ m' ≤ m ∧ PK w1 wr bd bm f m' vp D ws ∧ wr.ownsRow w1.heap.size 52 2 vt j (ndVs f (KT.take j)) ∧ ∀ k, D k → vt.ownBlock ≠ some k) (fun _ vi _ => kn - (intOf vi).toNat)
   case atStart => exact ⟨0, by omega, rfl, p, _, _, _, NN0.out, by have := BIG.out.1; omega, K5.out, by rw [List.take_zero]; exact World.ownsRow_nil _ _ _ _, fun k _ => by simp [Value.ownBlock]⟩
   case round =>
    obtain ⟨j, hj, rfl, m', vp, D, ws, hat, hmm, hpk, hown, hdis⟩ := hrel
    have AT := zh hat; have KW := zh hpk; have MM := zh hmm; have OW := zh hown; have DIS := zh hdis
    have BW : Hid (Below w1.heap.size w1 wr) := zh (PI.out _ _ _ _ _ _ _ _ _ hpk).b
    have SW := zh (S1.out.below BW.out)
    obtain ⟨at0, ct0, rfl⟩ := rows_hd hown
    clear hat hpk hmm hown hdis
    by_cases hlt : j < kn
    ·have hlt' : (j : Int) < (kn : Int) := by omega
     obtain ⟨b1, o1, e1, hlb, cx0⟩ := sli_at (i := j) SW.out NL.out.symm hlt
     subst e1
     rw [KG.out j hlt] at cx0
     obtain ⟨hq, hmi, hat2, htk, hgap⟩ := NNX.out j m' AT.out hlt
     obtain ⟨i, hi⟩ : ∃ i, i = KT.getD j 0 := ⟨_, rfl⟩
     rw [← hi] at cx0 hq hmi hat2 htk hgap
     have hil : i < m := QM.out i hq
     have KI1 : Hid (PK w1 wr bd bm f i vp D ws) := zh (SKIP.out _ _ _ _ _ _ _ _ _ _ KW.out hmi hil hgap)
     have CALL := zh (HN.out _ _ _ _ _ _ _ _ i hq KI1.out T1.out)
     have NF := zh ((PI.out _ _ _ _ _ _ _ _ _ KI1.out).nodeF OW.out)
     have AT2 := zh hat2; have TK2 := zh htk; have QI := zh hq; have IL : Hid (i + 1 ≤ m) := zh hil
     clear hq hmi hat2 htk hgap hi hlb hil
     have hi6 : i ≤ 259 := by have := IL.out; have := IT.out; omega
     have WFI := zh (wfI_nat i (by omega))
     clear hi6
     go_wp2_with fail
     refine CALL.out.mono ?_
     rintro e w5 ⟨rfl, ⟨vp', D', ws', hd, hD'⟩, hch⟩
     have O5 : Hid (w5.ownsRow w1.heap.size 52 2 (.slice at0 j ct0) j (ndVs f (KT.take j))) := zh (ownsRow_keep OW.out fun g hg => hch.block g (World.ownsRow.lt OW.out g hg).2 (NF.out g hg))
     have DIS5 : Hid (∀ k, D' k → (Value.slice at0 j ct0).ownBlock ≠ some k) := zh (fun k hk => (hD' k hk).elim (DIS.out k) fun h e => by have := (World.ownsRow.lt OW.out k e).2; omega)
     have I5 := zh hd
     obtain ⟨nm, hmm5, _⟩ := hd.mp.m
     obtain ⟨vi, hvi, hoi⟩ := hd.mp.own i QI.out
     obtain ⟨ai, ci, ei⟩ := rows_hd hoi
     rw [RFL.out] at ei
     subst ei
     have FQ : Hid ((f (i : Int)).getD (.slice none 0 0) = .slice ai (many p i) ci) := zh (by rw [hvi]; rfl)
     have MP5 := zh hmm5; have FV := zh hvi
     have cm : w5.cell? ⟨bd, 69, none⟩ = some (.map (some bm)) := hd.cells.map
     clear hd hD' hch hmm5 hvi hoi cx0
     obtain ⟨l6, hl6⟩ : ∃ l, l = many p i := ⟨_, rfl⟩
     rw [← hl6] at FQ FV
     clear hl6
     have O6 : Hid ((w5.alloc (.cells (ndRow (i : Int) (.slice ai l6 ci)) 52)).ownsRow w1.heap.size 52 2 (.slice at0 j ct0) j (ndVs f (KT.take j))) := zh (World.ownsRow.alloc O5.out _)
     have B6 : Hid (w1.heap.size ≤ (w5.alloc (.cells (ndRow (i : Int) (.slice ai l6 ci)) 52)).heap.size) := zh (by have := I5.out.b.size; simp; omega)
     have Q6 : Hid (Below w5.heap.size w5 (w5.alloc (.cells (ndRow (i : Int) (.slice ai l6 ci)) 52))) := zh ((Below.refl _ _).alloc (Nat.le_refl _) _)
     have BLN := zh (buildNd i); have BTN := zh (builtNd i)
     go_upto_region 20 with (first
      | (at_lookup; refine wpList_mapV_look zr 115 _ _ zr 42 MP5.out (i : Int) zr zr uInt16 uRf16 (.slice none 0 0) (zeroSRf _) WFI.out (.slice ai l6 ci) FQ.out ?_; (simp only [Act.put, Mem.pa, Mem.pb, Mem.pc]))
      | (refine Mem.wpList_build zr 52 _ #[(0, .int .i64 (i : Int)), (1, .slice ai l6 ci)] (.agg (ndRow (i : Int) (.slice ai l6 ci))) zr (by first | rfl | simp [Act.eval]) (fun wx => BLN.out _ _ _ wx) ?_)
      | ((refine Go.Great.wpList_buildSliceTo zr 45 52 1 _ zr _ zr _ zr Tryz.underlying45 (ndRow (i : Int) (.slice ai l6 ci)) (by first | (simp [Act.eval, Act.put]; exact BTN.out _ _ _) | (go_simp; exact BTN.out _ _ _) | (simp only [List.map_toArray, List.map_cons, List.map_nil]; exact BTN.out _ _ _)) ?_))
      | (at_builtin; go_loud (refine wpList_append_app zr _ _ 45 zr (.slice (some ⟨w5.heap.size, 0, none⟩) 1 1) j 1 2 [.int .i64 (i : Int), .slice ai l6 ci] (.agg #[.int .i64 0, .slice none 0 0]) 32 elemNd zr (by decide) zr O6.out zr (by exact rdR_new (e := 52) (C := ndRow (i : Int) (.slice ai l6 ci))) (by simp [Value.oneCell']) (by omega) (by omega) B6.out ?_); intro v8 w8 ho8 ha8 hb8; have O8 : Hid (w8.ownsRow w1.heap.size 52 2 v8 (j + 1) (ndVs f (KT.take (j + 1)))) := zh (by rw [TK2.out, ndVs_snoc f _ _ FV.out]; exact ho8); have K8 := zh (IPK.out _ _ _ _ _ _ _ _ _ (I5.out.app O5.out DIS5.out Q6.out ha8 hb8)); have DIS8 : Hid (∀ k, D' k → v8.ownBlock ≠ some k) := zh (fun k hk => by (rcases ha8.b with e | ⟨g, e, hge⟩); (· rw [e]; exact DIS5.out k hk); (· rw [e]; intro c; injection c with c; have := (I5.out.d k hk).2.1; have := Q6.out.size; omega)); clear ho8 ha8 hb8))
     clear cm
     go_wp2_with fail
     go_roundw
     case rel => exact ⟨j + 1, by omega, by go_num, i + 1, vp', D', ws', AT2.out, IL.out, K8.out, O8.out, DIS8.out⟩
     case measure => simp [intOf]; omega
    ·have hjn : j = kn := by omega
     subst hjn
     have hge : ¬ (j : Int) < (j : Int) := by omega
     have KE : Hid (PK w1 wr bd bm f m vp D ws) := zh (FIN.out _ _ _ _ _ _ _ _ _ KW.out MM.out (NNE.out _ AT.out MM.out))
     have IE := zh (PI.out _ _ _ _ _ _ _ _ _ KE.out)
     have PZ := zh (P1.out.below BW.out)
     have OE : Hid (wr.ownsRow w1.heap.size 52 2 (.slice at0 j ct0) j (ndVs f KT)) := zh (by have h := OW.out; rw [ALL.out] at h; exact h)
     have hrr := IE.out.rw
     have hre : refL (RR m) = (refC (RR m)).toList := rfl
     have hrg := IE.out.cells.root
     have res := refC_size hrr; have reo := refC_one (RR m)
     have CPZ := zh IE.out.cells.puts
     have NZ : Hid (bd ≠ w.heap.size + 1 + 1 + 1) := zh (by have := IE.out.gd; have := LZ.out; omega)
     rw [hre] at hrg
     obtain ⟨RE, hRE⟩ : ∃ R, R = refC (RR m) := ⟨_, rfl⟩
     rw [← hRE] at hrg res reo
     have HRE := zh hRE
     have RRG := zh hrg; have RES := zh res; have REO := zh reo
     clear hrr hre hrg res reo hRE KW AT DIS OW
     go_upto_region 21 with fail
     refine wp_region_plan_in (fun x' => x'.heap[bd]? = wr.heap[bd]?) (.take 0 (.take 1 (.take 2 (.take 3 (.take 4 (.take 5 (.take 6 (.take 7 (.take 8 (.take 9 (.take 10 (.sole 11 (.take 12 .done))))))))))))) (by kernel_rfl) (by kernel_rfl) (by kernel_rfl) rfl ?_
     (first | refine Mem.pm1 ?_ | refine Mem.pm2 ?_ | refine Mem.pt ?_ | refine Mem.pf ?_)
     (simp only [Act.put, Mem.pa, Mem.pb, Mem.pc])
     refine plan_nilcheck _ ⟨bd, 0, none⟩ zr zr zr Mem.ev_a ?_
     (simp only [Act.put, Mem.pa, Mem.pb, Mem.pc])
     refine plan_field 118 _ 6 bd 0 ⟨bd, 70, none⟩ zr zr zr Mem.ev_a (fun wx => by go_simp) ?_
     (simp only [Act.put, Mem.pa, Mem.pb, Mem.pc])
     refine plan_cell 68 _ _ vp _ zr zr zr Mem.ev_a (fun w' hw' => (World.cell?_of_block (a := ⟨bd, 70, none⟩) hw').trans CPZ.out) Tryz.underlying68 zr ?_
     (simp only [Act.put, Mem.pa, Mem.pb, Mem.pc])
     (first | refine Mem.pm1 ?_ | refine Mem.pm2 ?_ | refine Mem.pt ?_ | refine Mem.pf ?_)
     (simp only [Act.put, Mem.pa, Mem.pb, Mem.pc])
     (first | refine Mem.pm1 ?_ | refine Mem.pm2 ?_ | refine Mem.pt ?_ | refine Mem.pf ?_)
     (simp only [Act.put, Mem.pa, Mem.pb, Mem.pc])
     refine plan_nilcheck _ ⟨bd, 0, none⟩ zr zr zr Mem.ev_a ?_
     (simp only [Act.put, Mem.pa, Mem.pb, Mem.pc])
     refine plan_field 118 _ 4 bd 0 ⟨bd, 35, none⟩ zr zr zr Mem.ev_a (fun wx => by go_simp) ?_
     (simp only [Act.put, Mem.pa, Mem.pb, Mem.pc])
     refine plan_load_range 69 _ bd (35) _ RE zr zr zr Mem.ev_a (fun w' hw' => range_block RRG.out hw') Tryz.underlying69 zr (by rw [RES.out]; exact infoRfP) ?_
     (simp only [Act.put, Mem.pa, Mem.pb, Mem.pc])
     (first | refine Mem.pm1 ?_ | refine Mem.pm2 ?_ | refine Mem.pt ?_ | refine Mem.pf ?_)
     (simp only [Act.put, Mem.pa, Mem.pb, Mem.pc])
     (first | refine Mem.pm1 ?_ | refine Mem.pm2 ?_ | refine Mem.pt ?_ | refine Mem.pf ?_)
     (simp only [Act.put, Mem.pa, Mem.pb, Mem.pc])
     refine plan_store 69 _ _ (w.heap.size + 1 + 1 + 1) RE Z 69 zr zr zr zr Mem.ev_a Mem.ev_a (by rw [RES.out]; exact infoRfP) PZ.out.z (by rw [RES.out, ZS.out]) REO.out (by rw [setRow_other _ _ _ _ NZ.out]; rfl) ?_
     (first | refine Mem.pm1 ?_ | refine Mem.pm2 ?_ | refine Mem.pt ?_ | refine Mem.pf ?_)
     (simp only [Act.put, Mem.pa, Mem.pb, Mem.pc])
     refine plan_nil ?_
     go_wp2_with fail
     try simp only [Exit.inBlock, Exit.then]
     refine ret_vvrv zr (w.heap.size + 1 + 1 + 1) 69 RE _ _ _ _ zr zr zr zr (PZ.out.z.row RE) Tryz.underlying69 zr (by rw [RES.out]; exact infoRfP) ?_
     have ko : ∀ k, w1.heap.size ≤ k → (wr.drew.setRow (w.heap.size + 1 + 1 + 1) RE).heap[k]? = wr.heap[k]? := fun k hk => (setRow_other _ _ k _ (by have := LZ.out; omega)).trans rfl
     have hsz : (wr.drew.setRow (w.heap.size + 1 + 1 + 1) RE).heap.size = wr.heap.size := by simp
     have hmp : RMap (wr.drew.setRow (w.heap.size + 1 + 1 + 1) RE) w1.heap.size bm f (QC p C) (RF m) 1000 := IE.out.mp.keep (ko bm IE.out.mp.g) fun q v k hq hv hk => ko k (IE.out.mp.ltq hq hv hk).1
     have hno : (wr.drew.setRow (w.heap.size + 1 + 1 + 1) RE).ownsRow w1.heap.size 52 2 (.slice at0 j ct0) KT.length (ndVs f KT) := by
      rw [← KN.out]
      exact ownsRow_keep OE.out fun g hg => ko g (World.ownsRow.lt OE.out g hg).1
     have hwp := IE.out.out (w' := wr.drew.setRow (w.heap.size + 1 + 1 + 1) RE) (by omega) (fun k hk _ => ko k hk)
     refine ⟨vp, .slice at0 j ct0, by rw [← HRE.out]; rfl, hwp.mono fun k hk _ => by have := LZ.out; omega, nodes_out hno fun q hq => ?_, below_row (P1.out.b.trans (BW.out.mono P1.out.b.size)).drew (by omega) RE⟩
     obtain ⟨u, hu, ho⟩ := hmp.own q (QW.out q hq)
     exact ⟨u, hu, own_slrf ho (IE.out.mw q (QW.out q hq))⟩
theorem pplan16_any (key : List (BitVec 8)) (ep : BitVec 32) (p : Nat) (root : RefV) (N : List NdV) (C : List ChV) (vn vc : Value) (w : World) (hT : TT w) (lk : key.length = 32) (hr : root.Wf) (hn : SlNd w vn N) (hc : SlCh w vc C) (hN : NdWf N) (hl : C.length ≤ 1000) (h0 : 1 ≤ p) (h1 : p ≤ 216) :
 Calls Tryz.prog 21 #[.pointer none, .agg (u8s key).toArray, .int .u32 (V ep), .agg (psC p), .agg (refC root), vn, vc] w (PlEnd w (planT key ep p root N C)) := by
 by_cases h : mayT p N C = true ∧ plOk root = true
 ·have e : planT key ep p root N C = (putsC key ep p root N C (itn p), ndsC key ep p root N C (itn p), rootC key ep p root N C (itn p), 0) := if_pos h
  rw [e]
  exact pplan_good key ep p root N C vn vc w hT lk hn hc hN hl ⟨h0, h1, h.1, h.2, hN.w, hr⟩
 ·have e : planT key ep p root N C = ([], [], zref, 1) := if_neg h
  rw [e]
  exact pplan_bad key ep p root N C vn vc w lk hr hn hc hN h1 hl h
end Sha
end Go.Proofs.YtahcjnganedbiaaGreatDoor
namespace Go.Proofs.YtahcjnganedbiaaGreatDoor
namespace Sha
open Go.RowKit Mem
set_option maxRecDepth 100000
def r16 : RefV := ⟨1, 0, List.replicate 32 0⟩
theorem r16_wf : r16.Wf := ⟨by decide, by decide, by decide⟩
def K16 : List (BitVec 8) := List.replicate 32 0
def z256 : List (BitVec 8) := List.replicate 256 0
def N16 : List NdV := [(1, [r16])]
def C16 : List ChV := [(0, z256)]
theorem good16 : GoodC 1 zref N16 C16 := ⟨by decide, by decide, by decide +kernel, by decide, fun n hn r hr => by rw [List.mem_singleton.1 hn] at hr; rw [List.mem_singleton.1 hr]; exact r16_wf, zref_wf⟩
theorem itn16 : itn 1 = 2 := by decide
theorem plan16 : ∃ x0 x1 R dg, planT K16 2 1 zref N16 C16 = ([(2, x0), (5, x1)], [(1, R)], ⟨1, 2, dg⟩, 0) ∧ (⟨1, 2, dg⟩ : RefV).Wf := by
 have e : planT K16 2 1 zref N16 C16 = (putsC K16 2 1 zref N16 C16 (itn 1), ndsC K16 2 1 zref N16 C16 (itn 1), rootC K16 2 1 zref N16 C16 (itn 1), 0) := if_pos ⟨good16.may, good16.rt⟩
 have t0 : tchC 1 C16 0 = true := by decide +kernel
 have t1 : tchC 1 C16 1 = true := by decide +kernel
 obtain ⟨p0, hp0, hl0⟩ := page_ok (key := K16) (ep := 2) good16 (i := 0) (by decide) t0
 obtain ⟨p1, hp1, hl1⟩ := page_ok (key := K16) (ep := 2) good16 (i := 1) (by decide) t1
 have s0 := (sel_ok (key := K16) (ep := 2) good16 t0 hp0 hl0).2
 have s1 := (sel_ok (key := K16) (ep := 2) good16 t1 hp1 hl1).2
 have b0 : blkC 1 zref N16 0 = 2 := by decide +kernel
 have b1 : blkC 1 zref N16 1 = 5 := by decide +kernel
 have o1 : oplC 1 zref N16 1 = 0 := by decide +kernel
 have hw : (⟨1, 2, digestOf (sealL K16 2 (blkC 1 zref N16 1 : Nat) p1)⟩ : RefV).Wf := wf_dig _ _ _ (by decide) (by decide)
 have h1 := putsC_some s0
 have h2 := putsC_some s1
 have h3 := rootC_last (key := K16) (ep := 2) (p := 1) (root := zref) (N := N16) (C := C16) (by decide) (by decide) (s := (sealL K16 2 (blkC 1 zref N16 1 : Nat) p1, ⟨1 - oplC 1 zref N16 1, 2, digestOf (sealL K16 2 (blkC 1 zref N16 1 : Nat) p1)⟩)) (by rw [itn16]; exact s1)
 have h0 : putsC K16 2 1 zref N16 C16 0 = [] := rfl
 have h4 : ndsC K16 2 1 zref N16 C16 (itn 1) = [(1, refsC K16 2 1 zref N16 C16 1 1)] := by
  unfold ndsC
  have : (List.range (itn 1)).filter (isN 1 (pgsC C16)) = [1] := by decide +kernel
  rw [this]
  rfl
 rw [h0, b0] at h1
 rw [h1, b1] at h2
 rw [o1, b1] at h3
 rw [b1] at hw
 rw [itn16] at e h3 h4
 rw [h2, h4, h3] at e
 exact ⟨sealL K16 2 (2 : Nat) p0, sealL K16 2 (5 : Nat) p1, refsC K16 2 1 zref N16 C16 1 1, digestOf (sealL K16 2 (5 : Nat) p1), e, hw⟩
theorem need16 : needI 1 [0] = [1] := by decide +kernel
theorem build_r16 (w : World) : (Instr.build 69 #[(0, .int .i64 1)]).run Tryz.prog w = .ok (.agg (refC r16)) w := by kernel_rfl
theorem built_ch16 (w : World) (a2 : Option Addr) (l c : Nat) : (Instr.build 92 #[(1, .slice a2 l c)]).run Tryz.prog w = .ok (.agg (chRow 0 (.slice a2 l c))) w := by
 unfold chRow
 kernel_rfl
theorem builtCh16 (z : Int) (a2 : Option Addr) (l c : Nat) : Tryz.prog.builtSlice 92 1 [(0, .agg (chRow z (.slice a2 l c)))] = some (chRow z (.slice a2 l c)) := by
 unfold chRow
 kernel_rfl
theorem slnd_one {w : World} {g : Nat} {u : Value} {t : TypeId} {z : Int} {L : List RefV} (h : At w g (ndRow z u) t) (hs : SlRf w u L) : SlNd w (.slice (some ⟨g, 0, none⟩) 1 1) [(z, L)] :=
 ⟨_, _, rfl, fun _ => ⟨g, 0, rfl, h.lt, fun i hi => by
  have e : i = 0 := by simp at hi; exact hi
  subst e
  exact ⟨(h.cell 0).trans rfl, u, (h.cell 1).trans rfl, hs⟩⟩⟩
theorem slch_one {w : World} {g : Nat} {u : Value} {t : TypeId} {z : Int} {l : List (BitVec 8)} (h : At w g (chRow z u) t) (hs : Sl w u l) : SlCh w (.slice (some ⟨g, 0, none⟩) 1 1) [(z, l)] :=
 ⟨_, _, rfl, fun _ => ⟨g, 0, rfl, h.lt, fun i hi => by
  have e : i = 0 := by simp at hi; exact hi
  subst e
  exact ⟨(h.cell 0).trans rfl, u, (h.cell 1).trans rfl, hs⟩⟩⟩
theorem slrf_one {w : World} {g : Nat} {r : RefV} {t : TypeId} (h : At w g (refC r) t) : SlRf w (.slice (some ⟨g, 0, none⟩) 1 1) [r] :=
 ⟨_, _, rfl, fun _ => ⟨g, 0, rfl, h.lt, fun i hi => by
  have e : i = 0 := by simp at hi; exact hi
  subst e
  intro j v hv
  rw [Nat.zero_mul, Nat.zero_add, h.cell]
  simpa [refC] using hv⟩⟩
theorem slz_built (w : World) : SlI (w.alloc (.cells #[.int .i64 0] 3)) (.slice (some ⟨w.heap.size, 0, none⟩) 1 1) [0] :=
 ⟨_, _, rfl, Nat.le_refl _, fun _ => ⟨w.heap.size, 0, rfl, by simp, fun i hi => by
  have e : i = 0 := by simp at hi; exact hi
  subst e
  exact (at_new w #[.int .i64 0] 3).cell 0⟩⟩
def alFA (n : Nat) (g : Nat) (w : World) : Prop := match n with
 | 0 => True
 | 1 => At w g (refC r16) 69
 | _ => SlNd w (.slice (some ⟨g, 0, none⟩) 1 1) N16
def alFB (n : Nat) (g : Nat) (w : World) : Prop := match n with
 | 0 => True
 | 1 => Sl w (.slice (some ⟨g, 0, none⟩) 256 256) z256
 | _ => SlCh w (.slice (some ⟨g, 0, none⟩) 1 1) C16
def alFC (n : Nat) (g : Nat) (w : World) : Prop := match n with
 | 0 => True
 | _ => At w g (refC zref) 69
theorem alFA.below {n g : Nat} {w w' : World} (h : alFA n g w) (hb : Below w.heap.size w w') : alFA n g w' := by
 match n, h with
 | 0, _ => trivial
 | 1, h => exact At.below h hb (At.lt h)
 | _ + 2, h => exact SlNd.below h hb
theorem alFB.below {n g : Nat} {w w' : World} (h : alFB n g w) (hb : Below w.heap.size w w') : alFB n g w' := by
 match n, h with
 | 0, _ => trivial
 | 1, h => exact Sl.below h hb
 | _ + 2, h => exact SlCh.below h hb
theorem alFC.below {n g : Nat} {w w' : World} (h : alFC n g w) (hb : Below w.heap.size w w') : alFC n g w' := by
 match n, h with
 | 0, _ => trivial
 | _ + 1, h => exact At.below h hb (At.lt h)
def alLA (n : Nat) (g : Nat) (x y : Value) : List (Nat × Value) := match n with
 | 0 => []
 | 1 => [(16, .slice (some ⟨g, 0, none⟩) 1 1), (17, .agg (ndRow 1 (.slice (some ⟨g, 0, none⟩) 1 1)))]
 | _ => [(16, x), (17, y), (18, .slice (some ⟨g, 0, none⟩) 1 1)]
def alLB (n : Nat) (g : Nat) (x y : Value) : List (Nat × Value) := match n with
 | 0 => []
 | 1 => [(19, .slice (some ⟨g, 0, none⟩) 256 256), (20, .agg (chRow 0 (.slice (some ⟨g, 0, none⟩) 256 256)))]
 | _ => [(19, x), (20, y), (21, .slice (some ⟨g, 0, none⟩) 1 1)]
def alLC (n : Nat) (g : Nat) : List (Nat × Value) := match n with
 | 0 => []
 | _ => [(5, .pointer (some ⟨g, 0, none⟩))]
def J16 (a0 : Act) (w0 : World) (i j k : Nat) (a : Act) (w : World) : Prop := ∃ ga gb gc xa ya xb yb, a = setA a0 (alLA i ga xa ya ++ alLB j gb xb yb ++ alLC k gc) ∧ alFA i ga w ∧ alFB j gb w ∧ alFC k gc w ∧ Below w0.heap.size w0 w ∧ (0 < k → w0.heap.size ≤ gc)
set_option maxHeartbeats 8000000 in
theorem alive16_any (w : World) (hT : TT w) : Calls Tryz.prog 9 #[] w (VEnd (.bool true) w) := by
 obtain ⟨x0, x1, RN, dg, hpl, hrw⟩ := plan16
 have nw := fun wx => pnew_good 1 wx (by decide) (by decide)
 have pln := fun vn vc wx (h : Below w.heap.size w wx) (hn : SlNd wx vn N16) (hc : SlCh wx vc C16) => pplan16_any K16 2 1 zref N16 C16 vn vc wx (hT.below h) (by decide) zref_wf hn hc ⟨by decide, fun x hx => by rw [List.mem_singleton.1 hx]; decide, fun x hx r hr => by rw [List.mem_singleton.1 hx] at hr; rw [List.mem_singleton.1 hr]; exact r16_wf⟩ (by decide) (by decide) (by decide)
 rw [hpl] at pln
 have ndd := fun vx wx h => pneed_any 1 [0] vx wx h (by decide) (by decide)
 rw [need16] at ndd
 obtain ⟨i8, hi8, hz8, hs8, hb8⟩ := info_parts infoU8
 have kcs : (u8s K16).toArray.size = 32 := by decide
 have bk : ∀ wx : World, (Instr.build 61 #[]).run Tryz.prog wx = .ok (.agg (u8s K16).toArray) wx := build_K014
 have hrb := buildRf14
 have hr1 := build_r16
 have rs := refC_size hrw; have ro := refC_one ⟨1, 2, dg⟩; have r0 := ref0 ⟨1, 2, dg⟩; have r1 := ref1 ⟨1, 2, dg⟩
 obtain ⟨RE, hRE⟩ : ∃ R, R = refC ⟨1, 2, dg⟩ := ⟨_, rfl⟩
 have hx := zeroPS
 have zs : (refC zref).size = 34 := refC_size zref_wf
 have al : ∀ wx : World, (Instr.alloc 69 true (.tuple #[])).run Tryz.prog wx = .ok (.pointer (some ⟨wx.heap.size, 0, none⟩)) (wx.alloc (.cells (refC zref) 69)) := fun wx => by kernel_rfl
 obtain ⟨C, hC⟩ : ∃ C, C = psC 1 := ⟨_, rfl⟩
 obtain ⟨Y, hYs⟩ : ∃ C, C = psC 0 := ⟨_, rfl⟩
 have cs : C.size = 1 := by rw [hC]; rfl
 have co : C.all (·.oneCell') = true := by rw [hC]; exact psC_one 1
 have ys : Y.size = 1 := by rw [hYs]; rfl
 obtain ⟨KC, hKC⟩ : ∃ K, K = (u8s K16).toArray := ⟨_, rfl⟩
 unfold PlEnd at pln
 have pln : ∀ vn vc wx, Below w.heap.size w wx → SlNd wx vn N16 → SlCh wx vc C16 → Calls Tryz.prog 21 #[.pointer none, .agg (u8s K16).toArray, .int .u32 2, .agg (psC 1), .agg (refC zref), vn, vc] wx (fun e w' => ∃ vp vn, e = .returned (.tuple #[vp, vn, .agg (refC ⟨1, 2, dg⟩), .int .i64 0]) ∧ WPut (fun k => wx.heap.size ≤ k) w' vp [(2, x0), (5, x1)] ∧ SlNd w' vn [(1, RN)] ∧ Below wx.heap.size wx w') := pln
 have nw : ∀ wx, Calls Tryz.prog 6 #[.int .i64 1] wx (fun e w' => e = .returned (.tuple #[.agg (psC 1), .int .i64 0]) ∧ Below wx.heap.size wx w') := nw
 rw [← hC] at nw pln ndd
 rw [← hYs] at hx
 rw [← hKC] at pln bk kcs
 rw [← hRE] at pln rs ro r0 r1
 have NW := zh nw; have PLN := zh pln; have NDD := zh ndd; have I8 := zh hi8; have Z8 := zh hz8; have S8 := zh hs8; have B8' := zh hb8; have BK := zh bk; have RB := zh hrb; have R1B := zh hr1; have RS := zh rs; have REO := zh ro; have R0 := zh r0; have R1 := zh r1; have ZS := zh zs; have AL := zh al; have CS := zh cs; have CO := zh co; have YS := zh ys
 clear nw pln ndd hi8 hz8 hs8 hb8 bk hrb hr1 rs ro r0 r1 zs al cs co ys hRE hC hYs hKC hpl hrw hT kcs
 go_enter Tryz.func9, Tryz.ntmps9
 go_wp2_with fail
 refine (NW.out _).mono ?_
 rintro e w1 ⟨rfl, hb1⟩
 have A1 := zh (at_new w1 C 25); have B1 : Hid (Below w.heap.size w (w1.alloc (.cells C 25))) := zh (hb1.alloc hb1.size _)
 clear hb1
 go_upto_region 2 with (refine wpList_store_new zr 25 _ _ zr zr C _ _ zr zr (by rw [CS.out]; exact infoPS) (by rw [YS.out, CS.out]) CO.out ?_)
 clear hx
 obtain ⟨bs, hbs⟩ : ∃ b, b = w1.heap.size := ⟨_, rfl⟩
 rw [← hbs] at A1 ⊢
 clear hbs
 generalize w1.alloc (.cells C 25) = w2 at *
 go_cut [3, 4, 5, 6] (fun s t u v wx => ∃ vp g an cn, vp = s ∧ .slice an 1 cn = t ∧ .pointer (some ⟨g, 0, none⟩) = u ∧ v = .int .i64 0 ∧ At wx g RE 69 ∧ WPut (fun _ => True) wx vp [(2, x0), (5, x1)] ∧ Below w2.heap.size w2 wx)
 case first =>
  refine wp_region_plan_in (fun x' => Below w2.heap.size w2 x') (.take 0 (.take 1 (.take 2 (.take 3 (.three 4 7 16 (.take 5 (.three 6 7 16 (.two 7 16 (.take 8 (.two 9 16 (.two 10 16 (.take 11 (.take 12 (.take 13 (.take 14 (.take 15 (.sole 16 (.take 17 (.take 18 (.sole 19 (.take 20 .done)))))))))) (.sole 10 (.take 11 (.take 12 (.take 13 (.take 14 (.take 15 (.take 17 (.take 18 (.sole 19 (.take 20 .done))))))))))) (.sole 9 (.sole 10 (.take 11 (.take 12 (.take 13 (.take 14 (.take 15 (.take 17 (.take 18 (.sole 19 (.take 20 .done))))))))))))) (.sole 7 (.take 8 (.sole 9 (.sole 10 (.take 11 (.take 12 (.take 13 (.take 14 (.take 15 (.take 17 (.take 18 (.sole 19 (.take 20 .done)))))))))))))) (.take 8 (.three 6 9 16 (.two 9 16 (.two 10 16 (.take 11 (.take 12 (.take 13 (.take 14 (.take 15 (.sole 16 (.take 17 (.take 18 (.sole 19 (.take 20 .done)))))))))) (.sole 10 (.take 11 (.take 12 (.take 13 (.take 14 (.take 15 (.take 17 (.take 18 (.sole 19 (.take 20 .done))))))))))) (.sole 9 (.sole 10 (.take 11 (.take 12 (.take 13 (.take 14 (.take 15 (.take 17 (.take 18 (.sole 19 (.take 20 .done)))))))))))) (.two 6 16 (.two 10 16 (.take 11 (.take 12 (.take 13 (.take 14 (.take 15 (.sole 16 (.take 17 (.take 18 (.sole 19 (.take 20 .done)))))))))) (.sole 10 (.take 11 (.take 12 (.take 13 (.take 14 (.take 15 (.take 17 (.take 18 (.sole 19 (.take 20 .done))))))))))) (.sole 6 (.sole 10 (.take 11 (.take 12 (.take 13 (.take 14 (.take 15 (.take 17 (.take 18 (.sole 19 (.take 20 .done)))))))))))) (.two 6 9 (.sole 9 (.sole 10 (.take 11 (.take 12 (.take 13 (.take 14 (.take 15 (.take 17 (.take 18 (.sole 19 (.take 20 .done))))))))))) (.sole 6 (.sole 10 (.take 11 (.take 12 (.take 13 (.take 14 (.take 15 (.take 17 (.take 18 (.sole 19 (.take 20 .done)))))))))))))) (.two 6 7 (.sole 7 (.take 8 (.sole 9 (.sole 10 (.take 11 (.take 12 (.take 13 (.take 14 (.take 15 (.take 17 (.take 18 (.sole 19 (.take 20 .done))))))))))))) (.take 8 (.two 6 9 (.sole 9 (.sole 10 (.take 11 (.take 12 (.take 13 (.take 14 (.take 15 (.take 17 (.take 18 (.sole 19 (.take 20 .done))))))))))) (.sole 6 (.sole 10 (.take 11 (.take 12 (.take 13 (.take 14 (.take 15 (.take 17 (.take 18 (.sole 19 (.take 20 .done)))))))))))))))) (.take 8 (.three 4 9 16 (.take 5 (.three 6 9 16 (.two 9 16 (.two 10 16 (.take 11 (.take 12 (.take 13 (.take 14 (.take 15 (.sole 16 (.take 17 (.take 18 (.sole 19 (.take 20 .done)))))))))) (.sole 10 (.take 11 (.take 12 (.take 13 (.take 14 (.take 15 (.take 17 (.take 18 (.sole 19 (.take 20 .done))))))))))) (.sole 9 (.sole 10 (.take 11 (.take 12 (.take 13 (.take 14 (.take 15 (.take 17 (.take 18 (.sole 19 (.take 20 .done)))))))))))) (.two 6 16 (.two 10 16 (.take 11 (.take 12 (.take 13 (.take 14 (.take 15 (.sole 16 (.take 17 (.take 18 (.sole 19 (.take 20 .done)))))))))) (.sole 10 (.take 11 (.take 12 (.take 13 (.take 14 (.take 15 (.take 17 (.take 18 (.sole 19 (.take 20 .done))))))))))) (.sole 6 (.sole 10 (.take 11 (.take 12 (.take 13 (.take 14 (.take 15 (.take 17 (.take 18 (.sole 19 (.take 20 .done)))))))))))) (.two 6 9 (.sole 9 (.sole 10 (.take 11 (.take 12 (.take 13 (.take 14 (.take 15 (.take 17 (.take 18 (.sole 19 (.take 20 .done))))))))))) (.sole 6 (.sole 10 (.take 11 (.take 12 (.take 13 (.take 14 (.take 15 (.take 17 (.take 18 (.sole 19 (.take 20 .done)))))))))))))) (.two 4 16 (.take 5 (.two 6 16 (.two 10 16 (.take 11 (.take 12 (.take 13 (.take 14 (.take 15 (.sole 16 (.take 17 (.take 18 (.sole 19 (.take 20 .done)))))))))) (.sole 10 (.take 11 (.take 12 (.take 13 (.take 14 (.take 15 (.take 17 (.take 18 (.sole 19 (.take 20 .done))))))))))) (.sole 6 (.sole 10 (.take 11 (.take 12 (.take 13 (.take 14 (.take 15 (.take 17 (.take 18 (.sole 19 (.take 20 .done))))))))))))) (.sole 4 (.take 5 (.sole 6 (.sole 10 (.take 11 (.take 12 (.take 13 (.take 14 (.take 15 (.take 17 (.take 18 (.sole 19 (.take 20 .done)))))))))))))) (.two 4 9 (.take 5 (.two 6 9 (.sole 9 (.sole 10 (.take 11 (.take 12 (.take 13 (.take 14 (.take 15 (.take 17 (.take 18 (.sole 19 (.take 20 .done))))))))))) (.sole 6 (.sole 10 (.take 11 (.take 12 (.take 13 (.take 14 (.take 15 (.take 17 (.take 18 (.sole 19 (.take 20 .done))))))))))))) (.sole 4 (.take 5 (.sole 6 (.sole 10 (.take 11 (.take 12 (.take 13 (.take 14 (.take 15 (.take 17 (.take 18 (.sole 19 (.take 20 .done)))))))))))))))) (.two 4 7 (.take 5 (.two 6 7 (.sole 7 (.take 8 (.sole 9 (.sole 10 (.take 11 (.take 12 (.take 13 (.take 14 (.take 15 (.take 17 (.take 18 (.sole 19 (.take 20 .done))))))))))))) (.take 8 (.two 6 9 (.sole 9 (.sole 10 (.take 11 (.take 12 (.take 13 (.take 14 (.take 15 (.take 17 (.take 18 (.sole 19 (.take 20 .done))))))))))) (.sole 6 (.sole 10 (.take 11 (.take 12 (.take 13 (.take 14 (.take 15 (.take 17 (.take 18 (.sole 19 (.take 20 .done))))))))))))))) (.take 8 (.two 4 9 (.take 5 (.two 6 9 (.sole 9 (.sole 10 (.take 11 (.take 12 (.take 13 (.take 14 (.take 15 (.take 17 (.take 18 (.sole 19 (.take 20 .done))))))))))) (.sole 6 (.sole 10 (.take 11 (.take 12 (.take 13 (.take 14 (.take 15 (.take 17 (.take 18 (.sole 19 (.take 20 .done))))))))))))) (.sole 4 (.take 5 (.sole 6 (.sole 10 (.take 11 (.take 12 (.take 13 (.take 14 (.take 15 (.take 17 (.take 18 (.sole 19 (.take 20 .done))))))))))))))))))))) (by kernel_rfl) (by kernel_rfl) (by kernel_rfl) (Below.refl _ _).drew ?_
  refine plan_build 61 _ #[] (.agg KC) zr zr zr (by first | rfl | simp) BK.out ?_
  (simp only [Act.put, Mem.pa, Mem.pb, Mem.pc])
  refine plan_row 25 _ bs _ C 25 zr zr zr Mem.ev_a (fun w' hw' => A1.out.below hw' A1.out.lt) Tryz.underlying25 zr (by rw [CS.out]; exact infoPS) ?_
  (simp only [Act.put, Mem.pa, Mem.pb, Mem.pc])
  refine plan_build 69 _ #[] (.agg (refC zref)) zr zr zr (by first | rfl | simp) RB.out ?_
  (simp only [Act.put, Mem.pa, Mem.pb, Mem.pc])
  refine plan_build 69 _ #[(0, .int .i64 1)] (.agg (refC r16)) zr zr zr (by first | rfl | simp [Act.eval]) R1B.out ?_
  (simp only [Act.put, Mem.pa, Mem.pb, Mem.pc])
  refine plan_act ?_
  intro a0 ha0
  refine plan_lem (J16 a0 w2 2 2 1) (.sole 10 (.take 11 (.take 12 (.take 13 (.take 14 (.take 15 (.take 17 (.take 18 (.sole 19 (.take 20 .done)))))))))) ?_ (fun T221 => ?_)
  ·rintro ax wx ⟨ga, gb, gc, xa, ya, xb, yb, rfl, hA, hB, hC, hD, hG⟩
   have HA := zh hA; have HBB := zh hB; have HC := zh hC; have HB0 := zh hD; have HG := zh hG
   clear hA hB hC hD hG
   rw [ha0]
   (simp only [setA, alLA, alLB, alLC, List.cons_append, List.nil_append, List.foldl_cons, List.foldl_nil, List.setIfInBounds_toArray, List.set_cons_zero, List.set_cons_succ])
   refine plan_call 21 _ _ _ (by kernel_rfl) zr zr zr (by first | exact Mem.ev_none _ | (simp only [List.map_toArray, List.map_cons, List.map_nil, Mem.ev_tmp, List.getD_cons_succ, List.getD_cons_zero] <;> rfl)) ?_
   refine (PLN.out _ _ _ (B1.out.trans (HB0.out.mono B1.out.size)) HA.out HBB.out).mono ?_
   rintro e' wy ⟨vp, vn, rfl, hwp, hwn, hby⟩
   have D1 : Hid (Below w2.heap.size w2 wy) := zh (HB0.out.trans (hby.mono HB0.out.size))
   have WP := zh hwp
   obtain ⟨an, cn, hvn⟩ := hwn.hd
   have VN := zh hvn
   have CY := zh (HC.out.below hby)
   clear hwp hwn hby hvn
   refine ⟨_, rfl, D1.out, ?_⟩
   (simp only [Act.put, Mem.pa, Mem.pb, Mem.pc])
   (first | refine Mem.pm1 ?_ | refine Mem.pm2 ?_ | refine Mem.pt ?_ | refine Mem.pf ?_)
   (simp only [Act.put, Mem.pa, Mem.pb, Mem.pc])
   refine plan_extract _ _ #[vp, vn, .agg RE, .int .i64 0] vp zr zr zr Mem.ev_a zr ?_
   (simp only [Act.put, Mem.pa, Mem.pb, Mem.pc])
   refine plan_extract _ _ #[vp, vn, .agg RE, .int .i64 0] vn zr zr zr Mem.ev_a zr ?_
   (simp only [Act.put, Mem.pa, Mem.pb, Mem.pc])
   refine plan_extract _ _ #[vp, vn, .agg RE, .int .i64 0] (.agg RE) zr zr zr Mem.ev_a zr ?_
   (simp only [Act.put, Mem.pa, Mem.pb, Mem.pc])
   refine plan_extract _ _ #[vp, vn, .agg RE, .int .i64 0] (.int .i64 0) zr zr zr Mem.ev_a zr ?_
   (simp only [Act.put, Mem.pa, Mem.pb, Mem.pc])
   have GY : Hid (w2.heap.size ≤ gc) := zh (HG.out (by decide))
   have GX : Hid (gc < wx.heap.size) := zh HC.out.lt
   have WQ : Hid (WPut (fun _ => True) (wy.setRow gc RE) vp [(2, x0), (5, x1)]) := zh ((WPut.keep WP.out (by simp) fun k hk _ => setRow_other _ _ k _ (by have := GX.out; omega)).mono fun _ _ _ => trivial)
   (first | refine Mem.pm1 ?_ | refine Mem.pm2 ?_ | refine Mem.pt ?_ | refine Mem.pf ?_)
   (simp only [Act.put, Mem.pa, Mem.pb, Mem.pc])
   (first | refine Mem.pm1 ?_ | refine Mem.pm2 ?_ | refine Mem.pt ?_ | refine Mem.pf ?_)
   (simp only [Act.put, Mem.pa, Mem.pb, Mem.pc])
   refine plan_store 69 _ _ (gc) RE (refC zref) 69 zr zr zr zr Mem.ev_a Mem.ev_a (by rw [RS.out]; exact infoRfP) CY.out (by rw [RS.out, ZS.out]) REO.out (below_row D1.out GY.out RE) ?_
   (first | refine Mem.pm1 ?_ | refine Mem.pm2 ?_ | refine Mem.pt ?_ | refine Mem.pf ?_)
   (simp only [Act.put, Mem.pa, Mem.pb, Mem.pc])
   refine plan_nil ?_
   go_wp2_with fail
   go_meet
   exact ⟨vp, _, an, cn, rfl, VN.out.symm, rfl, rfl, At.row (C := refC zref) CY.out RE, WQ.out, below_row D1.out GY.out RE⟩
  refine plan_lem (J16 a0 w2 2 2 0) (.two 10 16 (.take 11 (.take 12 (.take 13 (.take 14 (.take 15 (.sole 16 (.take 17 (.take 18 (.sole 19 (.take 20 .done)))))))))) (.sole 10 (.take 11 (.take 12 (.take 13 (.take 14 (.take 15 (.take 17 (.take 18 (.sole 19 (.take 20 .done))))))))))) ?_ (fun T220 => ?_)
  ·rintro ax wx ⟨ga, gb, gc, xa, ya, xb, yb, rfl, hA, hB, hC, hD, hG⟩
   have HA := zh hA; have HBB := zh hB; have HC := zh hC; have HB0 := zh hD; have HG := zh hG
   clear hA hB hC hD hG
   rw [ha0]
   (simp only [setA, alLA, alLB, alLC, List.cons_append, List.nil_append, List.append_nil, List.foldl_cons, List.foldl_nil, List.setIfInBounds_toArray, List.set_cons_zero, List.set_cons_succ])
   refine plan_two ?_ ?_
   ·refine plan_call 21 _ _ _ (by kernel_rfl) zr zr zr (by first | exact Mem.ev_none _ | (simp only [List.map_toArray, List.map_cons, List.map_nil, Mem.ev_tmp, List.getD_cons_succ, List.getD_cons_zero] <;> rfl)) ?_
    refine (PLN.out _ _ _ (B1.out.trans (HB0.out.mono B1.out.size)) HA.out HBB.out).mono ?_
    rintro e' wy ⟨vp, vn, rfl, hwp, hwn, hby⟩
    have D1 : Hid (Below w2.heap.size w2 wy) := zh (HB0.out.trans (hby.mono HB0.out.size))
    have WP := zh hwp
    obtain ⟨an, cn, hvn⟩ := hwn.hd
    have VN := zh hvn
    have CY := zh (HC.out.below hby)
    clear hwp hwn hby hvn
    refine ⟨_, rfl, D1.out, ?_⟩
    (simp only [Act.put, Mem.pa, Mem.pb, Mem.pc])
    (first | refine Mem.pm1 ?_ | refine Mem.pm2 ?_ | refine Mem.pt ?_ | refine Mem.pf ?_)
    (simp only [Act.put, Mem.pa, Mem.pb, Mem.pc])
    refine plan_extract _ _ #[vp, vn, .agg RE, .int .i64 0] vp zr zr zr Mem.ev_a zr ?_
    (simp only [Act.put, Mem.pa, Mem.pb, Mem.pc])
    refine plan_extract _ _ #[vp, vn, .agg RE, .int .i64 0] vn zr zr zr Mem.ev_a zr ?_
    (simp only [Act.put, Mem.pa, Mem.pb, Mem.pc])
    refine plan_extract _ _ #[vp, vn, .agg RE, .int .i64 0] (.agg RE) zr zr zr Mem.ev_a zr ?_
    (simp only [Act.put, Mem.pa, Mem.pb, Mem.pc])
    refine plan_extract _ _ #[vp, vn, .agg RE, .int .i64 0] (.int .i64 0) zr zr zr Mem.ev_a zr ?_
    (simp only [Act.put, Mem.pa, Mem.pb, Mem.pc])
    refine plan_alloc _ (refC zref) zr zr zr AL.out (D1.out.alloc D1.out.size _) ?_
    (simp only [Act.put, Mem.pa, Mem.pb, Mem.pc])
    have hq : Below wy.heap.size wy (wy.alloc (.cells (refC zref) 69)) := (Below.refl _ _).alloc (Nat.le_refl _) (.cells (refC zref) 69)
    have CY : Hid (At (wy.alloc (.cells (refC zref) 69)) wy.heap.size (refC zref) 69) := zh (at_new wy (refC zref) 69)
    have GY : Hid (w2.heap.size ≤ wy.heap.size) := zh D1.out.size
    have D1 : Hid (Below w2.heap.size w2 (wy.alloc (.cells (refC zref) 69))) := zh (D1.out.alloc D1.out.size _)
    have WQ : Hid (WPut (fun _ => True) ((wy.alloc (.cells (refC zref) 69)).setRow wy.heap.size RE) vp [(2, x0), (5, x1)]) := zh ((WPut.keep WP.out (by simp) fun k _ hl => (setRow_other _ _ k _ (by omega)).trans (hq.block k hl)).mono fun _ _ _ => trivial)
    (first | refine Mem.pm1 ?_ | refine Mem.pm2 ?_ | refine Mem.pt ?_ | refine Mem.pf ?_)
    (simp only [Act.put, Mem.pa, Mem.pb, Mem.pc])
    (first | refine Mem.pm1 ?_ | refine Mem.pm2 ?_ | refine Mem.pt ?_ | refine Mem.pf ?_)
    (simp only [Act.put, Mem.pa, Mem.pb, Mem.pc])
    refine plan_store 69 _ _ (wy.heap.size) RE (refC zref) 69 zr zr zr zr Mem.ev_a Mem.ev_a (by rw [RS.out]; exact infoRfP) CY.out (by rw [RS.out, ZS.out]) REO.out (below_row D1.out GY.out RE) ?_
    (first | refine Mem.pm1 ?_ | refine Mem.pm2 ?_ | refine Mem.pt ?_ | refine Mem.pf ?_)
    (simp only [Act.put, Mem.pa, Mem.pb, Mem.pc])
    refine plan_nil ?_
    go_wp2_with fail
    go_meet
    exact ⟨vp, _, an, cn, rfl, VN.out.symm, rfl, rfl, At.row (C := refC zref) CY.out RE, WQ.out, below_row D1.out GY.out RE⟩
   ·refine plan_alloc _ (refC zref) zr zr zr AL.out (HB0.out.alloc HB0.out.size _) ?_
    (simp only [Act.put, Mem.pa, Mem.pb, Mem.pc])
    have hq : Below wx.heap.size wx (wx.alloc (.cells (refC zref) 69)) := (Below.refl _ _).alloc (Nat.le_refl _) (.cells (refC zref) 69)
    exact T221 _ _ ⟨ga, gb, wx.heap.size, xa, ya, xb, yb, by (rw [ha0]; rfl), HA.out.below hq, HBB.out.below hq, at_new wx (refC zref) 69, HB0.out.alloc HB0.out.size _, fun _ => HB0.out.size⟩
  refine plan_lem (J16 a0 w2 2 1 1) (.sole 9 (.sole 10 (.take 11 (.take 12 (.take 13 (.take 14 (.take 15 (.take 17 (.take 18 (.sole 19 (.take 20 .done))))))))))) ?_ (fun T211 => ?_)
  ·rintro ax wx ⟨ga, gb, gc, xa, ya, xb, yb, rfl, hA, hB, hC, hD, hG⟩
   have HA := zh hA; have HBB := zh hB; have HC := zh hC; have HB0 := zh hD; have HG := zh hG
   clear hA hB hC hD hG
   rw [ha0]
   (simp only [setA, alLA, alLB, alLC, List.cons_append, List.nil_append, List.foldl_cons, List.foldl_nil, List.setIfInBounds_toArray, List.set_cons_zero, List.set_cons_succ])
   refine plan_slice 56 92 1 _ (chRow 0 (.slice (some ⟨gb, 0, none⟩) 256 256)) zr zr zr Tryz.underlying56 (by first | exact builtCh16 0 _ _ _ | (simp [Act.eval]; exact builtCh16 0 _ _ _)) (HB0.out.alloc HB0.out.size _) ?_
   (simp only [Act.put, Mem.pa, Mem.pb, Mem.pc])
   have hq : Below wx.heap.size wx (wx.alloc (.cells (chRow 0 (.slice (some ⟨gb, 0, none⟩) 256 256)) 92)) := (Below.refl _ _).alloc (Nat.le_refl _) (.cells (chRow 0 (.slice (some ⟨gb, 0, none⟩) 256 256)) 92)
   have hsl : Sl wx (.slice (some ⟨gb, 0, none⟩) 256 256) z256 := HBB.out
   exact T221 _ _ ⟨ga, wx.heap.size, gc, xa, ya, _, _, by (rw [ha0]; rfl), HA.out.below hq, slch_one (at_new wx (chRow 0 (.slice (some ⟨gb, 0, none⟩) 256 256)) 92) (hsl.below hq), HC.out.below hq, HB0.out.alloc HB0.out.size _, HG.out⟩
  refine plan_lem (J16 a0 w2 1 2 1) (.sole 6 (.sole 10 (.take 11 (.take 12 (.take 13 (.take 14 (.take 15 (.take 17 (.take 18 (.sole 19 (.take 20 .done))))))))))) ?_ (fun T121 => ?_)
  ·rintro ax wx ⟨ga, gb, gc, xa, ya, xb, yb, rfl, hA, hB, hC, hD, hG⟩
   have HA := zh hA; have HBB := zh hB; have HC := zh hC; have HB0 := zh hD; have HG := zh hG
   clear hA hB hC hD hG
   rw [ha0]
   (simp only [setA, alLA, alLB, alLC, List.cons_append, List.nil_append, List.foldl_cons, List.foldl_nil, List.setIfInBounds_toArray, List.set_cons_zero, List.set_cons_succ])
   refine plan_slice 45 52 1 _ (ndRow 1 (.slice (some ⟨ga, 0, none⟩) 1 1)) zr zr zr Tryz.underlying45 (by first | exact builtNd 1 _ _ _ | (simp [Act.eval]; exact builtNd 1 _ _ _)) (HB0.out.alloc HB0.out.size _) ?_
   (simp only [Act.put, Mem.pa, Mem.pb, Mem.pc])
   have hq : Below wx.heap.size wx (wx.alloc (.cells (ndRow 1 (.slice (some ⟨ga, 0, none⟩) 1 1)) 52)) := (Below.refl _ _).alloc (Nat.le_refl _) (.cells (ndRow 1 (.slice (some ⟨ga, 0, none⟩) 1 1)) 52)
   have hsr : SlRf wx (.slice (some ⟨ga, 0, none⟩) 1 1) [r16] := slrf_one (r := r16) HA.out
   exact T221 _ _ ⟨wx.heap.size, gb, gc, _, _, xb, yb, by (rw [ha0]; rfl), slnd_one (at_new wx (ndRow 1 (.slice (some ⟨ga, 0, none⟩) 1 1)) 52) (hsr.below hq), HBB.out.below hq, HC.out.below hq, HB0.out.alloc HB0.out.size _, HG.out⟩
  refine plan_lem (J16 a0 w2 2 1 0) (.two 9 16 (.two 10 16 (.take 11 (.take 12 (.take 13 (.take 14 (.take 15 (.sole 16 (.take 17 (.take 18 (.sole 19 (.take 20 .done)))))))))) (.sole 10 (.take 11 (.take 12 (.take 13 (.take 14 (.take 15 (.take 17 (.take 18 (.sole 19 (.take 20 .done))))))))))) (.sole 9 (.sole 10 (.take 11 (.take 12 (.take 13 (.take 14 (.take 15 (.take 17 (.take 18 (.sole 19 (.take 20 .done)))))))))))) ?_ (fun T210 => ?_)
  ·rintro ax wx ⟨ga, gb, gc, xa, ya, xb, yb, rfl, hA, hB, hC, hD, hG⟩
   have HA := zh hA; have HBB := zh hB; have HC := zh hC; have HB0 := zh hD; have HG := zh hG
   clear hA hB hC hD hG
   rw [ha0]
   (simp only [setA, alLA, alLB, alLC, List.cons_append, List.nil_append, List.append_nil, List.foldl_cons, List.foldl_nil, List.setIfInBounds_toArray, List.set_cons_zero, List.set_cons_succ])
   refine plan_two ?_ ?_
   ·refine plan_slice 56 92 1 _ (chRow 0 (.slice (some ⟨gb, 0, none⟩) 256 256)) zr zr zr Tryz.underlying56 (by first | exact builtCh16 0 _ _ _ | (simp [Act.eval]; exact builtCh16 0 _ _ _)) (HB0.out.alloc HB0.out.size _) ?_
    (simp only [Act.put, Mem.pa, Mem.pb, Mem.pc])
    have hq : Below wx.heap.size wx (wx.alloc (.cells (chRow 0 (.slice (some ⟨gb, 0, none⟩) 256 256)) 92)) := (Below.refl _ _).alloc (Nat.le_refl _) (.cells (chRow 0 (.slice (some ⟨gb, 0, none⟩) 256 256)) 92)
    have hsl : Sl wx (.slice (some ⟨gb, 0, none⟩) 256 256) z256 := HBB.out
    exact T220 _ _ ⟨ga, wx.heap.size, gc, xa, ya, _, _, by (rw [ha0]; rfl), HA.out.below hq, slch_one (at_new wx (chRow 0 (.slice (some ⟨gb, 0, none⟩) 256 256)) 92) (hsl.below hq), HC.out.below hq, HB0.out.alloc HB0.out.size _, HG.out⟩
   ·refine plan_alloc _ (refC zref) zr zr zr AL.out (HB0.out.alloc HB0.out.size _) ?_
    (simp only [Act.put, Mem.pa, Mem.pb, Mem.pc])
    have hq : Below wx.heap.size wx (wx.alloc (.cells (refC zref) 69)) := (Below.refl _ _).alloc (Nat.le_refl _) (.cells (refC zref) 69)
    exact T211 _ _ ⟨ga, gb, wx.heap.size, xa, ya, xb, yb, by (rw [ha0]; rfl), HA.out.below hq, HBB.out.below hq, at_new wx (refC zref) 69, HB0.out.alloc HB0.out.size _, fun _ => HB0.out.size⟩
  refine plan_lem (J16 a0 w2 2 0 1) (.sole 7 (.take 8 (.sole 9 (.sole 10 (.take 11 (.take 12 (.take 13 (.take 14 (.take 15 (.take 17 (.take 18 (.sole 19 (.take 20 .done))))))))))))) ?_ (fun T201 => ?_)
  ·rintro ax wx ⟨ga, gb, gc, xa, ya, xb, yb, rfl, hA, hB, hC, hD, hG⟩
   have HA := zh hA; have HBB := zh hB; have HC := zh hC; have HB0 := zh hD; have HG := zh hG
   clear hA hB hC hD hG
   rw [ha0]
   (simp only [setA, alLA, alLB, alLC, List.cons_append, List.nil_append, List.append_nil, List.foldl_cons, List.foldl_nil, List.setIfInBounds_toArray, List.set_cons_zero, List.set_cons_succ])
   refine plan_make _ _ 36 zr zr zr wx.heap.size 5 i8 (.int .u8 0) 1 Tryz.underlying36 I8.out Z8.out S8.out .i64 .i64 256 zr zr (by rw [B8'.out]; omega) (by simp [maxLen]) (Nat.le_refl _) ?_
   intro wy ho hg
   have hq : Below wx.heap.size wx wy := (Below.refl _ _).grown hg (Nat.le_refl _) (fun _ h => by cases h)
   have hat : At wy wx.heap.size (u8s z256).toArray 5 := by have h := own_full ho; rw [made_zeros] at h; exact h
   refine ⟨HB0.out.trans (hq.mono HB0.out.size), ?_⟩
   (simp only [Act.put, Mem.pa, Mem.pb, Mem.pc])
   refine plan_build 92 _ #[(1, .slice (some ⟨wx.heap.size, 0, none⟩) 256 256)] (.agg (chRow 0 (.slice (some ⟨wx.heap.size, 0, none⟩) 256 256))) zr zr zr (by first | rfl | simp [Act.eval]) (fun wy => built_ch16 wy _ _ _) ?_
   (simp only [Act.put, Mem.pa, Mem.pb, Mem.pc])
   exact T211 _ _ ⟨ga, wx.heap.size, gc, xa, ya, xb, yb, by (rw [ha0]; rfl), HA.out.below hq, at_sl hat (by decide), HC.out.below hq, HB0.out.trans (hq.mono HB0.out.size), HG.out⟩
  refine plan_lem (J16 a0 w2 1 2 0) (.two 6 16 (.two 10 16 (.take 11 (.take 12 (.take 13 (.take 14 (.take 15 (.sole 16 (.take 17 (.take 18 (.sole 19 (.take 20 .done)))))))))) (.sole 10 (.take 11 (.take 12 (.take 13 (.take 14 (.take 15 (.take 17 (.take 18 (.sole 19 (.take 20 .done))))))))))) (.sole 6 (.sole 10 (.take 11 (.take 12 (.take 13 (.take 14 (.take 15 (.take 17 (.take 18 (.sole 19 (.take 20 .done)))))))))))) ?_ (fun T120 => ?_)
  ·rintro ax wx ⟨ga, gb, gc, xa, ya, xb, yb, rfl, hA, hB, hC, hD, hG⟩
   have HA := zh hA; have HBB := zh hB; have HC := zh hC; have HB0 := zh hD; have HG := zh hG
   clear hA hB hC hD hG
   rw [ha0]
   (simp only [setA, alLA, alLB, alLC, List.cons_append, List.nil_append, List.append_nil, List.foldl_cons, List.foldl_nil, List.setIfInBounds_toArray, List.set_cons_zero, List.set_cons_succ])
   refine plan_two ?_ ?_
   ·refine plan_slice 45 52 1 _ (ndRow 1 (.slice (some ⟨ga, 0, none⟩) 1 1)) zr zr zr Tryz.underlying45 (by first | exact builtNd 1 _ _ _ | (simp [Act.eval]; exact builtNd 1 _ _ _)) (HB0.out.alloc HB0.out.size _) ?_
    (simp only [Act.put, Mem.pa, Mem.pb, Mem.pc])
    have hq : Below wx.heap.size wx (wx.alloc (.cells (ndRow 1 (.slice (some ⟨ga, 0, none⟩) 1 1)) 52)) := (Below.refl _ _).alloc (Nat.le_refl _) (.cells (ndRow 1 (.slice (some ⟨ga, 0, none⟩) 1 1)) 52)
    have hsr : SlRf wx (.slice (some ⟨ga, 0, none⟩) 1 1) [r16] := slrf_one (r := r16) HA.out
    exact T220 _ _ ⟨wx.heap.size, gb, gc, _, _, xb, yb, by (rw [ha0]; rfl), slnd_one (at_new wx (ndRow 1 (.slice (some ⟨ga, 0, none⟩) 1 1)) 52) (hsr.below hq), HBB.out.below hq, HC.out.below hq, HB0.out.alloc HB0.out.size _, HG.out⟩
   ·refine plan_alloc _ (refC zref) zr zr zr AL.out (HB0.out.alloc HB0.out.size _) ?_
    (simp only [Act.put, Mem.pa, Mem.pb, Mem.pc])
    have hq : Below wx.heap.size wx (wx.alloc (.cells (refC zref) 69)) := (Below.refl _ _).alloc (Nat.le_refl _) (.cells (refC zref) 69)
    exact T121 _ _ ⟨ga, gb, wx.heap.size, xa, ya, xb, yb, by (rw [ha0]; rfl), HA.out.below hq, HBB.out.below hq, at_new wx (refC zref) 69, HB0.out.alloc HB0.out.size _, fun _ => HB0.out.size⟩
  refine plan_lem (J16 a0 w2 1 1 1) (.two 6 9 (.sole 9 (.sole 10 (.take 11 (.take 12 (.take 13 (.take 14 (.take 15 (.take 17 (.take 18 (.sole 19 (.take 20 .done))))))))))) (.sole 6 (.sole 10 (.take 11 (.take 12 (.take 13 (.take 14 (.take 15 (.take 17 (.take 18 (.sole 19 (.take 20 .done)))))))))))) ?_ (fun T111 => ?_)
  ·rintro ax wx ⟨ga, gb, gc, xa, ya, xb, yb, rfl, hA, hB, hC, hD, hG⟩
   have HA := zh hA; have HBB := zh hB; have HC := zh hC; have HB0 := zh hD; have HG := zh hG
   clear hA hB hC hD hG
   rw [ha0]
   (simp only [setA, alLA, alLB, alLC, List.cons_append, List.nil_append, List.foldl_cons, List.foldl_nil, List.setIfInBounds_toArray, List.set_cons_zero, List.set_cons_succ])
   refine plan_two ?_ ?_
   ·refine plan_slice 45 52 1 _ (ndRow 1 (.slice (some ⟨ga, 0, none⟩) 1 1)) zr zr zr Tryz.underlying45 (by first | exact builtNd 1 _ _ _ | (simp [Act.eval]; exact builtNd 1 _ _ _)) (HB0.out.alloc HB0.out.size _) ?_
    (simp only [Act.put, Mem.pa, Mem.pb, Mem.pc])
    have hq : Below wx.heap.size wx (wx.alloc (.cells (ndRow 1 (.slice (some ⟨ga, 0, none⟩) 1 1)) 52)) := (Below.refl _ _).alloc (Nat.le_refl _) (.cells (ndRow 1 (.slice (some ⟨ga, 0, none⟩) 1 1)) 52)
    have hsr : SlRf wx (.slice (some ⟨ga, 0, none⟩) 1 1) [r16] := slrf_one (r := r16) HA.out
    exact T211 _ _ ⟨wx.heap.size, gb, gc, _, _, xb, yb, by (rw [ha0]; rfl), slnd_one (at_new wx (ndRow 1 (.slice (some ⟨ga, 0, none⟩) 1 1)) 52) (hsr.below hq), HBB.out.below hq, HC.out.below hq, HB0.out.alloc HB0.out.size _, HG.out⟩
   ·refine plan_slice 56 92 1 _ (chRow 0 (.slice (some ⟨gb, 0, none⟩) 256 256)) zr zr zr Tryz.underlying56 (by first | exact builtCh16 0 _ _ _ | (simp [Act.eval]; exact builtCh16 0 _ _ _)) (HB0.out.alloc HB0.out.size _) ?_
    (simp only [Act.put, Mem.pa, Mem.pb, Mem.pc])
    have hq : Below wx.heap.size wx (wx.alloc (.cells (chRow 0 (.slice (some ⟨gb, 0, none⟩) 256 256)) 92)) := (Below.refl _ _).alloc (Nat.le_refl _) (.cells (chRow 0 (.slice (some ⟨gb, 0, none⟩) 256 256)) 92)
    have hsl : Sl wx (.slice (some ⟨gb, 0, none⟩) 256 256) z256 := HBB.out
    exact T121 _ _ ⟨ga, wx.heap.size, gc, xa, ya, _, _, by (rw [ha0]; rfl), HA.out.below hq, slch_one (at_new wx (chRow 0 (.slice (some ⟨gb, 0, none⟩) 256 256)) 92) (hsl.below hq), HC.out.below hq, HB0.out.alloc HB0.out.size _, HG.out⟩
  refine plan_lem (J16 a0 w2 0 2 1) (.sole 4 (.take 5 (.sole 6 (.sole 10 (.take 11 (.take 12 (.take 13 (.take 14 (.take 15 (.take 17 (.take 18 (.sole 19 (.take 20 .done))))))))))))) ?_ (fun T021 => ?_)
  ·rintro ax wx ⟨ga, gb, gc, xa, ya, xb, yb, rfl, hA, hB, hC, hD, hG⟩
   have HA := zh hA; have HBB := zh hB; have HC := zh hC; have HB0 := zh hD; have HG := zh hG
   clear hA hB hC hD hG
   rw [ha0]
   (simp only [setA, alLA, alLB, alLC, List.cons_append, List.nil_append, List.foldl_cons, List.foldl_nil, List.setIfInBounds_toArray, List.set_cons_zero, List.set_cons_succ])
   refine plan_slice 42 69 1 _ (refC r16) zr zr zr Tryz.underlying42 (by first | exact built_rp r16 r16_wf | (simp [Act.eval]; exact built_rp r16 r16_wf)) (HB0.out.alloc HB0.out.size _) ?_
   (simp only [Act.put, Mem.pa, Mem.pb, Mem.pc])
   refine plan_build 52 _ #[(0, .int .i64 1), (1, .slice (some ⟨wx.heap.size, 0, none⟩) 1 1)] (.agg (ndRow 1 (.slice (some ⟨wx.heap.size, 0, none⟩) 1 1))) zr zr zr (by first | rfl | simp [Act.eval]) (fun wy => buildNd 1 _ _ _ wy) ?_
   (simp only [Act.put, Mem.pa, Mem.pb, Mem.pc])
   have hq : Below wx.heap.size wx (wx.alloc (.cells (refC r16) 69)) := (Below.refl _ _).alloc (Nat.le_refl _) (.cells (refC r16) 69)
   exact T121 _ _ ⟨wx.heap.size, gb, gc, xa, ya, xb, yb, by (rw [ha0]; rfl), at_new wx (refC r16) 69, HBB.out.below hq, HC.out.below hq, HB0.out.alloc HB0.out.size _, HG.out⟩
  refine plan_lem (J16 a0 w2 2 0 0) (.two 7 16 (.take 8 (.two 9 16 (.two 10 16 (.take 11 (.take 12 (.take 13 (.take 14 (.take 15 (.sole 16 (.take 17 (.take 18 (.sole 19 (.take 20 .done)))))))))) (.sole 10 (.take 11 (.take 12 (.take 13 (.take 14 (.take 15 (.take 17 (.take 18 (.sole 19 (.take 20 .done))))))))))) (.sole 9 (.sole 10 (.take 11 (.take 12 (.take 13 (.take 14 (.take 15 (.take 17 (.take 18 (.sole 19 (.take 20 .done))))))))))))) (.sole 7 (.take 8 (.sole 9 (.sole 10 (.take 11 (.take 12 (.take 13 (.take 14 (.take 15 (.take 17 (.take 18 (.sole 19 (.take 20 .done)))))))))))))) ?_ (fun T200 => ?_)
  ·rintro ax wx ⟨ga, gb, gc, xa, ya, xb, yb, rfl, hA, hB, hC, hD, hG⟩
   have HA := zh hA; have HBB := zh hB; have HC := zh hC; have HB0 := zh hD; have HG := zh hG
   clear hA hB hC hD hG
   rw [ha0]
   (simp only [setA, alLA, alLB, alLC, List.append_nil, List.foldl_cons, List.foldl_nil, List.setIfInBounds_toArray, List.set_cons_zero, List.set_cons_succ])
   refine plan_two ?_ ?_
   ·refine plan_make _ _ 36 zr zr zr wx.heap.size 5 i8 (.int .u8 0) 1 Tryz.underlying36 I8.out Z8.out S8.out .i64 .i64 256 zr zr (by rw [B8'.out]; omega) (by simp [maxLen]) (Nat.le_refl _) ?_
    intro wy ho hg
    have hq : Below wx.heap.size wx wy := (Below.refl _ _).grown hg (Nat.le_refl _) (fun _ h => by cases h)
    have hat : At wy wx.heap.size (u8s z256).toArray 5 := by have h := own_full ho; rw [made_zeros] at h; exact h
    refine ⟨HB0.out.trans (hq.mono HB0.out.size), ?_⟩
    (simp only [Act.put, Mem.pa, Mem.pb, Mem.pc])
    refine plan_build 92 _ #[(1, .slice (some ⟨wx.heap.size, 0, none⟩) 256 256)] (.agg (chRow 0 (.slice (some ⟨wx.heap.size, 0, none⟩) 256 256))) zr zr zr (by first | rfl | simp [Act.eval]) (fun wy => built_ch16 wy _ _ _) ?_
    (simp only [Act.put, Mem.pa, Mem.pb, Mem.pc])
    exact T210 _ _ ⟨ga, wx.heap.size, gc, xa, ya, xb, yb, by (rw [ha0]; rfl), HA.out.below hq, at_sl hat (by decide), HC.out.below hq, HB0.out.trans (hq.mono HB0.out.size), HG.out⟩
   ·refine plan_alloc _ (refC zref) zr zr zr AL.out (HB0.out.alloc HB0.out.size _) ?_
    (simp only [Act.put, Mem.pa, Mem.pb, Mem.pc])
    have hq : Below wx.heap.size wx (wx.alloc (.cells (refC zref) 69)) := (Below.refl _ _).alloc (Nat.le_refl _) (.cells (refC zref) 69)
    exact T201 _ _ ⟨ga, gb, wx.heap.size, xa, ya, xb, yb, by (rw [ha0]; rfl), HA.out.below hq, HBB.out.below hq, at_new wx (refC zref) 69, HB0.out.alloc HB0.out.size _, fun _ => HB0.out.size⟩
  refine plan_lem (J16 a0 w2 1 1 0) (.three 6 9 16 (.two 9 16 (.two 10 16 (.take 11 (.take 12 (.take 13 (.take 14 (.take 15 (.sole 16 (.take 17 (.take 18 (.sole 19 (.take 20 .done)))))))))) (.sole 10 (.take 11 (.take 12 (.take 13 (.take 14 (.take 15 (.take 17 (.take 18 (.sole 19 (.take 20 .done))))))))))) (.sole 9 (.sole 10 (.take 11 (.take 12 (.take 13 (.take 14 (.take 15 (.take 17 (.take 18 (.sole 19 (.take 20 .done)))))))))))) (.two 6 16 (.two 10 16 (.take 11 (.take 12 (.take 13 (.take 14 (.take 15 (.sole 16 (.take 17 (.take 18 (.sole 19 (.take 20 .done)))))))))) (.sole 10 (.take 11 (.take 12 (.take 13 (.take 14 (.take 15 (.take 17 (.take 18 (.sole 19 (.take 20 .done))))))))))) (.sole 6 (.sole 10 (.take 11 (.take 12 (.take 13 (.take 14 (.take 15 (.take 17 (.take 18 (.sole 19 (.take 20 .done)))))))))))) (.two 6 9 (.sole 9 (.sole 10 (.take 11 (.take 12 (.take 13 (.take 14 (.take 15 (.take 17 (.take 18 (.sole 19 (.take 20 .done))))))))))) (.sole 6 (.sole 10 (.take 11 (.take 12 (.take 13 (.take 14 (.take 15 (.take 17 (.take 18 (.sole 19 (.take 20 .done))))))))))))) ?_ (fun T110 => ?_)
  ·rintro ax wx ⟨ga, gb, gc, xa, ya, xb, yb, rfl, hA, hB, hC, hD, hG⟩
   have HA := zh hA; have HBB := zh hB; have HC := zh hC; have HB0 := zh hD; have HG := zh hG
   clear hA hB hC hD hG
   rw [ha0]
   (simp only [setA, alLA, alLB, alLC, List.cons_append, List.nil_append, List.append_nil, List.foldl_cons, List.foldl_nil, List.setIfInBounds_toArray, List.set_cons_zero, List.set_cons_succ])
   refine plan_three ?_ ?_ ?_
   ·refine plan_slice 45 52 1 _ (ndRow 1 (.slice (some ⟨ga, 0, none⟩) 1 1)) zr zr zr Tryz.underlying45 (by first | exact builtNd 1 _ _ _ | (simp [Act.eval]; exact builtNd 1 _ _ _)) (HB0.out.alloc HB0.out.size _) ?_
    (simp only [Act.put, Mem.pa, Mem.pb, Mem.pc])
    have hq : Below wx.heap.size wx (wx.alloc (.cells (ndRow 1 (.slice (some ⟨ga, 0, none⟩) 1 1)) 52)) := (Below.refl _ _).alloc (Nat.le_refl _) (.cells (ndRow 1 (.slice (some ⟨ga, 0, none⟩) 1 1)) 52)
    have hsr : SlRf wx (.slice (some ⟨ga, 0, none⟩) 1 1) [r16] := slrf_one (r := r16) HA.out
    exact T210 _ _ ⟨wx.heap.size, gb, gc, _, _, xb, yb, by (rw [ha0]; rfl), slnd_one (at_new wx (ndRow 1 (.slice (some ⟨ga, 0, none⟩) 1 1)) 52) (hsr.below hq), HBB.out.below hq, HC.out.below hq, HB0.out.alloc HB0.out.size _, HG.out⟩
   ·refine plan_slice 56 92 1 _ (chRow 0 (.slice (some ⟨gb, 0, none⟩) 256 256)) zr zr zr Tryz.underlying56 (by first | exact builtCh16 0 _ _ _ | (simp [Act.eval]; exact builtCh16 0 _ _ _)) (HB0.out.alloc HB0.out.size _) ?_
    (simp only [Act.put, Mem.pa, Mem.pb, Mem.pc])
    have hq : Below wx.heap.size wx (wx.alloc (.cells (chRow 0 (.slice (some ⟨gb, 0, none⟩) 256 256)) 92)) := (Below.refl _ _).alloc (Nat.le_refl _) (.cells (chRow 0 (.slice (some ⟨gb, 0, none⟩) 256 256)) 92)
    have hsl : Sl wx (.slice (some ⟨gb, 0, none⟩) 256 256) z256 := HBB.out
    exact T120 _ _ ⟨ga, wx.heap.size, gc, xa, ya, _, _, by (rw [ha0]; rfl), HA.out.below hq, slch_one (at_new wx (chRow 0 (.slice (some ⟨gb, 0, none⟩) 256 256)) 92) (hsl.below hq), HC.out.below hq, HB0.out.alloc HB0.out.size _, HG.out⟩
   ·refine plan_alloc _ (refC zref) zr zr zr AL.out (HB0.out.alloc HB0.out.size _) ?_
    (simp only [Act.put, Mem.pa, Mem.pb, Mem.pc])
    have hq : Below wx.heap.size wx (wx.alloc (.cells (refC zref) 69)) := (Below.refl _ _).alloc (Nat.le_refl _) (.cells (refC zref) 69)
    exact T111 _ _ ⟨ga, gb, wx.heap.size, xa, ya, xb, yb, by (rw [ha0]; rfl), HA.out.below hq, HBB.out.below hq, at_new wx (refC zref) 69, HB0.out.alloc HB0.out.size _, fun _ => HB0.out.size⟩
  refine plan_lem (J16 a0 w2 1 0 1) (.two 6 7 (.sole 7 (.take 8 (.sole 9 (.sole 10 (.take 11 (.take 12 (.take 13 (.take 14 (.take 15 (.take 17 (.take 18 (.sole 19 (.take 20 .done))))))))))))) (.take 8 (.two 6 9 (.sole 9 (.sole 10 (.take 11 (.take 12 (.take 13 (.take 14 (.take 15 (.take 17 (.take 18 (.sole 19 (.take 20 .done))))))))))) (.sole 6 (.sole 10 (.take 11 (.take 12 (.take 13 (.take 14 (.take 15 (.take 17 (.take 18 (.sole 19 (.take 20 .done)))))))))))))) ?_ (fun T101 => ?_)
  ·rintro ax wx ⟨ga, gb, gc, xa, ya, xb, yb, rfl, hA, hB, hC, hD, hG⟩
   have HA := zh hA; have HBB := zh hB; have HC := zh hC; have HB0 := zh hD; have HG := zh hG
   clear hA hB hC hD hG
   rw [ha0]
   (simp only [setA, alLA, alLB, alLC, List.cons_append, List.nil_append, List.append_nil, List.foldl_cons, List.foldl_nil, List.setIfInBounds_toArray, List.set_cons_zero, List.set_cons_succ])
   refine plan_two ?_ ?_
   ·refine plan_slice 45 52 1 _ (ndRow 1 (.slice (some ⟨ga, 0, none⟩) 1 1)) zr zr zr Tryz.underlying45 (by first | exact builtNd 1 _ _ _ | (simp [Act.eval]; exact builtNd 1 _ _ _)) (HB0.out.alloc HB0.out.size _) ?_
    (simp only [Act.put, Mem.pa, Mem.pb, Mem.pc])
    have hq : Below wx.heap.size wx (wx.alloc (.cells (ndRow 1 (.slice (some ⟨ga, 0, none⟩) 1 1)) 52)) := (Below.refl _ _).alloc (Nat.le_refl _) (.cells (ndRow 1 (.slice (some ⟨ga, 0, none⟩) 1 1)) 52)
    have hsr : SlRf wx (.slice (some ⟨ga, 0, none⟩) 1 1) [r16] := slrf_one (r := r16) HA.out
    exact T201 _ _ ⟨wx.heap.size, gb, gc, _, _, xb, yb, by (rw [ha0]; rfl), slnd_one (at_new wx (ndRow 1 (.slice (some ⟨ga, 0, none⟩) 1 1)) 52) (hsr.below hq), HBB.out.below hq, HC.out.below hq, HB0.out.alloc HB0.out.size _, HG.out⟩
   ·refine plan_make _ _ 36 zr zr zr wx.heap.size 5 i8 (.int .u8 0) 1 Tryz.underlying36 I8.out Z8.out S8.out .i64 .i64 256 zr zr (by rw [B8'.out]; omega) (by simp [maxLen]) (Nat.le_refl _) ?_
    intro wy ho hg
    have hq : Below wx.heap.size wx wy := (Below.refl _ _).grown hg (Nat.le_refl _) (fun _ h => by cases h)
    have hat : At wy wx.heap.size (u8s z256).toArray 5 := by have h := own_full ho; rw [made_zeros] at h; exact h
    refine ⟨HB0.out.trans (hq.mono HB0.out.size), ?_⟩
    (simp only [Act.put, Mem.pa, Mem.pb, Mem.pc])
    refine plan_build 92 _ #[(1, .slice (some ⟨wx.heap.size, 0, none⟩) 256 256)] (.agg (chRow 0 (.slice (some ⟨wx.heap.size, 0, none⟩) 256 256))) zr zr zr (by first | rfl | simp [Act.eval]) (fun wy => built_ch16 wy _ _ _) ?_
    (simp only [Act.put, Mem.pa, Mem.pb, Mem.pc])
    exact T111 _ _ ⟨ga, wx.heap.size, gc, xa, ya, xb, yb, by (rw [ha0]; rfl), HA.out.below hq, at_sl hat (by decide), HC.out.below hq, HB0.out.trans (hq.mono HB0.out.size), HG.out⟩
  refine plan_lem (J16 a0 w2 0 2 0) (.two 4 16 (.take 5 (.two 6 16 (.two 10 16 (.take 11 (.take 12 (.take 13 (.take 14 (.take 15 (.sole 16 (.take 17 (.take 18 (.sole 19 (.take 20 .done)))))))))) (.sole 10 (.take 11 (.take 12 (.take 13 (.take 14 (.take 15 (.take 17 (.take 18 (.sole 19 (.take 20 .done))))))))))) (.sole 6 (.sole 10 (.take 11 (.take 12 (.take 13 (.take 14 (.take 15 (.take 17 (.take 18 (.sole 19 (.take 20 .done))))))))))))) (.sole 4 (.take 5 (.sole 6 (.sole 10 (.take 11 (.take 12 (.take 13 (.take 14 (.take 15 (.take 17 (.take 18 (.sole 19 (.take 20 .done)))))))))))))) ?_ (fun T020 => ?_)
  ·rintro ax wx ⟨ga, gb, gc, xa, ya, xb, yb, rfl, hA, hB, hC, hD, hG⟩
   have HA := zh hA; have HBB := zh hB; have HC := zh hC; have HB0 := zh hD; have HG := zh hG
   clear hA hB hC hD hG
   rw [ha0]
   (simp only [setA, alLA, alLB, alLC, List.nil_append, List.append_nil, List.foldl_cons, List.foldl_nil, List.setIfInBounds_toArray, List.set_cons_zero, List.set_cons_succ])
   refine plan_two ?_ ?_
   ·refine plan_slice 42 69 1 _ (refC r16) zr zr zr Tryz.underlying42 (by first | exact built_rp r16 r16_wf | (simp [Act.eval]; exact built_rp r16 r16_wf)) (HB0.out.alloc HB0.out.size _) ?_
    (simp only [Act.put, Mem.pa, Mem.pb, Mem.pc])
    refine plan_build 52 _ #[(0, .int .i64 1), (1, .slice (some ⟨wx.heap.size, 0, none⟩) 1 1)] (.agg (ndRow 1 (.slice (some ⟨wx.heap.size, 0, none⟩) 1 1))) zr zr zr (by first | rfl | simp [Act.eval]) (fun wy => buildNd 1 _ _ _ wy) ?_
    (simp only [Act.put, Mem.pa, Mem.pb, Mem.pc])
    have hq : Below wx.heap.size wx (wx.alloc (.cells (refC r16) 69)) := (Below.refl _ _).alloc (Nat.le_refl _) (.cells (refC r16) 69)
    exact T120 _ _ ⟨wx.heap.size, gb, gc, xa, ya, xb, yb, by (rw [ha0]; rfl), at_new wx (refC r16) 69, HBB.out.below hq, HC.out.below hq, HB0.out.alloc HB0.out.size _, HG.out⟩
   ·refine plan_alloc _ (refC zref) zr zr zr AL.out (HB0.out.alloc HB0.out.size _) ?_
    (simp only [Act.put, Mem.pa, Mem.pb, Mem.pc])
    have hq : Below wx.heap.size wx (wx.alloc (.cells (refC zref) 69)) := (Below.refl _ _).alloc (Nat.le_refl _) (.cells (refC zref) 69)
    exact T021 _ _ ⟨ga, gb, wx.heap.size, xa, ya, xb, yb, by (rw [ha0]; rfl), HA.out.below hq, HBB.out.below hq, at_new wx (refC zref) 69, HB0.out.alloc HB0.out.size _, fun _ => HB0.out.size⟩
  refine plan_lem (J16 a0 w2 0 1 1) (.two 4 9 (.take 5 (.two 6 9 (.sole 9 (.sole 10 (.take 11 (.take 12 (.take 13 (.take 14 (.take 15 (.take 17 (.take 18 (.sole 19 (.take 20 .done))))))))))) (.sole 6 (.sole 10 (.take 11 (.take 12 (.take 13 (.take 14 (.take 15 (.take 17 (.take 18 (.sole 19 (.take 20 .done))))))))))))) (.sole 4 (.take 5 (.sole 6 (.sole 10 (.take 11 (.take 12 (.take 13 (.take 14 (.take 15 (.take 17 (.take 18 (.sole 19 (.take 20 .done)))))))))))))) ?_ (fun T011 => ?_)
  ·rintro ax wx ⟨ga, gb, gc, xa, ya, xb, yb, rfl, hA, hB, hC, hD, hG⟩
   have HA := zh hA; have HBB := zh hB; have HC := zh hC; have HB0 := zh hD; have HG := zh hG
   clear hA hB hC hD hG
   rw [ha0]
   (simp only [setA, alLA, alLB, alLC, List.cons_append, List.nil_append, List.foldl_cons, List.foldl_nil, List.setIfInBounds_toArray, List.set_cons_zero, List.set_cons_succ])
   refine plan_two ?_ ?_
   ·refine plan_slice 42 69 1 _ (refC r16) zr zr zr Tryz.underlying42 (by first | exact built_rp r16 r16_wf | (simp [Act.eval]; exact built_rp r16 r16_wf)) (HB0.out.alloc HB0.out.size _) ?_
    (simp only [Act.put, Mem.pa, Mem.pb, Mem.pc])
    refine plan_build 52 _ #[(0, .int .i64 1), (1, .slice (some ⟨wx.heap.size, 0, none⟩) 1 1)] (.agg (ndRow 1 (.slice (some ⟨wx.heap.size, 0, none⟩) 1 1))) zr zr zr (by first | rfl | simp [Act.eval]) (fun wy => buildNd 1 _ _ _ wy) ?_
    (simp only [Act.put, Mem.pa, Mem.pb, Mem.pc])
    have hq : Below wx.heap.size wx (wx.alloc (.cells (refC r16) 69)) := (Below.refl _ _).alloc (Nat.le_refl _) (.cells (refC r16) 69)
    exact T111 _ _ ⟨wx.heap.size, gb, gc, xa, ya, xb, yb, by (rw [ha0]; rfl), at_new wx (refC r16) 69, HBB.out.below hq, HC.out.below hq, HB0.out.alloc HB0.out.size _, HG.out⟩
   ·refine plan_slice 56 92 1 _ (chRow 0 (.slice (some ⟨gb, 0, none⟩) 256 256)) zr zr zr Tryz.underlying56 (by first | exact builtCh16 0 _ _ _ | (simp [Act.eval]; exact builtCh16 0 _ _ _)) (HB0.out.alloc HB0.out.size _) ?_
    (simp only [Act.put, Mem.pa, Mem.pb, Mem.pc])
    have hq : Below wx.heap.size wx (wx.alloc (.cells (chRow 0 (.slice (some ⟨gb, 0, none⟩) 256 256)) 92)) := (Below.refl _ _).alloc (Nat.le_refl _) (.cells (chRow 0 (.slice (some ⟨gb, 0, none⟩) 256 256)) 92)
    have hsl : Sl wx (.slice (some ⟨gb, 0, none⟩) 256 256) z256 := HBB.out
    exact T021 _ _ ⟨ga, wx.heap.size, gc, xa, ya, _, _, by (rw [ha0]; rfl), HA.out.below hq, slch_one (at_new wx (chRow 0 (.slice (some ⟨gb, 0, none⟩) 256 256)) 92) (hsl.below hq), HC.out.below hq, HB0.out.alloc HB0.out.size _, HG.out⟩
  refine plan_lem (J16 a0 w2 1 0 0) (.three 6 7 16 (.two 7 16 (.take 8 (.two 9 16 (.two 10 16 (.take 11 (.take 12 (.take 13 (.take 14 (.take 15 (.sole 16 (.take 17 (.take 18 (.sole 19 (.take 20 .done)))))))))) (.sole 10 (.take 11 (.take 12 (.take 13 (.take 14 (.take 15 (.take 17 (.take 18 (.sole 19 (.take 20 .done))))))))))) (.sole 9 (.sole 10 (.take 11 (.take 12 (.take 13 (.take 14 (.take 15 (.take 17 (.take 18 (.sole 19 (.take 20 .done))))))))))))) (.sole 7 (.take 8 (.sole 9 (.sole 10 (.take 11 (.take 12 (.take 13 (.take 14 (.take 15 (.take 17 (.take 18 (.sole 19 (.take 20 .done)))))))))))))) (.take 8 (.three 6 9 16 (.two 9 16 (.two 10 16 (.take 11 (.take 12 (.take 13 (.take 14 (.take 15 (.sole 16 (.take 17 (.take 18 (.sole 19 (.take 20 .done)))))))))) (.sole 10 (.take 11 (.take 12 (.take 13 (.take 14 (.take 15 (.take 17 (.take 18 (.sole 19 (.take 20 .done))))))))))) (.sole 9 (.sole 10 (.take 11 (.take 12 (.take 13 (.take 14 (.take 15 (.take 17 (.take 18 (.sole 19 (.take 20 .done)))))))))))) (.two 6 16 (.two 10 16 (.take 11 (.take 12 (.take 13 (.take 14 (.take 15 (.sole 16 (.take 17 (.take 18 (.sole 19 (.take 20 .done)))))))))) (.sole 10 (.take 11 (.take 12 (.take 13 (.take 14 (.take 15 (.take 17 (.take 18 (.sole 19 (.take 20 .done))))))))))) (.sole 6 (.sole 10 (.take 11 (.take 12 (.take 13 (.take 14 (.take 15 (.take 17 (.take 18 (.sole 19 (.take 20 .done)))))))))))) (.two 6 9 (.sole 9 (.sole 10 (.take 11 (.take 12 (.take 13 (.take 14 (.take 15 (.take 17 (.take 18 (.sole 19 (.take 20 .done))))))))))) (.sole 6 (.sole 10 (.take 11 (.take 12 (.take 13 (.take 14 (.take 15 (.take 17 (.take 18 (.sole 19 (.take 20 .done)))))))))))))) (.two 6 7 (.sole 7 (.take 8 (.sole 9 (.sole 10 (.take 11 (.take 12 (.take 13 (.take 14 (.take 15 (.take 17 (.take 18 (.sole 19 (.take 20 .done))))))))))))) (.take 8 (.two 6 9 (.sole 9 (.sole 10 (.take 11 (.take 12 (.take 13 (.take 14 (.take 15 (.take 17 (.take 18 (.sole 19 (.take 20 .done))))))))))) (.sole 6 (.sole 10 (.take 11 (.take 12 (.take 13 (.take 14 (.take 15 (.take 17 (.take 18 (.sole 19 (.take 20 .done))))))))))))))) ?_ (fun T100 => ?_)
  ·rintro ax wx ⟨ga, gb, gc, xa, ya, xb, yb, rfl, hA, hB, hC, hD, hG⟩
   have HA := zh hA; have HBB := zh hB; have HC := zh hC; have HB0 := zh hD; have HG := zh hG
   clear hA hB hC hD hG
   rw [ha0]
   (simp only [setA, alLA, alLB, alLC, List.append_nil, List.foldl_cons, List.foldl_nil, List.setIfInBounds_toArray, List.set_cons_zero, List.set_cons_succ])
   refine plan_three ?_ ?_ ?_
   ·refine plan_slice 45 52 1 _ (ndRow 1 (.slice (some ⟨ga, 0, none⟩) 1 1)) zr zr zr Tryz.underlying45 (by first | exact builtNd 1 _ _ _ | (simp [Act.eval]; exact builtNd 1 _ _ _)) (HB0.out.alloc HB0.out.size _) ?_
    (simp only [Act.put, Mem.pa, Mem.pb, Mem.pc])
    have hq : Below wx.heap.size wx (wx.alloc (.cells (ndRow 1 (.slice (some ⟨ga, 0, none⟩) 1 1)) 52)) := (Below.refl _ _).alloc (Nat.le_refl _) (.cells (ndRow 1 (.slice (some ⟨ga, 0, none⟩) 1 1)) 52)
    have hsr : SlRf wx (.slice (some ⟨ga, 0, none⟩) 1 1) [r16] := slrf_one (r := r16) HA.out
    exact T200 _ _ ⟨wx.heap.size, gb, gc, _, _, xb, yb, by (rw [ha0]; rfl), slnd_one (at_new wx (ndRow 1 (.slice (some ⟨ga, 0, none⟩) 1 1)) 52) (hsr.below hq), HBB.out.below hq, HC.out.below hq, HB0.out.alloc HB0.out.size _, HG.out⟩
   ·refine plan_make _ _ 36 zr zr zr wx.heap.size 5 i8 (.int .u8 0) 1 Tryz.underlying36 I8.out Z8.out S8.out .i64 .i64 256 zr zr (by rw [B8'.out]; omega) (by simp [maxLen]) (Nat.le_refl _) ?_
    intro wy ho hg
    have hq : Below wx.heap.size wx wy := (Below.refl _ _).grown hg (Nat.le_refl _) (fun _ h => by cases h)
    have hat : At wy wx.heap.size (u8s z256).toArray 5 := by have h := own_full ho; rw [made_zeros] at h; exact h
    refine ⟨HB0.out.trans (hq.mono HB0.out.size), ?_⟩
    (simp only [Act.put, Mem.pa, Mem.pb, Mem.pc])
    refine plan_build 92 _ #[(1, .slice (some ⟨wx.heap.size, 0, none⟩) 256 256)] (.agg (chRow 0 (.slice (some ⟨wx.heap.size, 0, none⟩) 256 256))) zr zr zr (by first | rfl | simp [Act.eval]) (fun wy => built_ch16 wy _ _ _) ?_
    (simp only [Act.put, Mem.pa, Mem.pb, Mem.pc])
    exact T110 _ _ ⟨ga, wx.heap.size, gc, xa, ya, xb, yb, by (rw [ha0]; rfl), HA.out.below hq, at_sl hat (by decide), HC.out.below hq, HB0.out.trans (hq.mono HB0.out.size), HG.out⟩
   ·refine plan_alloc _ (refC zref) zr zr zr AL.out (HB0.out.alloc HB0.out.size _) ?_
    (simp only [Act.put, Mem.pa, Mem.pb, Mem.pc])
    have hq : Below wx.heap.size wx (wx.alloc (.cells (refC zref) 69)) := (Below.refl _ _).alloc (Nat.le_refl _) (.cells (refC zref) 69)
    exact T101 _ _ ⟨ga, gb, wx.heap.size, xa, ya, xb, yb, by (rw [ha0]; rfl), HA.out.below hq, HBB.out.below hq, at_new wx (refC zref) 69, HB0.out.alloc HB0.out.size _, fun _ => HB0.out.size⟩
  refine plan_lem (J16 a0 w2 0 1 0) (.three 4 9 16 (.take 5 (.three 6 9 16 (.two 9 16 (.two 10 16 (.take 11 (.take 12 (.take 13 (.take 14 (.take 15 (.sole 16 (.take 17 (.take 18 (.sole 19 (.take 20 .done)))))))))) (.sole 10 (.take 11 (.take 12 (.take 13 (.take 14 (.take 15 (.take 17 (.take 18 (.sole 19 (.take 20 .done))))))))))) (.sole 9 (.sole 10 (.take 11 (.take 12 (.take 13 (.take 14 (.take 15 (.take 17 (.take 18 (.sole 19 (.take 20 .done)))))))))))) (.two 6 16 (.two 10 16 (.take 11 (.take 12 (.take 13 (.take 14 (.take 15 (.sole 16 (.take 17 (.take 18 (.sole 19 (.take 20 .done)))))))))) (.sole 10 (.take 11 (.take 12 (.take 13 (.take 14 (.take 15 (.take 17 (.take 18 (.sole 19 (.take 20 .done))))))))))) (.sole 6 (.sole 10 (.take 11 (.take 12 (.take 13 (.take 14 (.take 15 (.take 17 (.take 18 (.sole 19 (.take 20 .done)))))))))))) (.two 6 9 (.sole 9 (.sole 10 (.take 11 (.take 12 (.take 13 (.take 14 (.take 15 (.take 17 (.take 18 (.sole 19 (.take 20 .done))))))))))) (.sole 6 (.sole 10 (.take 11 (.take 12 (.take 13 (.take 14 (.take 15 (.take 17 (.take 18 (.sole 19 (.take 20 .done)))))))))))))) (.two 4 16 (.take 5 (.two 6 16 (.two 10 16 (.take 11 (.take 12 (.take 13 (.take 14 (.take 15 (.sole 16 (.take 17 (.take 18 (.sole 19 (.take 20 .done)))))))))) (.sole 10 (.take 11 (.take 12 (.take 13 (.take 14 (.take 15 (.take 17 (.take 18 (.sole 19 (.take 20 .done))))))))))) (.sole 6 (.sole 10 (.take 11 (.take 12 (.take 13 (.take 14 (.take 15 (.take 17 (.take 18 (.sole 19 (.take 20 .done))))))))))))) (.sole 4 (.take 5 (.sole 6 (.sole 10 (.take 11 (.take 12 (.take 13 (.take 14 (.take 15 (.take 17 (.take 18 (.sole 19 (.take 20 .done)))))))))))))) (.two 4 9 (.take 5 (.two 6 9 (.sole 9 (.sole 10 (.take 11 (.take 12 (.take 13 (.take 14 (.take 15 (.take 17 (.take 18 (.sole 19 (.take 20 .done))))))))))) (.sole 6 (.sole 10 (.take 11 (.take 12 (.take 13 (.take 14 (.take 15 (.take 17 (.take 18 (.sole 19 (.take 20 .done))))))))))))) (.sole 4 (.take 5 (.sole 6 (.sole 10 (.take 11 (.take 12 (.take 13 (.take 14 (.take 15 (.take 17 (.take 18 (.sole 19 (.take 20 .done))))))))))))))) ?_ (fun T010 => ?_)
  ·rintro ax wx ⟨ga, gb, gc, xa, ya, xb, yb, rfl, hA, hB, hC, hD, hG⟩
   have HA := zh hA; have HBB := zh hB; have HC := zh hC; have HB0 := zh hD; have HG := zh hG
   clear hA hB hC hD hG
   rw [ha0]
   (simp only [setA, alLA, alLB, alLC, List.nil_append, List.append_nil, List.foldl_cons, List.foldl_nil, List.setIfInBounds_toArray, List.set_cons_zero, List.set_cons_succ])
   refine plan_three ?_ ?_ ?_
   ·refine plan_slice 42 69 1 _ (refC r16) zr zr zr Tryz.underlying42 (by first | exact built_rp r16 r16_wf | (simp [Act.eval]; exact built_rp r16 r16_wf)) (HB0.out.alloc HB0.out.size _) ?_
    (simp only [Act.put, Mem.pa, Mem.pb, Mem.pc])
    refine plan_build 52 _ #[(0, .int .i64 1), (1, .slice (some ⟨wx.heap.size, 0, none⟩) 1 1)] (.agg (ndRow 1 (.slice (some ⟨wx.heap.size, 0, none⟩) 1 1))) zr zr zr (by first | rfl | simp [Act.eval]) (fun wy => buildNd 1 _ _ _ wy) ?_
    (simp only [Act.put, Mem.pa, Mem.pb, Mem.pc])
    have hq : Below wx.heap.size wx (wx.alloc (.cells (refC r16) 69)) := (Below.refl _ _).alloc (Nat.le_refl _) (.cells (refC r16) 69)
    exact T110 _ _ ⟨wx.heap.size, gb, gc, xa, ya, xb, yb, by (rw [ha0]; rfl), at_new wx (refC r16) 69, HBB.out.below hq, HC.out.below hq, HB0.out.alloc HB0.out.size _, HG.out⟩
   ·refine plan_slice 56 92 1 _ (chRow 0 (.slice (some ⟨gb, 0, none⟩) 256 256)) zr zr zr Tryz.underlying56 (by first | exact builtCh16 0 _ _ _ | (simp [Act.eval]; exact builtCh16 0 _ _ _)) (HB0.out.alloc HB0.out.size _) ?_
    (simp only [Act.put, Mem.pa, Mem.pb, Mem.pc])
    have hq : Below wx.heap.size wx (wx.alloc (.cells (chRow 0 (.slice (some ⟨gb, 0, none⟩) 256 256)) 92)) := (Below.refl _ _).alloc (Nat.le_refl _) (.cells (chRow 0 (.slice (some ⟨gb, 0, none⟩) 256 256)) 92)
    have hsl : Sl wx (.slice (some ⟨gb, 0, none⟩) 256 256) z256 := HBB.out
    exact T020 _ _ ⟨ga, wx.heap.size, gc, xa, ya, _, _, by (rw [ha0]; rfl), HA.out.below hq, slch_one (at_new wx (chRow 0 (.slice (some ⟨gb, 0, none⟩) 256 256)) 92) (hsl.below hq), HC.out.below hq, HB0.out.alloc HB0.out.size _, HG.out⟩
   ·refine plan_alloc _ (refC zref) zr zr zr AL.out (HB0.out.alloc HB0.out.size _) ?_
    (simp only [Act.put, Mem.pa, Mem.pb, Mem.pc])
    have hq : Below wx.heap.size wx (wx.alloc (.cells (refC zref) 69)) := (Below.refl _ _).alloc (Nat.le_refl _) (.cells (refC zref) 69)
    exact T011 _ _ ⟨ga, gb, wx.heap.size, xa, ya, xb, yb, by (rw [ha0]; rfl), HA.out.below hq, HBB.out.below hq, at_new wx (refC zref) 69, HB0.out.alloc HB0.out.size _, fun _ => HB0.out.size⟩
  refine plan_lem (J16 a0 w2 0 0 1) (.two 4 7 (.take 5 (.two 6 7 (.sole 7 (.take 8 (.sole 9 (.sole 10 (.take 11 (.take 12 (.take 13 (.take 14 (.take 15 (.take 17 (.take 18 (.sole 19 (.take 20 .done))))))))))))) (.take 8 (.two 6 9 (.sole 9 (.sole 10 (.take 11 (.take 12 (.take 13 (.take 14 (.take 15 (.take 17 (.take 18 (.sole 19 (.take 20 .done))))))))))) (.sole 6 (.sole 10 (.take 11 (.take 12 (.take 13 (.take 14 (.take 15 (.take 17 (.take 18 (.sole 19 (.take 20 .done))))))))))))))) (.take 8 (.two 4 9 (.take 5 (.two 6 9 (.sole 9 (.sole 10 (.take 11 (.take 12 (.take 13 (.take 14 (.take 15 (.take 17 (.take 18 (.sole 19 (.take 20 .done))))))))))) (.sole 6 (.sole 10 (.take 11 (.take 12 (.take 13 (.take 14 (.take 15 (.take 17 (.take 18 (.sole 19 (.take 20 .done))))))))))))) (.sole 4 (.take 5 (.sole 6 (.sole 10 (.take 11 (.take 12 (.take 13 (.take 14 (.take 15 (.take 17 (.take 18 (.sole 19 (.take 20 .done)))))))))))))))) ?_ (fun T001 => ?_)
  ·rintro ax wx ⟨ga, gb, gc, xa, ya, xb, yb, rfl, hA, hB, hC, hD, hG⟩
   have HA := zh hA; have HBB := zh hB; have HC := zh hC; have HB0 := zh hD; have HG := zh hG
   clear hA hB hC hD hG
   rw [ha0]
   (simp only [setA, alLA, alLB, alLC, List.nil_append, List.append_nil, List.foldl_cons, List.foldl_nil, List.setIfInBounds_toArray, List.set_cons_zero, List.set_cons_succ])
   refine plan_two ?_ ?_
   ·refine plan_slice 42 69 1 _ (refC r16) zr zr zr Tryz.underlying42 (by first | exact built_rp r16 r16_wf | (simp [Act.eval]; exact built_rp r16 r16_wf)) (HB0.out.alloc HB0.out.size _) ?_
    (simp only [Act.put, Mem.pa, Mem.pb, Mem.pc])
    refine plan_build 52 _ #[(0, .int .i64 1), (1, .slice (some ⟨wx.heap.size, 0, none⟩) 1 1)] (.agg (ndRow 1 (.slice (some ⟨wx.heap.size, 0, none⟩) 1 1))) zr zr zr (by first | rfl | simp [Act.eval]) (fun wy => buildNd 1 _ _ _ wy) ?_
    (simp only [Act.put, Mem.pa, Mem.pb, Mem.pc])
    have hq : Below wx.heap.size wx (wx.alloc (.cells (refC r16) 69)) := (Below.refl _ _).alloc (Nat.le_refl _) (.cells (refC r16) 69)
    exact T101 _ _ ⟨wx.heap.size, gb, gc, xa, ya, xb, yb, by (rw [ha0]; rfl), at_new wx (refC r16) 69, HBB.out.below hq, HC.out.below hq, HB0.out.alloc HB0.out.size _, HG.out⟩
   ·refine plan_make _ _ 36 zr zr zr wx.heap.size 5 i8 (.int .u8 0) 1 Tryz.underlying36 I8.out Z8.out S8.out .i64 .i64 256 zr zr (by rw [B8'.out]; omega) (by simp [maxLen]) (Nat.le_refl _) ?_
    intro wy ho hg
    have hq : Below wx.heap.size wx wy := (Below.refl _ _).grown hg (Nat.le_refl _) (fun _ h => by cases h)
    have hat : At wy wx.heap.size (u8s z256).toArray 5 := by have h := own_full ho; rw [made_zeros] at h; exact h
    refine ⟨HB0.out.trans (hq.mono HB0.out.size), ?_⟩
    (simp only [Act.put, Mem.pa, Mem.pb, Mem.pc])
    refine plan_build 92 _ #[(1, .slice (some ⟨wx.heap.size, 0, none⟩) 256 256)] (.agg (chRow 0 (.slice (some ⟨wx.heap.size, 0, none⟩) 256 256))) zr zr zr (by first | rfl | simp [Act.eval]) (fun wy => built_ch16 wy _ _ _) ?_
    (simp only [Act.put, Mem.pa, Mem.pb, Mem.pc])
    exact T011 _ _ ⟨ga, wx.heap.size, gc, xa, ya, xb, yb, by (rw [ha0]; rfl), HA.out.below hq, at_sl hat (by decide), HC.out.below hq, HB0.out.trans (hq.mono HB0.out.size), HG.out⟩
  have HA : Hid (alFA 0 0 w2.drew) := zh trivial; have HBB : Hid (alFB 0 0 w2.drew) := zh trivial; have HC : Hid (alFC 0 0 w2.drew) := zh trivial
  have HB0 : Hid (Below w2.heap.size w2 w2.drew) := zh (Below.refl _ _).drew
  have HG : Hid (0 < 0 → w2.heap.size ≤ 0) := zh (fun h => by omega)
  obtain ⟨wx, hwx⟩ : ∃ y, y = w2.drew := ⟨_, rfl⟩
  rw [← hwx] at HA HBB HC HB0 ⊢
  clear hwx
  skip
  rw [ha0]
  refine plan_three ?_ ?_ ?_
  ·refine plan_slice 42 69 1 _ (refC r16) zr zr zr Tryz.underlying42 (by first | exact built_rp r16 r16_wf | (simp [Act.eval]; exact built_rp r16 r16_wf)) (HB0.out.alloc HB0.out.size _) ?_
   (simp only [Act.put, Mem.pa, Mem.pb, Mem.pc])
   refine plan_build 52 _ #[(0, .int .i64 1), (1, .slice (some ⟨wx.heap.size, 0, none⟩) 1 1)] (.agg (ndRow 1 (.slice (some ⟨wx.heap.size, 0, none⟩) 1 1))) zr zr zr (by first | rfl | simp [Act.eval]) (fun wy => buildNd 1 _ _ _ wy) ?_
   (simp only [Act.put, Mem.pa, Mem.pb, Mem.pc])
   have hq : Below wx.heap.size wx (wx.alloc (.cells (refC r16) 69)) := (Below.refl _ _).alloc (Nat.le_refl _) (.cells (refC r16) 69)
   exact T100 _ _ ⟨wx.heap.size, 0, 0, undef, undef, undef, undef, by (rw [ha0]; rfl), at_new wx (refC r16) 69, HBB.out.below hq, HC.out.below hq, HB0.out.alloc HB0.out.size _, HG.out⟩
  ·refine plan_make _ _ 36 zr zr zr wx.heap.size 5 i8 (.int .u8 0) 1 Tryz.underlying36 I8.out Z8.out S8.out .i64 .i64 256 zr zr (by rw [B8'.out]; omega) (by simp [maxLen]) (Nat.le_refl _) ?_
   intro wy ho hg
   have hq : Below wx.heap.size wx wy := (Below.refl _ _).grown hg (Nat.le_refl _) (fun _ h => by cases h)
   have hat : At wy wx.heap.size (u8s z256).toArray 5 := by have h := own_full ho; rw [made_zeros] at h; exact h
   refine ⟨HB0.out.trans (hq.mono HB0.out.size), ?_⟩
   (simp only [Act.put, Mem.pa, Mem.pb, Mem.pc])
   refine plan_build 92 _ #[(1, .slice (some ⟨wx.heap.size, 0, none⟩) 256 256)] (.agg (chRow 0 (.slice (some ⟨wx.heap.size, 0, none⟩) 256 256))) zr zr zr (by first | rfl | simp [Act.eval]) (fun wy => built_ch16 wy _ _ _) ?_
   (simp only [Act.put, Mem.pa, Mem.pb, Mem.pc])
   exact T010 _ _ ⟨0, wx.heap.size, 0, undef, undef, undef, undef, by (rw [ha0]; rfl), HA.out.below hq, at_sl hat (by decide), HC.out.below hq, HB0.out.trans (hq.mono HB0.out.size), HG.out⟩
  ·refine plan_alloc _ (refC zref) zr zr zr AL.out (HB0.out.alloc HB0.out.size _) ?_
   (simp only [Act.put, Mem.pa, Mem.pb, Mem.pc])
   have hq : Below wx.heap.size wx (wx.alloc (.cells (refC zref) 69)) := (Below.refl _ _).alloc (Nat.le_refl _) (.cells (refC zref) 69)
   exact T001 _ _ ⟨0, 0, wx.heap.size, undef, undef, undef, undef, by (rw [ha0]; rfl), HA.out.below hq, HBB.out.below hq, at_new wx (refC zref) 69, HB0.out.alloc HB0.out.size _, fun _ => HB0.out.size⟩
 case rest =>
  obtain ⟨vp, g, an, cn, rfl, rfl, rfl, rfl, hg, hp, hb⟩ := hcut
  obtain ⟨ap, cp, rfl⟩ := hp.hd
  obtain ⟨b0, o0, _, rfl, _, c0, _, _⟩ := lput_at hp (j := 0) (by show 0 < 2; decide)
  obtain ⟨b1, o1, _, e1, _, c1, _, _⟩ := lput_at hp (j := 1) (by show 1 < 2; decide)
  injection e1 with e1
  injection e1 with e1 e2 _
  subst e1 e2
  have c0 : wc.cell? ⟨b0, o0, none⟩ = some (.int .i64 2) := by have h := c0; rw [Nat.zero_mul, Nat.add_zero] at h; exact h
  have c1 : wc.cell? ⟨b0, o0 + 2, none⟩ = some (.int .i64 5) := c1
  have k0 : wc.cell? ⟨g, 0, none⟩ = some (.int .i64 1) := (hg.cell 0).trans R0.out
  have k1 : wc.cell? ⟨g, 1, none⟩ = some (.int .u32 2) := (hg.cell 1).trans R1.out
  have A2 := zh (A1.out.below hb A1.out.lt); have B2 := zh (B1.out.trans (hb.mono B1.out.size)); have GL := zh hg.lt; have BL := zh (block_lt_of_cell c0)
  clear hg hp hb
  go_wp2_with (first
   | (refine wpList_unguard zr ?_; refine wpList_load_all zr 25 _ zr bs zr _ Tryz.underlying25 zr C _ A2.out (by rw [CS.out]; exact infoPS) ?_)
   | (refine wpList_unguard zr ?_; refine Go.Great.wpList_buildSliceTo zr 29 3 1 _ zr _ zr _ zr Tryz.underlying29 #[.int .i64 0] (by kernel_rfl) ?_))
  refine (NDD.out _ _ (slz_built _)).mono ?_
  rintro e' wy ⟨v', rfl, how, hby⟩
  obtain ⟨av, cv, rfl⟩ := (ownV_sli how).hd
  have D1 : Hid (Below w.heap.size w wy) := zh (B2.out.trans ((((Below.refl _ _).alloc (Nat.le_refl _) _).trans (hby.mono (by simp))).mono B2.out.size))
  clear how hby
  go_wp2_with fail
  go_ret
  exact ⟨rfl, D1.out⟩
end Sha
end Go.Proofs.YtahcjnganedbiaaGreatDoor
