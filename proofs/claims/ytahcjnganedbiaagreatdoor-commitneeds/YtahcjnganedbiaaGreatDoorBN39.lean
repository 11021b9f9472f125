/- My own texts, merged. -/
import Derived.Test.YtahcjnganedbiaaGreatDoorBN37
import Derived.Test.YtahcjnganedbiaaGreatDoorBN16
import Derived.Test.YtahcjnganedbiaaGreatDoorBN00
import Derived.Test.YtahcjnganedbiaaGreatDoorBN05
import Derived.Test.YtahcjnganedbiaaGreatDoorBN09
namespace Go.Proofs.YtahcjnganedbiaaGreatDoor
namespace Sha
open Go.RowKit Mem
set_option maxRecDepth 100000
theorem pgsC_length (C : List ChV) : (pgsC C).length = C.length := by simp [pgsC]
theorem pgsC_take (C : List ChV) (j : Nat) (hj : j < C.length) : (pgsC C).take (j + 1) = (pgsC C).take j ++ [(C.getD j zch).1] := by
 unfold pgsC
 rw [List.take_add_one, List.getElem?_map, List.getElem?_eq_getElem hj, List.getD_eq_getElem?_getD, List.getElem?_eq_getElem hj]
 rfl
set_option maxHeartbeats 1000000 in
theorem pneedOf_any (p : Nat) (C : List ChV) (v : Value) (w : World) (hv : SlCh w v C) (h1 : p ≤ 216) (hl : C.length ≤ 1000) : Calls Tryz.prog 39 #[.agg (psC p), v] w fun e w' => ∃ v', e = .returned v' ∧ OwnV w' w.heap.size 3 v' (iz (needI p (pgsC C))) ∧ Below w.heap.size w w' := by
 have nd := fun vx wx h => pneed_any p (pgsC C) vx wx h h1 (by rw [pgsC_length]; exact hl)
 obtain ⟨av, cv, rfl⟩ := hv.hd
 have htk := fun j hj => pgsC_take C j hj
 have hall : (pgsC C).take C.length = pgsC C := by rw [← pgsC_length C]; exact List.take_length
 have htl : ∀ j, j ≤ C.length → ((pgsC C).take j).length = j := fun j hj => by rw [List.length_take, pgsC_length]; omega
 obtain ⟨PG, hPG⟩ : ∃ P, P = pgsC C := ⟨_, rfl⟩
 rw [← hPG] at nd htk hall htl ⊢
 obtain ⟨KS, hKS⟩ : ∃ K, K = needI p PG := ⟨_, rfl⟩
 rw [← hKS] at nd ⊢
 obtain ⟨n, hn⟩ : ∃ n, n = C.length := ⟨_, rfl⟩
 rw [← hn] at hv hl htk hall htl ⊢
 have ha := at_new w (psC p) 25
 have hb : Below w.heap.size w (w.alloc (.cells (psC p) 25)) := (Below.refl _ _).alloc (Nat.le_refl _) _
 have ms : (psC p).size = 1 := rfl
 obtain ⟨M, hM⟩ : ∃ M, M = psC p := ⟨_, rfl⟩
 rw [← hM] at nd ha hb ms ⊢
 have NDD := zh nd; have TK := zh htk; have ALL := zh hall; have TL := zh htl; have HV := zh hv; have HN := zh hn; have HA := zh ha; have HB := zh hb; have MS := zh ms
 clear nd htk hall htl hv hn ha hb ms hPG hKS hM
 go_enter Tryz.func39, Tryz.ntmps39
 go_upto_region 1 with fail
 generalize w.alloc (.cells M 25) = w1 at *
 go_wp2_with fail
 go_loopw [5, 10] (fun vo vi wr => ∃ j : Nat, j ≤ n ∧ vi = .int .i64 (j : Int) ∧ OwnV wr w.heap.size 3 vo (iz (PG.take j)) ∧ Below w.heap.size w wr ∧ At wr w.heap.size M 25) (fun _ vi _ => n - (intOf vi).toNat)
 case atStart => exact ⟨0, by omega, rfl, by rw [List.take_zero]; exact World.ownsRow_nil _ _ _ _, HB.out, HA.out⟩
 case round =>
  obtain ⟨j, hj, rfl, ho, hbw, haw⟩ := hrel
  have OW := zh ho; have BW := zh hbw; have AW := zh haw; have VW := zh (HV.out.below hbw)
  have hl5 : (iz (PG.take j)).length = j := by rw [iz_length, TL.out j hj]
  have L5 := zh hl5
  clear ho hbw haw hl5
  by_cases hlt : j < n
  ·have hlt' : (j : Int) < (n : Int) := by omega
   obtain ⟨b1, o1, u, e1, hlb, cz0, cu0, hsu⟩ := slch_at (i := j) VW.out HN.out hlt
   subst e1
   have htk := TK.out j hlt
   obtain ⟨x, hx⟩ : ∃ x, x = (C.getD j zch).2 := ⟨_, rfl⟩
   obtain ⟨z, hz⟩ : ∃ z, z = (C.getD j zch).1 := ⟨_, rfl⟩
   rw [← hz] at htk
   rw [← hx] at hsu
   obtain ⟨a3, cap3, rfl⟩ := sl_inv hsu
   obtain ⟨m, hm⟩ : ∃ m, m = x.length := ⟨_, rfl⟩
   rw [← hm] at cu0
   have cz : wr.cell? ⟨b1, o1 + j * 2, none⟩ = some (.int .i64 z) := by rw [hz]; exact cz0
   have cu : wr.cell? ⟨b1, o1 + j * 2 + 1, none⟩ = some (.slice a3 m cap3) := cu0
   clear cz0 cu0
   have A3 := zh (at_new wr (chRow z (.slice a3 m cap3)) 92)
   have B3 : Hid (Below w.heap.size w (wr.alloc (.cells (chRow z (.slice a3 m cap3)) 92))) := zh (BW.out.alloc BW.out.size _)
   have AS3 := zh (AW.out.alloc (.cells (chRow z (.slice a3 m cap3)) 92))
   have O3 : Hid (OwnV (wr.alloc (.cells (chRow z (.slice a3 m cap3)) 92)) w.heap.size 3 u5 (iz (PG.take j))) := zh (World.ownsRow.alloc OW.out _)
   have HTK := zh htk
   clear htk hsu hx hz hm hlb
   go_upto_region 5 with (refine wpList_store_new zr 92 _ _ zr zr (chRow z (.slice a3 m cap3)) _ _ zr zr (by exact infoCh16) zr (chRow_one _ _ _ _) ?_)
   clear cz cu
   obtain ⟨bx, hbx⟩ : ∃ bx, bx = wr.heap.size := ⟨_, rfl⟩
   rw [← hbx] at A3 ⊢
   clear hbx
   generalize wr.alloc (.cells (chRow z (.slice a3 m cap3)) 92) = w3 at *
   have c0 : w3.cell? ⟨bx, 0, none⟩ = some (.int .i64 z) := (A3.out.cell 0).trans rfl
   obtain ⟨a5, c5, rfl, _⟩ := OwnV.open O3.out
   rw [L5.out] at O3 ⊢
   go_wp2_with (at_builtin; refine wpList_append_lit zr _ _ 29 zr (.int .i64 z) (.int .i64 0) 8 elemInt zr zr O3.out zr zr (by rw [L5.out]; omega) (by rw [L5.out]; omega) (B3.out.size) ?_; intro v6 w6 ho6 hk6 hb6 _; have O6 : Hid (OwnV w6 w.heap.size 3 v6 (iz (PG.take (j + 1)))) := zh (by rw [HTK.out, iz_snoc]; exact ho6); have B6 : Hid (Below w.heap.size w w6) := zh (B3.out.trans hb6); have A6 := zh (Sha.At.app AS3.out hk6 (own_ne_at O3.out AS3.out (by decide))); clear ho6 hb6 hk6)
   go_roundw
   case rel => exact ⟨j + 1, by omega, by go_num, O6.out, B6.out, A6.out⟩
   case measure => simp [intOf]; omega
  ·have hjn : j = n := by omega
   subst hjn
   have hge : ¬ (j : Int) < (j : Int) := by omega
   rw [ALL.out] at OW
   go_wp2_with (refine wpList_load_all zr 25 _ zr w.heap.size zr _ Tryz.underlying25 zr M _ AW.out (by rw [MS.out]; exact infoPS) ?_)
   refine (NDD.out _ _ (ownV_sli OW.out)).mono ?_
   rintro e w5 ⟨v5, rfl, ho5, hb5⟩
   have O5 := zh (OwnV.base ho5 BW.out.size); have B5 := zh (BW.out.trans (hb5.mono BW.out.size))
   clear ho5 hb5
   go_wp2_with fail
   go_ret
   exact ⟨_, rfl, O5.out, B5.out⟩
theorem needI_get (p : Nat) (L : List Int) (j : Nat) (hj : j < (needI p L).length) : ∃ i : Nat, (needI p L).getD j 0 = (i : Int) ∧ (needT p L).getD j 0 = i ∧ i < itn p ∧ isN p L i = true ∧ p ≤ i := by
 unfold needI at *
 rw [List.length_map] at hj
 refine ⟨(needT p L).getD j 0, ?_, rfl, ?_⟩
 ·rw [List.getD_eq_getElem?_getD, List.getElem?_map, List.getElem?_eq_getElem hj, List.getD_eq_getElem?_getD, List.getElem?_eq_getElem hj]; rfl
 ·have h := (mem_need p L ((needT p L).getD j 0)).1 (by rw [List.getD_eq_getElem?_getD, List.getElem?_eq_getElem hj]; exact List.getElem_mem hj)
  exact ⟨h.1, h.2, ((isN_iff p L _).1 h.2).1⟩
theorem may_all (p : Nat) (N : List NdV) (C : List ChV) (hr : decide (riseT p C) = true) (h : ∀ j, j < (needI p (pgsC C)).length → ∀ i : Nat, (needI p (pgsC C)).getD j 0 = (i : Int) → nodeOk p N i = true) : mayT p N C = true := by
 unfold mayT
 rw [hr, Bool.true_and, List.all_eq_true]
 intro i hi
 obtain ⟨j, hj, e⟩ := List.mem_iff_getElem.1 hi
 refine h j (by unfold needI; rw [List.length_map]; exact hj) i ?_
 unfold needI
 rw [List.getD_eq_getElem?_getD, List.getElem?_map, List.getElem?_eq_getElem hj, e]
 rfl
theorem may_no (p : Nat) (N : List NdV) (C : List ChV) (j i : Nat) (hj : j < (needI p (pgsC C)).length) (hi : (needI p (pgsC C)).getD j 0 = (i : Int)) (h : nodeOk p N i = false) : mayT p N C = false := by
 unfold mayT
 have : (needT p (pgsC C)).all (nodeOk p N) = false := by
  rw [List.all_eq_false]
  obtain ⟨i', h1, h2, h3, h4, _⟩ := needI_get p (pgsC C) j hj
  have e : i' = i := by omega
  subst e
  exact ⟨i', (mem_need p _ i').2 ⟨h3, h4⟩, by rw [h]; decide⟩
 rw [this, Bool.and_false]
set_option maxHeartbeats 2000000 in
theorem pmay_any (p : Nat) (N : List NdV) (C : List ChV) (vn vc : Value) (w : World) (hn : SlNd w vn N) (hc : SlCh w vc C) (hN : NdWf N) (h1 : p ≤ 216) (hl : C.length ≤ 1000) : Calls Tryz.prog 17 #[.agg (psC p), vn, vc] w (VEnd (.bool (mayT p N C)) w) := by
 have ar := fun wx h => pareCh_any p C vc wx h h1 hl
 have nd := fun wx h => pneedOf_any p C vc wx h h1 hl
 have fd := fun (z : Int) wx h => pfind_any N z vn wx h hN
 have kd := fun (z : Int) wx => pkids_any p z wx h1
 have hp := fun (z : Int) vx wx h => havePl_any (findD N z) vx wx h (findD_wf hN.w z) (findD_le hN z)
 have hfl := fun z => findD_le hN z
 have hfw := fun z => findD_wf hN.w z
 have hgt := fun j hj => needI_get p (pgsC C) j hj
 have hkz := fun i (a : p ≤ i) (b : i < itn p) => KZ_node p i a b
 have hok : ∀ i : Nat, nodeOk p N i = (decide ((findD N (i : Int)).length = many p i) && (findD N (i : Int)).all plOk) := fun _ => rfl
 have hno0 : decide (riseT p C) = false → mayT p N C = false := fun h => by unfold mayT; rw [h, Bool.false_and]
 have hno := fun j i hj hi h => may_no p N C j i hj hi h
 have hyes := fun hr h => may_all p N C hr h
 have hm6 := fun i => many_le p i
 obtain ⟨R, hR⟩ : ∃ R, R = decide (riseT p C) := ⟨_, rfl⟩
 rw [← hR] at ar hno0 hyes
 obtain ⟨Y, hY⟩ : ∃ Y, Y = mayT p N C := ⟨_, rfl⟩
 rw [← hY] at hno0 hno hyes ⊢
 obtain ⟨KS, hKS⟩ : ∃ K, K = needI p (pgsC C) := ⟨_, rfl⟩
 rw [← hKS] at nd hno hyes hgt
 obtain ⟨n, hnn⟩ : ∃ n, n = KS.length := ⟨_, rfl⟩
 have hn259 : n ≤ 259 := by rw [hnn, hKS]; exact needI_len p _ h1
 rw [← hnn] at hno hyes hgt
 have ha := at_new w (psC p) 25
 have hb : Below w.heap.size w (w.alloc (.cells (psC p) 25)) := (Below.refl _ _).alloc (Nat.le_refl _) _
 have ms : (psC p).size = 1 := rfl
 obtain ⟨M, hM⟩ : ∃ M, M = psC p := ⟨_, rfl⟩
 rw [← hM] at ar nd kd ha hb ms ⊢
 obtain ⟨an, cn, rfl⟩ := hn.hd
 obtain ⟨ac, cc, rfl⟩ := hc.hd
 obtain ⟨nN, hnN⟩ : ∃ n, n = N.length := ⟨_, rfl⟩
 obtain ⟨nC, hnC⟩ : ∃ n, n = C.length := ⟨_, rfl⟩
 rw [← hnN] at hn fd ⊢
 rw [← hnC] at hc ar nd ⊢
 have AR := zh ar; have NDD := zh nd; have FD := zh fd; have KD := zh kd; have HP := zh hp; have FL := zh hfl; have FW := zh hfw; have GT := zh hgt; have KZN := zh hkz; have OK := zh hok; have NO0 := zh hno0; have NO := zh hno; have YES := zh hyes; have M6 := zh hm6; have HNN := zh hnn; have HA := zh ha; have HB := zh hb; have MS := zh ms; have HVN := zh hn; have HVC := zh hc
 clear ar nd fd kd hp hfl hfw hgt hkz hok hno0 hno hyes hm6 hnn ha hb ms hn hc hR hY hKS hM hN hnN hnC hl
 go_enter Tryz.func17, Tryz.ntmps17
 go_upto_region 1 with fail
 generalize w.alloc (.cells M 25) = w1 at *
 go_wp2_with (refine wpList_load_all zr 25 _ zr w.heap.size zr _ Tryz.underlying25 zr M _ HA.out (by rw [MS.out]; exact infoPS) ?_)
 refine (AR.out _ (HVC.out.below HB.out)).mono ?_
 rintro e w2 ⟨rfl, hb2⟩
 have B2 := zh (HB.out.trans (hb2.mono HB.out.size)); have A2 := zh (HA.out.below hb2 HA.out.lt)
 clear hb2
 cases hR : R with
 | false =>
  have HY := zh (NO0.out hR)
  go_wp2_with fail
  go_ret
  exact ⟨by rw [HY.out]; rfl, B2.out⟩
 | true =>
  have HR := zh hR
  clear hR
  go_wp2_with (refine wpList_load_all zr 25 _ zr w.heap.size zr _ Tryz.underlying25 zr M _ A2.out (by rw [MS.out]; exact infoPS) ?_)
  refine (NDD.out _ (HVC.out.below B2.out)).mono ?_
  rintro e w3 ⟨v3, rfl, ho3, hb3⟩
  have S3 := zh (ownV_sli ho3); have B3 := zh (B2.out.trans (hb3.mono B2.out.size)); have A3 := zh (A2.out.below hb3 A2.out.lt)
  obtain ⟨a3, c3, e3⟩ := S3.out.hd
  subst e3
  rw [← HNN.out] at S3 ⊢
  clear ho3 hb3
  go_upto_region 4 with fail
  go_loopw [19] (fun vi wr => ∃ j : Nat, j ≤ n ∧ vi = .int .i64 (j : Int) ∧ (∀ j', j' < j → ∀ i : Nat, KS.getD j' 0 = (i : Int) → nodeOk p N i = true) ∧ Below w.heap.size w wr ∧ At wr w.heap.size M 25 ∧ SlI wr (.slice a3 n c3) KS) (fun vi _ => n - (intOf vi).toNat)
  case atStart => exact ⟨0, by omega, rfl, fun j' h => by omega, B3.out, A3.out, S3.out⟩
  case round =>
   obtain ⟨j, hj, rfl, hal, hbw, haw, hs⟩ := hrel
   have BW := zh hbw; have AW := zh haw; have AL := zh hal; have SW := zh hs
   clear hal hbw haw hs
   by_cases hlt : j < n
   ·have hlt' : (j : Int) < (n : Int) := by omega
    obtain ⟨i, hi, _, hit, _, hpi⟩ := GT.out j hlt
    obtain ⟨b1, o1, e1, hlb, cx0⟩ := sli_at (i := j) SW.out HNN.out hlt
    subst e1
    rw [hi] at cx0
    have fdi := fun wx h => FD.out (i : Int) wx h
    have kdi := fun wx => KD.out (i : Int) wx
    have hpi2 := fun vx wx h => HP.out (i : Int) vx wx h
    have hln := KZN.out i hpi hit
    have hoki := OK.out i
    have hnoi := fun h => NO.out j i hlt hi h
    have hali : nodeOk p N i = true → ∀ j', j' < j + 1 → ∀ i : Nat, KS.getD j' 0 = (i : Int) → nodeOk p N i = true := fun h j' hj' i' hi' => by
     rcases Nat.lt_or_ge j' j with g | g
     ·exact AL.out j' g i' hi'
     ·have : j' = j := by omega
      subst this
      have : i' = i := by omega
      rw [this]; exact h
    have hwl := FW.out (i : Int)
    have h6 := M6.out i
    obtain ⟨RL, hRL⟩ : ∃ R, R = findD N (i : Int) := ⟨_, rfl⟩
    obtain ⟨q0, hq0⟩ : ∃ q, q = (findT N (i : Int)).isSome := ⟨_, rfl⟩
    rw [← hRL, ← hq0] at fdi
    rw [← hRL] at hpi2 hoki hwl
    obtain ⟨KK, hKK⟩ : ∃ K, K = KZ p (i : Int) := ⟨_, rfl⟩
    rw [← hKK] at kdi hln
    obtain ⟨m, hm⟩ : ∃ m, m = many p i := ⟨_, rfl⟩
    rw [← hm] at hln hoki h6
    obtain ⟨l, hl⟩ : ∃ l, l = RL.length := ⟨_, rfl⟩
    rw [← hl] at hoki
    obtain ⟨q, hq⟩ : ∃ q, q = RL.all plOk := ⟨_, rfl⟩
    rw [← hq] at hoki hpi2
    obtain ⟨NK, hNK⟩ : ∃ K, K = nodeOk p N i := ⟨_, rfl⟩
    rw [← hNK] at hoki hnoi hali
    have FDI := zh fdi; have KDI := zh kdi; have HPI := zh hpi2; have HLN := zh hln; have OKI := zh hoki; have NOI := zh hnoi; have ALI := zh hali; have HL := zh hl; have WLL := zh hwl
    clear fdi kdi hpi2 hln hoki hnoi hali hRL hq0 hKK hm hl hq hNK hlb hwl hpi hit
    obtain ⟨z, hz⟩ : ∃ z : Int, z = (i : Int) := ⟨_, rfl⟩
    rw [← hz] at cx0 FDI KDI
    clear hz hi
    go_wp2_with fail
    refine (FDI.out _ (HVN.out.below BW.out)).mono ?_
    rintro e w4 ⟨v4, rfl, ho4, hb4⟩
    have R4 := zh (own_slrf ho4 WLL.out); have B4 := zh (BW.out.trans (hb4.mono BW.out.size)); have A4 := zh (AW.out.below hb4 AW.out.lt); have S4 := zh (SW.out.below hb4)
    clear ho4 hb4 cx0
    obtain ⟨a4, c4, e4⟩ := R4.out.hdn HL.out.symm
    subst e4
    go_wp2_with (refine wpList_load_all zr 25 _ zr w.heap.size zr _ Tryz.underlying25 zr M _ A4.out (by rw [MS.out]; exact infoPS) ?_)
    refine (KDI.out _).mono ?_
    rintro e w5 ⟨v5, rfl, hs5, hb5⟩
    obtain ⟨a5, c5, e5⟩ := hs5.hd
    subst e5
    rw [HLN.out]
    have R5 := zh (R4.out.below hb5); have B5 := zh (B4.out.trans (hb5.mono B4.out.size)); have A5 := zh (A4.out.below hb5 A4.out.lt); have S5 := zh (S4.out.below hb5)
    clear hs5 hb5
    by_cases hlm : l = m
    ·subst hlm
     go_wp2_with fail
     refine (HPI.out _ _ R5.out).mono ?_
     rintro e w6 ⟨rfl, hb6⟩
     have B6 := zh (B5.out.trans (hb6.mono B5.out.size)); have A6 := zh (A5.out.below hb6 A5.out.lt); have S6 := zh (S5.out.below hb6)
     clear hb6
     cases hqv : q with
     | true =>
      have AL6 := zh (ALI.out (by rw [OKI.out, hqv]; simp))
      go_wp2_with fail
      go_roundw
      case rel => exact ⟨j + 1, by omega, by go_num, AL6.out, B6.out, A6.out, S6.out⟩
      case measure => simp [intOf]; omega
     | false =>
      have HY := zh (NOI.out (by rw [OKI.out, hqv]; simp))
      go_wp2_with fail
      go_ret
      exact ⟨by rw [HY.out]; rfl, B6.out⟩
    ·have hlm2 : ¬ (l : Int) = (m : Int) := by omega
     have HY := zh (NOI.out (by rw [OKI.out, decide_eq_false hlm]; simp))
     go_wp2_with fail
     go_ret
     exact ⟨by rw [HY.out]; rfl, B5.out⟩
   ·have hjn : j = n := by omega
    subst hjn
    have HY := zh (YES.out HR.out AL.out)
    have hge : ¬ (j : Int) < (j : Int) := by omega
    go_wp2_with fail
    go_ret
    exact ⟨by rw [HY.out]; rfl, BW.out⟩
end Sha
end Go.Proofs.YtahcjnganedbiaaGreatDoor
namespace Go.Proofs.YtahcjnganedbiaaGreatDoor
namespace Sha
open Go.RowKit Mem
set_option maxRecDepth 100000
structure RMap (w : World) (B bm : Nat) (f : Int → Option Value) (Q : Nat → Prop) (M : Nat → List RefV) (c : Nat) : Prop where
 m : ∃ n, MapV w Tryz.prog 3 bm n f ∧ n ≤ c
 g : B ≤ bm
 own : ∀ q, Q q → ∃ v, f (q : Int) = some v ∧ OwnRf w B 69 v (M q)
 dis : ∀ q q', Q q → Q q' → q ≠ q' → ∀ v v' k, f (q : Int) = some v → f (q' : Int) = some v' → v.ownBlock = some k → v'.ownBlock ≠ some k
section
variable {w w' : World} {B bm c : Nat} {f : Int → Option Value} {Q : Nat → Prop} {M : Nat → List RefV}
theorem RMap.lt (h : RMap w B bm f Q M c) : bm < w.heap.size := let ⟨_, hm, _⟩ := h.m; hm.lt
theorem RMap.ltq (h : RMap w B bm f Q M c) {q : Nat} {v : Value} (hq : Q q) (hv : f (q : Int) = some v) {k : Nat} (hk : v.ownBlock = some k) : B ≤ k ∧ k < w.heap.size := by
 obtain ⟨v', e, ho⟩ := h.own q hq
 rw [hv] at e
 injection e with e
 subst e
 exact World.ownsRow.lt ho k hk
theorem RMap.keep (h : RMap w B bm f Q M c) (hm : w'.heap[bm]? = w.heap[bm]?) (hk : ∀ q v k, Q q → f (q : Int) = some v → v.ownBlock = some k → w'.heap[k]? = w.heap[k]?) : RMap w' B bm f Q M c := by
 obtain ⟨⟨n, hmm, hn⟩, g, own, dis⟩ := h
 refine ⟨⟨n, hmm.same hm, hn⟩, g, fun q hq => ?_, dis⟩
 obtain ⟨v, e, ho⟩ := own q hq
 exact ⟨v, e, ownsRow_keep ho fun k hkk => hk q v k hq e hkk⟩
theorem RMap.below (h : RMap w B bm f Q M c) (hb : Below w.heap.size w w') : RMap w' B bm f Q M c :=
 h.keep (hb.block bm h.lt) fun _ _ k hq hv hk => hb.block k (h.ltq hq hv hk).2
theorem RMap.alike {Q' : Nat → Prop} {c' : Nat} (h : RMap w B bm f Q M c) (hs : ∀ q, Q' q → Q q) (hc : c ≤ c') : RMap w B bm f Q' M c' :=
 let ⟨⟨n, hm, hn⟩, g, own, dis⟩ := h
 ⟨⟨n, hm, Nat.le_trans hn hc⟩, g, fun q hq => own q (hs q hq), fun q q' a b => dis q q' (hs q a) (hs q' b)⟩
theorem RMap.put {w1 : World} {n i : Nat} {v : Value} (h : RMap w B bm f Q M c) (hb : Below w.heap.size w w1) (ho : OwnRf w1 w.heap.size 69 v (M i)) (hB : B ≤ w.heap.size)
 (hm : MapV w' Tryz.prog 3 bm (n + 1) (upd f (i : Int) (some v))) (hn : n ≤ c) (hc : Chg (fun k => k = bm) w1 w') : RMap w' B bm (upd f (i : Int) (some v)) (fun q => q = i ∨ Q q) M (c + 1) := by
 have h1 := h.below hb
 have hlt := h.lt
 have hv := fun k hk => World.ownsRow.lt ho k hk
 have kp : ∀ k, k < w1.heap.size → k ≠ bm → w'.heap[k]? = w1.heap[k]? := fun k hk hne => hc.block k hk hne
 refine ⟨⟨n + 1, hm, by omega⟩, h.g, fun q hq => ?_, fun q q' hq hq' hne u u' k hu hu' hk => ?_⟩
 ·by_cases e : q = i
  ·subst e
   rw [upd_same]
   exact ⟨v, rfl, ownsRow_base (ownsRow_keep ho fun k hk => kp k (hv k hk).2 (by have := (hv k hk).1; omega)) hB⟩
  ·rw [upd_other _ _ (by omega)]
   obtain ⟨u, eu, hu⟩ := h1.own q (hq.elim (fun a => absurd a e) id)
   obtain ⟨n1, hm1, _⟩ := h1.m
   refine ⟨u, eu, ownsRow_keep hu fun k hk => kp k (World.ownsRow.lt hu k hk).2 fun ek => ?_⟩
   subst ek
   exact hm1.ne_own hu hk
 ·by_cases e : q = i
  ·subst e
   rw [upd_same] at hu
   injection hu with hu
   subst hu
   rw [upd_other _ _ (by omega)] at hu'
   intro hk'
   have := (h.ltq (hq'.elim (fun a => absurd a (fun x => hne x.symm)) id) hu' hk').2
   have := (hv k hk).1
   omega
  ·rw [upd_other _ _ (by omega)] at hu
   by_cases e' : q' = i
   ·subst e'
    rw [upd_same] at hu'
    injection hu' with hu'
    subst hu'
    intro hk'
    have := (h.ltq (hq.elim (fun a => absurd a e) id) hu hk).2
    have := (hv k hk').1
    omega
   ·rw [upd_other _ _ (by omega)] at hu'
    exact h.dis q q' (hq.elim (fun a => absurd a e) id) (hq'.elim (fun a => absurd a e') id) hne u u' k hu hu' hk
end
theorem uRf16 : Tryz.prog.underlying 115 = some (.map 3 42) := Tryz.underlying115
theorem rmap_made (w : World) {B : Nat} (hB : B ≤ w.heap.size) (M : Nat → List RefV) : RMap (w.alloc (.map #[] 0)) B w.heap.size (fun _ => none) (fun _ => False) M 0 :=
 ⟨⟨0, mapV_made w Tryz.prog 3, Nat.le_refl _⟩, hB, fun _ h => h.elim, fun _ _ h => h.elim⟩
def RoEnd (w : World) (Q : Nat → Prop) (M : Nat → List RefV) (e : Ending) (w' : World) : Prop := ∃ bm f, e = .returned (.map (some bm)) ∧ RMap w' w.heap.size bm f Q M 1000 ∧ Below w.heap.size w w'
set_option maxHeartbeats 2000000 in
theorem prefsOf_any (N : List NdV) (KS : List Nat) (vn vk : Value) (w : World) (hn : SlNd w vn N) (hN : NdWf N) (hk : SlI w vk (KS.map fun (i : Nat) => (i : Int))) (hl : KS.length ≤ 1000) (hb : ∀ i ∈ KS, i ≤ 1000) :
 Calls Tryz.prog 46 #[vn, vk] w (RoEnd w (fun q => q ∈ KS) (fun q => findD N (q : Int))) := by
 have fd := fun (z : Int) wx h => pfind_any N z vn wx h hN
 obtain ⟨an, cn, rfl⟩ := hn.hd
 obtain ⟨ak, ck, rfl⟩ := hk.hd
 have hkl : (KS.map fun (i : Nat) => (i : Int)).length = KS.length := List.length_map ..
 have hkg : ∀ j, j < KS.length → (KS.map fun (i : Nat) => (i : Int)).getD j 0 = ((KS.getD j 0 : Nat) : Int) := fun j hj => by
  rw [List.getD_eq_getElem?_getD, List.getElem?_map, List.getElem?_eq_getElem hj, List.getD_eq_getElem?_getD, List.getElem?_eq_getElem hj]; rfl
 have hkw : ∀ j, j < KS.length → wfI ((KS.getD j 0 : Nat) : Int) := fun j hj => wfI_nat _ (by
  have := hb (KS.getD j 0) (by rw [List.getD_eq_getElem?_getD, List.getElem?_eq_getElem hj]; exact List.getElem_mem hj)
  omega)
 have htk : ∀ j, j < KS.length → ∀ q, q ∈ KS.take (j + 1) → q = KS.getD j 0 ∨ q ∈ KS.take j := fun j hj q hq => by
  rw [List.take_add_one, List.getElem?_eq_getElem hj] at hq
  rcases List.mem_append.1 hq with h | h
  ·exact .inr h
  ·left
   rw [List.getD_eq_getElem?_getD, List.getElem?_eq_getElem hj]
   simpa using h
 have hall : KS.take KS.length = KS := List.take_length
 rw [hkl] at hk ⊢
 obtain ⟨KI, hKI⟩ : ∃ K, K = KS.map fun (i : Nat) => (i : Int) := ⟨_, rfl⟩
 rw [← hKI] at hk hkg hkl
 obtain ⟨n, hnn⟩ : ∃ n, n = KS.length := ⟨_, rfl⟩
 rw [← hnn] at hk hl hkg hkw htk hall hkl ⊢
 obtain ⟨nN, hnN⟩ : ∃ n, n = N.length := ⟨_, rfl⟩
 rw [← hnN] at hn fd ⊢
 have FD := zh fd; have HVN := zh hn; have HK := zh hk; have KG := zh hkg; have KW := zh hkw; have TK := zh htk; have ALL := zh hall; have KL := zh hkl.symm
 clear fd hn hk hkg hkw htk hall hkl hKI hnn hnN hb
 go_enter Tryz.func46, Tryz.ntmps46
 have R1 : Hid (RMap (w.alloc (.map #[] 0)) w.heap.size w.heap.size (fun _ => none) (fun _ => False) (fun q => findD N (q : Int)) 0) := zh (rmap_made w (Nat.le_refl _) _)
 have B1 : Hid (Below w.heap.size w (w.alloc (.map #[] 0))) := zh ((Below.refl _ _).alloc (Nat.le_refl _) _)
 go_upto_region 3 with (refine wpList_mapV_made zr 115 zr ?_)
 obtain ⟨bm, hbm⟩ : ∃ bm, bm = w.heap.size := ⟨_, rfl⟩
 rw [← hbm]
 have R1 : Hid (RMap (w.alloc (.map #[] 0)) w.heap.size bm (fun _ => none) (fun _ => False) (fun q => findD N (q : Int)) 0) := zh (by rw [hbm]; exact R1.out)
 clear hbm
 generalize w.alloc (.map #[] 0) = w1 at *
 go_loopw [11] (fun vi wr => ∃ j : Nat, j ≤ n ∧ vi = .int .i64 (j : Int) ∧ (∃ f, RMap wr w.heap.size bm f (fun q => q ∈ KS.take j) (fun q => findD N (q : Int)) j) ∧ Below w.heap.size w wr ∧ SlI wr (.slice ak n ck) KI) (fun vi _ => n - (intOf vi).toNat)
 case atStart => exact ⟨0, by omega, rfl, ⟨_, R1.out.alike (fun q hq => by simp at hq) (Nat.le_refl _)⟩, B1.out, HK.out.below B1.out⟩
 case round =>
  obtain ⟨j, hj, rfl, ⟨f, hr⟩, hbw, hs⟩ := hrel
  have RW := zh hr; have BW := zh hbw; have SW := zh hs
  clear hr hbw hs
  by_cases hlt : j < n
  ·have hlt' : (j : Int) < (n : Int) := by omega
   obtain ⟨b1, o1, e1, hlb, cx0⟩ := sli_at (i := j) SW.out KL.out hlt
   subst e1
   rw [KG.out j hlt] at cx0
   have kwj := KW.out j hlt
   have tkj := TK.out j hlt
   obtain ⟨i, hi⟩ : ∃ i, i = KS.getD j 0 := ⟨_, rfl⟩
   rw [← hi] at cx0 kwj tkj
   have KWJ := zh kwj; have TKJ := zh tkj
   clear kwj tkj hi hlb
   go_upto_region 5 with fail
   have W0 := BW.out.size
   have SZ := zh W0
   clear W0 cx0
   go_wp2_with fail
   refine (FD.out _ _ (HVN.out.below BW.out)).mono ?_
   rintro e w4 ⟨v4, rfl, ho4, hb4⟩
   have B4 := zh (BW.out.trans (hb4.mono BW.out.size)); have S4 := zh (SW.out.below hb4); have O4 := zh ho4; have Q4 := zh hb4
   obtain ⟨n4, hm4, hn4⟩ := (RW.out.below hb4).m
   have M4 := zh hm4; have N4 := zh hn4
   clear ho4 hb4 hm4 hn4
   go_wp2_with (at_mapUpdate; refine wpList_mapV_put zr 115 _ _ _ zr 42 M4.out (i : Int) v4 zr zr zr uInt16 uRf16 (by have := N4.out; unfold maxLen; omega) KWJ.out ?_; intro w8 hm8 hc8 hz8; have S8 := zh (sli_map S4.out M4.out hc8); have R8 := zh (RW.out.put Q4.out O4.out SZ.out hm8 N4.out hc8); have B8 : Hid (Below w.heap.size w w8) := zh (hc8.below B4.out (fun k e => by have := RW.out.g; omega) B4.out.size); clear hm8 hc8 hz8)
   go_roundw
   case rel => exact ⟨j + 1, by omega, by go_num, ⟨_, R8.out.alike (fun q hq => TKJ.out q hq) (Nat.le_refl _)⟩, B8.out, S8.out⟩
   case measure => simp [intOf]; omega
  ·have hjn : j = n := by omega
   subst hjn
   have hge : ¬ (j : Int) < (j : Int) := by omega
   go_wp2_with fail
   go_ret
   exact ⟨bm, f, rfl, by have h := RW.out; rw [ALL.out] at h; exact h.alike (fun _ h => h) hl, BW.out⟩
end Sha
end Go.Proofs.YtahcjnganedbiaaGreatDoor
namespace Go.Proofs.YtahcjnganedbiaaGreatDoor
namespace Sha
open Go.RowKit Mem
set_option maxRecDepth 100000
set_option maxHeartbeats 1000000 in
theorem rhas16_any (L : List Int) (z : Int) (v : Value) (w : World) (hv : SlI w v L) (hl : L.length ≤ 1000) : Calls Tryz.prog 34 #[v, .int .i64 z] w (VEnd (.bool (L.contains z)) w) := by
 obtain ⟨av, cv, rfl⟩ := hv.hd
 have hyes : ∀ j, j < L.length → L.getD j 0 = z → L.contains z = true := fun j hj h => by
  rw [List.contains_iff_mem, ← h, List.getD_eq_getElem?_getD, List.getElem?_eq_getElem hj]; exact List.getElem_mem hj
 have hno : (∀ j, j < L.length → L.getD j 0 ≠ z) → L.contains z = false := fun h => by
  rw [← Bool.not_eq_true, List.contains_iff_mem]
  intro hm
  obtain ⟨j, hj, e⟩ := List.mem_iff_getElem.1 hm
  exact h j hj (by rw [List.getD_eq_getElem?_getD, List.getElem?_eq_getElem hj]; exact e)
 obtain ⟨Y, hY⟩ : ∃ Y, Y = L.contains z := ⟨_, rfl⟩
 rw [← hY] at hyes hno ⊢
 obtain ⟨n, hn⟩ : ∃ n, n = L.length := ⟨_, rfl⟩
 rw [← hn] at hv hl hyes hno ⊢
 have HV := zh hv; have YES := zh hyes; have NO := zh hno; have HN := zh hn
 clear hv hyes hno hn hY
 go_enter Tryz.func34, Tryz.ntmps34
 go_wp2_with fail
 go_loopw [5] (fun vi wr => ∃ j : Nat, j ≤ n ∧ vi = .int .i64 (j : Int) ∧ (∀ i, i < j → L.getD i 0 ≠ z) ∧ Below w.heap.size w wr) (fun vi _ => n - (intOf vi).toNat)
 case atStart => exact ⟨0, by omega, rfl, fun i hi => by omega, Below.refl _ _⟩
 case round =>
  obtain ⟨j, hj, rfl, hal, hbw⟩ := hrel
  have BW := zh hbw; have AL := zh hal; have VW := zh (HV.out.below hbw)
  clear hal hbw
  by_cases hlt : j < n
  ·have hlt' : (j : Int) < (n : Int) := by omega
   obtain ⟨b1, o1, e1, hlb, c0⟩ := sli_at (i := j) VW.out HN.out hlt
   subst e1
   have hyj := fun he => YES.out j hlt he
   have hne1 : L.getD j 0 ≠ z → ∀ i, i < j + 1 → L.getD i 0 ≠ z := fun h i hi => (Nat.lt_or_ge i j).elim (AL.out i) (fun g => by rw [show i = j by omega]; exact h)
   obtain ⟨y, hy⟩ : ∃ y, y = L.getD j 0 := ⟨_, rfl⟩
   rw [← hy] at c0 hyj hne1
   have HYJ := zh hyj; have HNE := zh hne1
   clear hyj hne1 hlb hy
   by_cases hz : y = z
   ·have HQ := zh (HYJ.out hz)
    have hyz2 : (y == z) = true := by simpa using hz
    go_wp2_with fail
    go_ret
    exact ⟨by rw [HQ.out]; rfl, BW.out⟩
   ·have hyz2 : (y == z) = false := by simpa using hz
    have HN1 := zh (HNE.out hz)
    go_wp2_with fail
    go_roundw
    case rel => exact ⟨j + 1, by omega, by go_num, HN1.out, BW.out⟩
    case measure => simp [intOf]; omega
  ·have hjn : j = n := by omega
   subst hjn
   have hge : ¬ (j : Int) < (j : Int) := by omega
   have HQ := zh (NO.out AL.out)
   go_wp2_with fail
   go_ret
   exact ⟨by rw [HQ.out]; rfl, BW.out⟩
theorem infoChR : (Tryz.prog.info? 38).map (·.size) = some 2 := by kernel_rfl
set_option maxHeartbeats 1000000 in
theorem rpages16_any (C : List ChV) (v : Value) (w : World) (hv : SlCh w v C) (hl : C.length ≤ 1000) : Calls Tryz.prog 42 #[v] w (OIEnd w (pgsC C)) := by
 obtain ⟨av, cv, rfl⟩ := hv.hd
 have htk := fun j hj => pgsC_take C j hj
 have hall : (pgsC C).take C.length = pgsC C := by rw [← pgsC_length C]; exact List.take_length
 have htl : ∀ j, j ≤ C.length → ((pgsC C).take j).length = j := fun j hj => by rw [List.length_take, pgsC_length]; omega
 obtain ⟨PG, hPG⟩ : ∃ P, P = pgsC C := ⟨_, rfl⟩
 rw [← hPG] at htk hall htl ⊢
 obtain ⟨n, hn⟩ : ∃ n, n = C.length := ⟨_, rfl⟩
 rw [← hn] at hv hl htk hall htl ⊢
 have TK := zh htk; have ALL := zh hall; have TL := zh htl; have HV := zh hv; have HN := zh hn
 clear htk hall htl hv hn hPG
 go_enter Tryz.func42, Tryz.ntmps42
 go_wp2_with fail
 go_loopw [3, 4] (fun vo vi wr => ∃ j : Nat, j ≤ n ∧ vi = .int .i64 (j : Int) ∧ OwnV wr w.heap.size 3 vo (iz (PG.take j)) ∧ Below w.heap.size w wr) (fun _ vi _ => n - (intOf vi).toNat)
 case atStart => exact ⟨0, by omega, rfl, by rw [List.take_zero]; exact World.ownsRow_nil _ _ _ _, Below.refl _ _⟩
 case round =>
  obtain ⟨j, hj, rfl, ho, hbw⟩ := hrel
  have OW := zh ho; have BW := zh hbw; have VW := zh (HV.out.below hbw)
  have hl5 : (iz (PG.take j)).length = j := by rw [iz_length, TL.out j hj]
  have L5 := zh hl5
  clear ho hbw hl5
  by_cases hlt : j < n
  ·have hlt' : (j : Int) < (n : Int) := by omega
   obtain ⟨b1, o1, u, e1, hlb, cz0, _, _⟩ := slch_at (i := j) VW.out HN.out hlt
   subst e1
   have htk := TK.out j hlt
   obtain ⟨z, hz⟩ : ∃ z, z = (C.getD j zch).1 := ⟨_, rfl⟩
   rw [← hz] at htk cz0
   have HTK := zh htk
   obtain ⟨a5, c5, rfl, _⟩ := OwnV.open OW.out
   rw [L5.out] at OW ⊢
   clear htk hlb hz
   go_wp2_with (at_builtin; refine wpList_append_lit zr _ _ 29 zr (.int .i64 z) (.int .i64 0) 8 elemInt zr zr OW.out zr zr (by rw [L5.out]; omega) (by rw [L5.out]; omega) (BW.out.size) ?_; intro v6 w6 ho6 hk6 hb6 _; have O6 : Hid (OwnV w6 w.heap.size 3 v6 (iz (PG.take (j + 1)))) := zh (by rw [HTK.out, iz_snoc]; exact ho6); have B6 : Hid (Below w.heap.size w w6) := zh (BW.out.trans hb6); clear ho6 hb6 hk6 cz0)
   go_roundw
   case rel => exact ⟨j + 1, by omega, by go_num, O6.out, B6.out⟩
   case measure => simp [intOf]; omega
  ·have hjn : j = n := by omega
   subst hjn
   have hge : ¬ (j : Int) < (j : Int) := by omega
   rw [ALL.out] at OW
   go_wp2_with fail
   go_ret
   exact ⟨_, rfl, OW.out, BW.out⟩
theorem rright_any (r : RefV) (w : World) (_hr : r.Wf) : Calls Tryz.prog 44 #[.agg (refC r)] w (VEnd (.bool (plOk r)) w) := by
 have hA := at_new w (refC r) 64
 have hb : Below w.heap.size w (w.alloc (.cells (refC r) 64)) := (Below.refl _ _).alloc (Nat.le_refl _) _
 have c0 : (w.alloc (.cells (refC r) 64)).cell? ⟨w.heap.size, 0, none⟩ = some (.int .i64 r.pl) := (hA.cell 0).trans (ref0 r)
 have hpd : plOk r = decide (0 ≤ r.pl ∧ r.pl ≤ 1) := rfl
 obtain ⟨M, hM⟩ : ∃ M, M = refC r := ⟨_, rfl⟩
 obtain ⟨z, hz⟩ : ∃ z, z = r.pl := ⟨_, rfl⟩
 obtain ⟨Q, hQ⟩ : ∃ Q, Q = plOk r := ⟨_, rfl⟩
 obtain ⟨w1, hw1⟩ : ∃ w1, w1 = w.alloc (.cells M 64) := ⟨_, rfl⟩
 rw [← hM] at c0 hb ⊢
 rw [← hw1, ← hz] at c0
 rw [← hw1] at hb
 rw [← hQ, ← hz] at hpd
 rw [← hQ]
 have HB := zh hb
 clear hA hb hM hz hQ _hr
 by_cases h0 : z = 0
 ·have hq : Q = true := by rw [hpd]; exact decide_eq_true (by omega)
  have HQ := zh hq
  subst h0
  clear hpd hq
  go_enter Tryz.func44, Tryz.ntmps44
  go_upto_region 1 with fail
  rw [← hw1]
  clear hw1
  go_wp2_with fail
  go_ret
  exact ⟨by rw [HQ.out]; rfl, HB.out⟩
 ·by_cases h1 : z = 1
  ·have hq : Q = true := by rw [hpd]; exact decide_eq_true (by omega)
   have HQ := zh hq
   subst h1
   clear hpd h0 hq
   go_enter Tryz.func44, Tryz.ntmps44
   go_upto_region 1 with fail
   rw [← hw1]
   clear hw1
   go_wp2_with fail
   go_ret
   exact ⟨by rw [HQ.out]; rfl, HB.out⟩
  ·have hq : Q = false := by rw [hpd]; exact decide_eq_false (by omega)
   have HQ := zh hq
   have e0 : (z == 0) = false := by simpa using h0
   have e1 : (z == 1) = false := by simpa using h1
   clear hpd hq
   go_enter Tryz.func44, Tryz.ntmps44
   go_upto_region 1 with fail
   rw [← hw1]
   clear hw1
   go_wp2_with fail
   go_ret
   exact ⟨by rw [HQ.out]; rfl, HB.out⟩
def RFd (w : World) (L : List RefV) (q : Bool) (e : Ending) (w' : World) : Prop := ∃ v, e = .returned (.tuple #[v, .bool q]) ∧ SlRf w' v L ∧ Below w.heap.size w w'
set_option maxHeartbeats 1000000 in
theorem rfind16_any (N : List NdV) (z : Int) (v : Value) (w : World) (hv : SlNd w v N) (hl : N.length ≤ 1000) : Calls Tryz.prog 15 #[v, .int .i64 z] w (RFd w (findD N z) (findT N z).isSome) := by
 obtain ⟨av, cv, rfl⟩ := hv.hd
 have hno : (∀ i, i < N.length → (N.getD i znd).1 ≠ z) → findT N z = none := find_end N z
 have hyes := fun j hj h he => find_step N z j hj h he
 have hfd : findD N z = (findT N z).getD [] := rfl
 obtain ⟨Y, hY⟩ : ∃ Y, Y = findT N z := ⟨_, rfl⟩
 rw [← hY] at hno hyes hfd ⊢
 obtain ⟨X, hX⟩ : ∃ X, X = findD N z := ⟨_, rfl⟩
 rw [← hX] at hfd ⊢
 obtain ⟨n, hn⟩ : ∃ n, n = N.length := ⟨_, rfl⟩
 rw [← hn] at hv hl hno hyes ⊢
 have HV := zh hv; have NO := zh hno; have YES := zh hyes; have FD := zh hfd; have HN := zh hn
 clear hv hno hyes hfd hn hX hY
 go_enter Tryz.func15, Tryz.ntmps15
 go_wp2_with fail
 go_loopw [6] (fun vi wr => ∃ j : Nat, j ≤ n ∧ vi = .int .i64 (j : Int) ∧ (∀ i, i < j → (N.getD i znd).1 ≠ z) ∧ Below w.heap.size w wr) (fun vi _ => n - (intOf vi).toNat)
 case atStart => exact ⟨0, by omega, rfl, fun i hi => by omega, Below.refl _ _⟩
 case round =>
  obtain ⟨j, hj, rfl, hal, hbw⟩ := hrel
  have BW := zh hbw; have AL := zh hal; have VW := zh (HV.out.below hbw)
  clear hal hbw
  by_cases hlt : j < n
  ·have hlt' : (j : Int) < (n : Int) := by omega
   obtain ⟨b1, o1, u, e1, hlb, cz, cu, hsu⟩ := slnd_at (i := j) VW.out HN.out hlt
   subst e1
   have hyj := fun he => YES.out j hlt AL.out he
   have hne1 : (N.getD j znd).1 ≠ z → ∀ i, i < j + 1 → (N.getD i znd).1 ≠ z := fun h i hi => (Nat.lt_or_ge i j).elim (AL.out i) (fun g => by rw [show i = j by omega]; exact h)
   obtain ⟨x, hx⟩ : ∃ x, x = (N.getD j znd).2 := ⟨_, rfl⟩
   obtain ⟨y, hy⟩ : ∃ y, y = (N.getD j znd).1 := ⟨_, rfl⟩
   rw [← hx] at hsu
   rw [← hy, ← hx] at hyj
   rw [← hy] at hne1 cz
   obtain ⟨a3, cap3, e3⟩ := hsu.hd
   subst e3
   have HNE := zh hne1; have HYJ := zh hyj
   obtain ⟨m, hm⟩ : ∃ m, m = x.length := ⟨_, rfl⟩
   rw [← hm] at cu hsu
   have SX := zh hsu
   clear hne1 hyj hsu hx hy hlb hm
   by_cases hz : y = z
   ·have HQ := zh (HYJ.out hz)
    have HF : Hid (X = x) := zh (by rw [FD.out, HQ.out]; rfl)
    have hyz2 : (y == z) = true := by simpa using hz
    go_wp2_with fail
    go_ret2
    exact ⟨_, by rw [HQ.out]; rfl, by rw [HF.out]; exact SX.out, BW.out⟩
   ·have hyz2 : (y == z) = false := by simpa using hz
    have HN1 := zh (HNE.out hz)
    go_wp2_with fail
    go_roundw
    case rel => exact ⟨j + 1, by omega, by go_num, HN1.out, BW.out⟩
    case measure => simp [intOf]; omega
  ·have hjn : j = n := by omega
   subst hjn
   have hge : ¬ (j : Int) < (j : Int) := by omega
   have HQ := zh (NO.out AL.out)
   have HF : Hid (X = []) := zh (by rw [FD.out, HQ.out]; rfl)
   go_wp2_with fail
   go_ret2
   exact ⟨_, by rw [HQ.out]; rfl, by rw [HF.out]; exact SlRf.nil _, BW.out⟩
end Sha
end Go.Proofs.YtahcjnganedbiaaGreatDoor
namespace Go.Proofs.YtahcjnganedbiaaGreatDoor
namespace Sha
def needN (p : Nat) (L : List Int) (i : Nat) : List Int := ((List.range i).filter (isN p L)).map fun (k : Nat) => (k : Int)
theorem needN_end (p : Nat) (L : List Int) : needN p L (itn p) = needI p L := rfl
theorem needN_zero (p : Nat) (L : List Int) : needN p L p = [] := by
 unfold needN
 have h : (List.range p).filter (isN p L) = [] := by
  rw [List.filter_eq_nil_iff]
  intro i hi
  unfold isN
  rw [decide_eq_false (by have := List.mem_range.1 hi; omega), Bool.false_and]
  decide
 rw [h]; rfl
theorem needN_yes (p : Nat) (L : List Int) (i k : Nat) (hp : p ≤ i) (hk : k < L.length) (h : onW p (L.getD k 0) i = true) : needN p L (i + 1) = needN p L i ++ [(i : Int)] := by
 have hn : isN p L i = true := (isN_iff p L i).2 ⟨hp, L.getD k 0, by rw [List.getD_eq_getElem?_getD, List.getElem?_eq_getElem hk]; exact List.getElem_mem hk, h⟩
 unfold needN
 rw [List.range_succ, List.filter_append, List.map_append]
 simp [hn]
theorem needN_no (p : Nat) (L : List Int) (i : Nat) (h : ∀ k, k < L.length → onW p (L.getD k 0) i = false) : needN p L (i + 1) = needN p L i := by
 have hn : isN p L i = false := by
  rw [← Bool.not_eq_true]
  intro hn
  obtain ⟨_, x, hx, ho⟩ := (isN_iff p L i).1 hn
  obtain ⟨k, hk, e⟩ := List.mem_iff_getElem.1 hx
  have := h k hk
  rw [List.getD_eq_getElem?_getD, List.getElem?_eq_getElem hk, Option.getD_some, e, ho] at this
  exact Bool.noConfusion this
 unfold needN
 rw [List.range_succ, List.filter_append, List.map_append]
 simp [hn]
theorem needN_len (p : Nat) (L : List Int) (i : Nat) : (needN p L i).length ≤ i := by
 unfold needN
 rw [List.length_map]
 exact Nat.le_trans (List.length_filter_le _ _) (by rw [List.length_range]; exact Nat.le_refl _)
end Sha
end Go.Proofs.YtahcjnganedbiaaGreatDoor
namespace Go.Proofs.YtahcjnganedbiaaGreatDoor
namespace Sha
open Go.RowKit Mem
set_option maxRecDepth 100000
set_option maxHeartbeats 2000000 in
theorem rneed16_any (p : Nat) (vL vF : Value) (L : List Int) (v : Value) (w : World) (hR : RS w p vL vF) (h0 : 1 ≤ p) (h1 : p ≤ 216) (hv : SlI w v L) (hl : L.length ≤ 1000) : Calls Tryz.prog 11 #[.agg (rsC p vL vF), v] w (OIEnd w (needI p L)) := by
 have pt := fun z wx h => rpath_any p vL vF z wx h h0 h1
 have hs := fun z (i : Nat) vx wx (h : SlI wx vx (WZ p z)) => rhas16_any (WZ p z) (i : Int) vx wx h (by have := wz_len p z; omega)
 have hof : ∀ z (i : Nat), (WZ p z).contains (i : Int) = onW p z i := fun _ _ => rfl
 have hnd := needN_end p L
 have hz := needN_zero p L
 have hyes := fun i k hp hk h => needN_yes p L i k hp hk h
 have hno := fun i h => needN_no p L i h
 have hnl := needN_len p L
 have hpi := (itn_big p h0 h1).1
 have hi9 := (itn_big p h0 h1).2
 obtain ⟨aL, cL, eL⟩ := hR.l.hd
 rw [zL_length] at eL
 subst eL
 obtain ⟨q, hq⟩ : ∃ q, q = itn p := ⟨_, rfl⟩
 rw [← hq] at hnd hpi hi9 hR pt ⊢
 obtain ⟨KS, hKS⟩ : ∃ K, K = needI p L := ⟨_, rfl⟩
 rw [← hKS] at hnd ⊢
 obtain ⟨NN, hNN⟩ : ∃ f, f = needN p L := ⟨_, rfl⟩
 rw [← hNN] at hnd hz hyes hno hnl
 obtain ⟨av, cv, rfl⟩ := hv.hd
 obtain ⟨n, hn⟩ : ∃ n, n = L.length := ⟨_, rfl⟩
 rw [← hn] at hv hl hyes hno ⊢
 have ha := at_new w (rsC p (.slice aL q cL) vF) 31
 have hb : Below w.heap.size w (w.alloc (.cells (rsC p (.slice aL q cL) vF) 31)) := (Below.refl _ _).alloc (Nat.le_refl _) _
 have ms : (rsC p (.slice aL q cL) vF).size = 3 := rfl
 have m0 : (rsC p (.slice aL q cL) vF)[0]? = some (.int .i64 (p : Int)) := rfl
 have m1 : (rsC p (.slice aL q cL) vF)[1]? = some (.slice aL q cL) := rfl
 obtain ⟨M, hM⟩ : ∃ M, M = rsC p (.slice aL q cL) vF := ⟨_, rfl⟩
 rw [← hM] at pt ha hb ms m0 m1 ⊢
 have PT := zh pt; have HS := zh hs; have OF := zh hof; have ND := zh hnd; have NZ := zh hz; have YES := zh hyes; have NO := zh hno; have NL := zh hnl; have HR := zh hR; have HV := zh hv; have HN := zh hn; have HA := zh ha; have HB := zh hb; have MS := zh ms; have M0 := zh m0; have M1 := zh m1
 clear pt hs hof hnd hz hyes hno hnl hR hv hn ha hb ms m0 m1 hM hNN hKS hq
 go_enter Tryz.func11, Tryz.ntmps11
 go_upto_region 1 with fail
 generalize w.alloc (.cells M 31) = w1 at *
 have c0 : w1.cell? ⟨w.heap.size, 0, none⟩ = some (.int .i64 (p : Int)) := (HA.out.cell 0).trans M0.out
 go_wp2_with fail
 clear c0
 go_loopw [5, 6] (fun vo vi wr => ∃ i : Nat, p ≤ i ∧ i ≤ q ∧ vi = .int .i64 (i : Int) ∧ OwnV wr w1.heap.size 3 vo (iz (NN i)) ∧ Below w1.heap.size w1 wr) (fun _ vi _ => q - (intOf vi).toNat)
 case atStart => exact ⟨p, by omega, by omega, rfl, by rw [NZ.out]; exact World.ownsRow_nil _ _ _ _, Below.refl _ _⟩
 case round =>
  obtain ⟨i, hpi2, hiq, rfl, ho, hbw⟩ := hrel
  have OW := zh ho; have BW := zh hbw
  have AW := zh (HA.out.below hbw HA.out.lt)
  have hl5 : (iz (NN i)).length = (NN i).length := by rw [iz_length]
  have hl6 := NL.out i
  obtain ⟨c, hc⟩ : ∃ c, c = (NN i).length := ⟨_, rfl⟩
  rw [← hc] at hl5 hl6
  have L5 := zh hl5
  clear ho hbw hl5 hc
  have c1 : wr.cell? ⟨w.heap.size, 1, none⟩ = some (.slice aL q cL) := (AW.out.cell 1).trans M1.out
  by_cases hlt : i < q
  ·have hlt' : (i : Int) < (q : Int) := by omega
   obtain ⟨a5, c5, rfl, _⟩ := OwnV.open OW.out
   rw [L5.out] at OW ⊢
   go_wp2_with fail
   clear c1
   have AWB : Hid (∀ wx, Below wr.heap.size wr wx → At wx w.heap.size M 31) := zh fun wx h => AW.out.below h AW.out.lt
   have BWB : Hid (∀ wx, Below wr.heap.size wr wx → Below w1.heap.size w1 wx) := zh fun wx h => BW.out.trans (h.mono BW.out.size)
   have OWB : Hid (∀ wx, Below wr.heap.size wr wx → OwnV wx w1.heap.size 3 (.slice a5 c c5) (iz (NN i))) := zh fun wx h => OwnV.below OW.out h
   clear AW OW BW
   go_loopw [5, 7] (fun vo vi wx => ∃ k : Nat, k ≤ n ∧ vo = .slice a5 c c5 ∧ vi = .int .i64 (k : Int) ∧ (∀ k', k' < k → onW p (L.getD k' 0) i = false) ∧ Below wr.heap.size wr wx) (fun _ vi _ => n - (intOf vi).toNat)
   case atStart => exact ⟨0, by omega, rfl, rfl, fun _ h => by omega, Below.refl _ _⟩
   case round =>
    obtain ⟨k, hk, rfl, rfl, hal, hbx⟩ := hrel
    have BX := zh hbx; have AL := zh hal
    have AX := zh (AWB.out wr hbx); have B1 := zh (BWB.out wr hbx)
    clear hbx hal
    by_cases hkn : k < n
    ·have hkn' : (k : Int) < (n : Int) := by omega
     obtain ⟨b1, o1, e1, hlb, cz⟩ := sli_at (i := k) (HV.out.below (HB.out.trans (B1.out.mono HB.out.size))) HN.out hkn
     subst e1
     have yk := fun h => YES.out i k hpi2 hkn h
     have hnx : onW p (L.getD k 0) i = false → ∀ k', k' < k + 1 → onW p (L.getD k' 0) i = false := fun h k' hk' => (Nat.lt_or_ge k' k).elim (AL.out k') (fun g => by rw [show k' = k by omega]; exact h)
     obtain ⟨x, hx⟩ : ∃ x, x = L.getD k 0 := ⟨_, rfl⟩
     rw [← hx] at cz yk hnx
     have CZ := zh cz; have LB1 := zh hlb; have YK := zh yk; have NX := zh hnx
     have RX : Hid (RS wr p (.slice aL q cL) vF) := zh (HR.out.below (HB.out.trans (B1.out.mono HB.out.size)))
     clear cz hlb yk hnx hx
     go_upto_region 8 with fail
     refine wp_region_plan_in (fun x' => Below wr.heap.size wr x') (.take 0 (.take 1 (.take 2 (.take 3 (.take 4 (.take 6 (.sole 5 (.sole 7 .done)))))))) (by kernel_rfl) (by kernel_rfl) (by kernel_rfl) (Below.refl _ _).drew ?_
     refine plan_row 31 _ w.heap.size _ M 31 zr zr zr Mem.ev_a (fun w' hw' => AX.out.below hw' AX.out.lt) Tryz.underlying31 zr (by rw [MS.out]; exact infoRS) ?_
     (simp only [Act.put, Mem.pa, Mem.pb, Mem.pc])
     (first | refine Mem.pm1 ?_ | refine Mem.pm2 ?_ | refine Mem.pt ?_ | refine Mem.pf ?_)
     (simp only [Act.put, Mem.pa, Mem.pb, Mem.pc])
     (first | refine Mem.pm1 ?_ | refine Mem.pm2 ?_ | refine Mem.pt ?_ | refine Mem.pf ?_)
     (simp only [Act.put, Mem.pa, Mem.pb, Mem.pc])
     refine plan_index 29 3 _ _ b1 o1 n cv k zr zr zr Mem.ev_a Mem.ev_a (by omega) Tryz.underlying29 (by kernel_rfl) ?_
     (simp only [Act.put, Mem.pa, Mem.pb, Mem.pc])
     refine plan_cell 3 _ _ (.int .i64 x) _ zr zr zr Mem.ev_a (fun w' hw' => (hw'.cell (p := ⟨b1, o1 + k, none⟩) LB1.out).trans CZ.out) Tryz.underlying3 zr ?_
     (simp only [Act.put, Mem.pa, Mem.pb, Mem.pc])
     (first | refine Mem.pm1 ?_ | refine Mem.pm2 ?_ | refine Mem.pt ?_ | refine Mem.pf ?_)
     (simp only [Act.put, Mem.pa, Mem.pb, Mem.pc])
     refine plan_call 35 _ _ _ (by kernel_rfl) zr zr zr (by first | exact Mem.ev_none _ | (simp only [List.map_toArray, List.map_cons, List.map_nil, Mem.ev_tmp, List.getD_cons_succ, List.getD_cons_zero] <;> rfl)) ?_
     refine (PT.out x _ (RX.out.below (Below.refl _ _).drew)).mono ?_
     rintro e8 wy ⟨v8, rfl, ho8, hb8⟩
     have D1 : Hid (Below wr.heap.size wr wy) := zh ((Below.refl _ _).drew.trans hb8)
     have S8 := zh (ownV_sli ho8)
     clear ho8 hb8
     refine ⟨_, rfl, D1.out, ?_⟩
     (simp only [Act.put, Mem.pa, Mem.pb, Mem.pc])
     refine plan_call 34 _ _ _ (by kernel_rfl) zr zr zr (by first | exact Mem.ev_none _ | (simp only [List.map_toArray, List.map_cons, List.map_nil, Mem.ev_tmp, List.getD_cons_succ, List.getD_cons_zero] <;> rfl)) ?_
     refine (HS.out x i v8 wy S8.out).mono ?_
     rintro e9 wz ⟨rfl, hb9⟩
     have D2 : Hid (Below wr.heap.size wr wz) := zh (D1.out.trans (hb9.mono D1.out.size))
     clear hb9
     rw [OF.out]
     refine ⟨_, rfl, D2.out, ?_⟩
     (simp only [Act.put, Mem.pa, Mem.pb, Mem.pc])
     refine plan_nil ?_
     cases hq : onW p x i with
     | true =>
      have YQ := zh (YK.out hq)
      have O8 := zh (OWB.out _ (BX.out.trans (D2.out.mono BX.out.size))); have B8 := zh (BWB.out _ (BX.out.trans (D2.out.mono BX.out.size)))
      clear hq
      go_wp2_with (at_builtin; refine wpList_append_lit zr _ _ 29 zr (.int .i64 (i : Int)) (.int .i64 0) 8 elemInt zr zr O8.out zr zr (by rw [L5.out]; omega) (by rw [L5.out]; omega) (B8.out.size) ?_; intro v6 w6 ho6 _ hb6 _; have O6 : Hid (OwnV w6 w1.heap.size 3 v6 (iz (NN (i + 1)))) := zh (by rw [YQ.out, iz_snoc]; exact ho6); have B6 : Hid (Below w1.heap.size w1 w6) := zh (B8.out.trans hb6); clear ho6 hb6)
      go_roundw
      case rel => exact ⟨i + 1, by omega, by omega, by go_num, O6.out, B6.out⟩
      case measure => simp [intOf]; omega
     | false =>
      have NQ := zh (NX.out hq); have B8 := zh (BX.out.trans (D2.out.mono BX.out.size))
      clear hq
      go_wp2_with fail
      go_roundw
      case rel => exact ⟨k + 1, by omega, rfl, by go_num, NQ.out, B8.out⟩
      case measure => simp [intOf]; omega
    ·have hkn2 : k = n := by omega
     subst hkn2
     have hge : ¬ (k : Int) < (k : Int) := by omega
     have O8 : Hid (OwnV wr w1.heap.size 3 (.slice a5 c c5) (iz (NN (i + 1)))) := zh (by rw [NO.out i AL.out]; exact OWB.out wr BX.out)
     go_wp2_with fail
     go_roundw
     case rel => exact ⟨i + 1, by omega, by omega, by go_num, O8.out, B1.out⟩
     case measure => simp [intOf]; omega
  ·have hjn : i = q := by omega
   subst hjn
   have hge : ¬ (i : Int) < (i : Int) := by omega
   rw [ND.out] at OW
   go_wp2_with fail
   go_ret
   exact ⟨_, rfl, OwnV.base OW.out HB.out.size, HB.out.trans (BW.out.mono HB.out.size)⟩
end Sha
end Go.Proofs.YtahcjnganedbiaaGreatDoor
