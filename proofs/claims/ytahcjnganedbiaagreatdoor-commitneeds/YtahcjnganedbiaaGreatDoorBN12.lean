/- The document's shape: an account of its value; has, Kids: walks (written by shpref.py). -/
import Derived.Test.YtahcjnganedbiaaGreatDoorBN05
import Derived.Test.YtahcjnganedbiaaGreatDoorBN09
import Derived.Test.YtahcjnganedbiaaGreatDoorBN04
import Derived.Test.YtahcjnganedbiaaGreatDoorBN00
import Derived.Deep.DeepCutAuto
namespace Go.Proofs.YtahcjnganedbiaaGreatDoor
namespace Sha
open Go.RowKit Mem
set_option maxRecDepth 100000
def zL (p : Nat) : List Int := (List.range (itn p)).map fun i => (lev p i : Int)
theorem zL_length (p : Nat) : (zL p).length = itn p := by simp [zL]
theorem zL_get (p i : Nat) (h : i < itn p) : (zL p).getD i 0 = (lev p i : Int) := by simp [zL, List.getD_eq_getElem?_getD, h]
def rsC (p : Nat) (vL vF : Value) : Array Value := #[.int .i64 (p : Int), vL, vF]
theorem rsC_one (p : Nat) (a b : Option Addr) (n c m d : Nat) : (rsC p (.slice a n c) (.slice b m d)).all (·.oneCell') = true := by simp [rsC, Value.oneCell']
structure RS (w : World) (p : Nat) (vL vF : Value) : Prop where
 l : SlI w vL (zL p)
 f : SlI w vF (fstL p (itn p))
theorem RS.below {w w' : World} {p : Nat} {vL vF : Value} (h : RS w p vL vF) (hb : Below w.heap.size w w') : RS w' p vL vF := ⟨h.l.below hb, h.f.below hb⟩
theorem infoRS : (Tryz.prog.info? 31).map (·.size) = some 3 := by kernel_rfl
def inS (p : Nat) (z : Int) : Bool := decide (0 ≤ z ∧ z < (itn p : Int))
set_option maxHeartbeats 2000000 in
theorem rhas_any (p : Nat) (vL vF : Value) (z : Int) (w : World) (hR : RS w p vL vF) : Calls Tryz.prog 71 #[.agg (rsC p vL vF), .int .i64 z] w fun e w' => e = .returned (.bool (inS p z)) ∧ Below w.heap.size w w' := by
 obtain ⟨aL, cL, rfl⟩ := hR.l.hd
 have hA := at_new w (rsC p (.slice aL (zL p).length cL) vF) 31
 have hb : Below w.heap.size w (w.alloc (.cells (rsC p (.slice aL (zL p).length cL) vF) 31)) := (Below.refl _ _).alloc (Nat.le_refl _) _
 have c1 : (w.alloc (.cells (rsC p (.slice aL (zL p).length cL) vF) 31)).cell? ⟨w.heap.size, 1, none⟩ = some (.slice aL (zL p).length cL) := (hA.cell 1).trans rfl
 rw [zL_length] at hA hb c1 ⊢
 obtain ⟨M, hM⟩ : ∃ M, M = rsC p (.slice aL (itn p) cL) vF := ⟨_, rfl⟩
 rw [← hM] at hA hb c1 ⊢
 obtain ⟨n, hn⟩ : ∃ n, n = itn p := ⟨_, rfl⟩
 obtain ⟨w1, hw1⟩ : ∃ w1, w1 = w.alloc (.cells M 31) := ⟨_, rfl⟩
 unfold inS
 rw [← hn] at c1 ⊢
 rw [← hw1] at c1 hb
 have HB := zh hb
 clear hA hb hM hn
 by_cases h0 : 0 ≤ z
 ·by_cases h1 : z < (n : Int)
  ·rw [decide_eq_true (show 0 ≤ z ∧ z < (n : Int) from ⟨h0, h1⟩)]
   go_enter Tryz.func71, Tryz.ntmps71
   go_upto_region 1 with fail
   rw [← hw1]
   clear hw1
   go_wp2_with fail
   go_ret
   exact ⟨rfl, HB.out⟩
  ·rw [decide_eq_false (show ¬ (0 ≤ z ∧ z < (n : Int)) from fun h => h1 h.2)]
   go_enter Tryz.func71, Tryz.ntmps71
   go_upto_region 1 with fail
   rw [← hw1]
   clear hw1
   go_wp2_with fail
   go_ret
   exact ⟨rfl, HB.out⟩
 ·rw [decide_eq_false (show ¬ (0 ≤ z ∧ z < (n : Int)) from fun h => h0 h.1)]
  go_enter Tryz.func71, Tryz.ntmps71
  go_upto_region 1 with fail
  rw [← hw1]
  clear hw1
  go_wp2_with fail
  go_ret
  exact ⟨rfl, HB.out⟩
def kz (p i n : Nat) : List Int := (List.range n).map fun t => ((fst p i + t : Nat) : Int)
theorem kz_length (p i n : Nat) : (kz p i n).length = n := by simp [kz]
theorem kz_succ (p i n : Nat) : kz p i (n + 1) = kz p i n ++ [((fst p i + n : Nat) : Int)] := by simp [kz, List.range_succ]
theorem kz_get (p i n t : Nat) (h : t < n) : (kz p i n).getD t 0 = ((fst p i + t : Nat) : Int) := by simp [kz, List.getD_eq_getElem?_getD, h]
def KZ (p : Nat) (z : Int) : List Int := if (p : Int) ≤ z ∧ z < (itn p : Int) then kz p z.toNat (many p z.toNat) else []
theorem elemInt : elemB Tryz.prog 29 3 (.int .i64 0) 8 := ⟨Tryz.underlying29, by kernel_rfl⟩
theorem o_ilt {P : Program} (p q : Int) (r : Bool) (h : decide (p < q) = r) (t t2 : TypeId) (x y : Operand) (w : World) : (do eqGuard .lss t x y (.int .i64 p) (.int .i64 q); binOp .lss t2 (.int .i64 p) (.int .i64 q) : Sem Value).run P w = .ok (.bool r) w := by
 subst h; go_simp
theorem o_ieqd {P : Program} (p q : Int) (r : Bool) (h : decide (p = q) = r) (t t2 : TypeId) (x y : Operand) (w : World) : (do eqGuard .eql t x y (.int .i64 p) (.int .i64 q); binOp .eql t2 (.int .i64 p) (.int .i64 q) : Sem Value).run P w = .ok (.bool r) w := by
 by_cases e : p = q
 ·subst e; rw [← h, decide_eq_true rfl]; exact o_ieq _ _ _ _ _ _
 ·rw [← h, decide_eq_false e]; exact o_ieqf _ _ e _ _ _ _ _
structure KI (B f n0 : Nat) (p i : Nat) (vo : Value) (w1 wr : World) (j : Nat) : Prop where
 o : OwnV wr B 3 vo (iz (kz p i j))
 b : Below w1.heap.size w1 wr
set_option maxHeartbeats 4000000 in
theorem rkids_none (p : Nat) (vL vF : Value) (z : Int) (w : World) (hR : RS w p vL vF) (h : ¬ ((p : Int) ≤ z ∧ z < (itn p : Int))) : Calls Tryz.prog 43 #[.agg (rsC p vL vF), .int .i64 z] w (IEnd w []) := by
 have hhas := fun wx h => rhas_any p vL vF z wx h
 obtain ⟨aF, cF, rfl⟩ := hR.f.hd
 have hA := at_new w (rsC p vL (.slice aF (fstL p (itn p)).length cF)) 31
 have hb : Below w.heap.size w (w.alloc (.cells (rsC p vL (.slice aF (fstL p (itn p)).length cF)) 31)) := (Below.refl _ _).alloc (Nat.le_refl _) _
 have c2 : (w.alloc (.cells (rsC p vL (.slice aF (fstL p (itn p)).length cF)) 31)).cell? ⟨w.heap.size, 2, none⟩ = some (.slice aF (fstL p (itn p)).length cF) := (hA.cell 2).trans rfl
 have hR1 := hR.below hb
 rw [fstL_length] at *
 have hf := hR1.f
 obtain ⟨n, hn⟩ : ∃ n, n = itn p := ⟨_, rfl⟩
 have ms : (rsC p vL (.slice aF (itn p) cF)).size = 3 := rfl
 obtain ⟨M, hM⟩ : ∃ M, M = rsC p vL (.slice aF (itn p) cF) := ⟨_, rfl⟩
 rw [← hM] at hhas hA hb c2 hR1 hf ms ⊢
 obtain ⟨w1, hw1⟩ : ∃ w1, w1 = w.alloc (.cells M 31) := ⟨_, rfl⟩
 rw [← hw1] at hA c2 hb hR1 hf
 rw [← hn] at hf c2 h
 have hin : inS p z = decide (0 ≤ z ∧ z < (n : Int)) := by rw [hn]; rfl
 rw [hin] at hhas
 have HAS := zh (hhas w1 hR1); have AX := zh hA; have HB := zh hb; have MS := zh ms
 by_cases hz : 0 ≤ z ∧ z < (n : Int)
 ·rw [decide_eq_true hz] at HAS
  obtain ⟨i, rfl⟩ : ∃ i : Nat, z = (i : Int) := ⟨z.toNat, by omega⟩
  have hip : i < p := by omega
  obtain ⟨bF, oF, e, hlt, cx⟩ := sli_at (i := i) hf (by rw [fstL_length]) (by omega)
  rw [fstL_get p _ i (by omega), show fstZ p i = -1 from if_pos hip] at cx
  subst e
  have hin2 : (i : Int) < (n : Int) := by omega
  have CX := zh cx; have C2 := zh c2; have LTF := zh hlt
  clear hhas hA hb c2 hR1 hf ms hM hR h hz hip hn hin cx hlt
  go_enter Tryz.func43, Tryz.ntmps43
  go_upto_region 1 with fail
  rw [← hw1]
  clear hw1
  go_wp2_with (refine wpList_load_all zr 31 _ zr w.heap.size zr _ Tryz.underlying31 zr M _ AX.out (by rw [MS.out]; exact infoRS) ?_)
  refine HAS.out.mono ?_
  rintro e w2 ⟨rfl, hb2⟩
  have c2 := (hb2.cell (p := ⟨w.heap.size, 2, none⟩) AX.out.lt).trans C2.out
  have cx := (hb2.cell (p := ⟨bF, oF + i, none⟩) LTF.out).trans CX.out
  have B2 : Hid (Below w.heap.size w w2) := zh (HB.out.trans (hb2.mono HB.out.size))
  clear hb2 HAS
  go_wp2_with fail
  go_ret
  exact ⟨_, rfl, SlI.nil _, B2.out⟩
 ·rw [decide_eq_false hz] at HAS
  clear hhas hA hb c2 hR1 hf ms hM hR h hz hn hin
  go_enter Tryz.func43, Tryz.ntmps43
  go_upto_region 1 with fail
  rw [← hw1]
  clear hw1
  go_wp2_with (refine wpList_load_all zr 31 _ zr w.heap.size zr _ Tryz.underlying31 zr M _ AX.out (by rw [MS.out]; exact infoRS) ?_)
  refine HAS.out.mono ?_
  rintro e w2 ⟨rfl, hb2⟩
  have B2 : Hid (Below w.heap.size w w2) := zh (HB.out.trans (hb2.mono HB.out.size))
  clear hb2 HAS
  go_wp2_with fail
  go_ret
  exact ⟨_, rfl, SlI.nil _, B2.out⟩
set_option maxHeartbeats 8000000 in
theorem rkids_some (p : Nat) (vL vF : Value) (i : Nat) (w : World) (hR : RS w p vL vF) (h0 : 1 ≤ p) (h1 : p ≤ 216) (hi : p ≤ i) (hit : i < itn p) : Calls Tryz.prog 43 #[.agg (rsC p vL vF), .int .i64 (i : Int)] w (IEnd w (kz p i (many p i))) := by
 have hhas := fun wx h => rhas_any p vL vF (i : Int) wx h
 obtain ⟨aF, cF, rfl⟩ := hR.f.hd
 obtain ⟨aL, cL, rfl⟩ := hR.l.hd
 rw [zL_length, fstL_length] at *
 obtain ⟨bL, oL, e, hltL, _⟩ := sli_at (i := i) hR.l (by rw [zL_length]) hit
 subst e
 obtain ⟨bF, oF, e, hltF, _⟩ := sli_at (i := i) hR.f (by rw [fstL_length]) hit
 subst e
 have hLc : ∀ wx, Below w.heap.size w wx → ∀ q, q < itn p → wx.cell? ⟨bL, oL + q, none⟩ = some (.int .i64 (lev p q : Int)) := fun wx hb q hq => by
  rw [sli_cell (i := q) (hR.l.below hb) (by rw [zL_length]) hq, zL_get p q hq]
 have hFc : ∀ wx, Below w.heap.size w wx → wx.cell? ⟨bF, oF + i, none⟩ = some (.int .i64 ((fst p i : Nat) : Int)) := fun wx hb => by
  rw [sli_cell (i := i) (hR.f.below hb) (by rw [fstL_length]) hit, fstL_get p _ i hit, show fstZ p i = ((fst p i : Nat) : Int) from if_neg (by omega)]
 have hbig := (itn_big p h0 h1).2
 have hkc := fun j => kids_cond p i j h0 h1 hi hit
 have hm6 := many_le p i
 have hin : inS p (i : Int) = true := decide_eq_true ⟨by omega, by omega⟩
 rw [hin] at hhas
 obtain ⟨n, hn⟩ : ∃ n, n = itn p := ⟨_, rfl⟩
 have hA := at_new w (rsC p (.slice (some ⟨bL, oL, none⟩) (itn p) cL) (.slice (some ⟨bF, oF, none⟩) (itn p) cF)) 31
 have hb : Below w.heap.size w (w.alloc (.cells (rsC p (.slice (some ⟨bL, oL, none⟩) (itn p) cL) (.slice (some ⟨bF, oF, none⟩) (itn p) cF)) 31)) := (Below.refl _ _).alloc (Nat.le_refl _) _
 have c1 : (w.alloc (.cells (rsC p (.slice (some ⟨bL, oL, none⟩) (itn p) cL) (.slice (some ⟨bF, oF, none⟩) (itn p) cF)) 31)).cell? ⟨w.heap.size, 1, none⟩ = some (.slice (some ⟨bL, oL, none⟩) (itn p) cL) := (hA.cell 1).trans rfl
 have c2 : (w.alloc (.cells (rsC p (.slice (some ⟨bL, oL, none⟩) (itn p) cL) (.slice (some ⟨bF, oF, none⟩) (itn p) cF)) 31)).cell? ⟨w.heap.size, 2, none⟩ = some (.slice (some ⟨bF, oF, none⟩) (itn p) cF) := (hA.cell 2).trans rfl
 have hR1 := hR.below hb
 have ms : (rsC p (.slice (some ⟨bL, oL, none⟩) (itn p) cL) (.slice (some ⟨bF, oF, none⟩) (itn p) cF)).size = 3 := rfl
 obtain ⟨M, hM⟩ : ∃ M, M = rsC p (.slice (some ⟨bL, oL, none⟩) (itn p) cL) (.slice (some ⟨bF, oF, none⟩) (itn p) cF) := ⟨_, rfl⟩
 rw [← hM] at hhas hA hb c1 c2 hR1 ms ⊢
 obtain ⟨w1, hw1⟩ : ∃ w1, w1 = w.alloc (.cells M 31) := ⟨_, rfl⟩
 rw [← hw1] at hA c1 c2 hb hR1
 rw [← hn] at c1 c2 hLc hit hbig
 obtain ⟨f, hf⟩ : ∃ f, f = fst p i := ⟨_, rfl⟩
 obtain ⟨m, hm⟩ : ∃ m, m = many p i := ⟨_, rfl⟩
 rw [← hf] at hFc
 rw [← hf, ← hm] at hkc
 rw [← hm] at hm6 ⊢
 have hln : ∀ j, (kz p i j).length = j := kz_length p i
 have hsn : ∀ j, kz p i (j + 1) = kz p i j ++ [((f + j : Nat) : Int)] := fun j => by rw [hf]; exact kz_succ p i j
 have hk0 : kz p i 0 = [] := rfl
 obtain ⟨KK, hKK⟩ : ∃ K, K = kz p i := ⟨_, rfl⟩
 rw [← hKK] at hln hsn hk0 ⊢
 have LT0 := zh hA.lt
 have HAS := zh (hhas w1 hR1); have AX := zh hA; have HB := zh hb; have MS := zh ms; have LC := zh hLc; have FC := zh hFc; have KC := zh hkc; have C1 := zh c1; have C2 := zh c2; have LN := zh hln; have SN := zh hsn; have LTL := zh hltL; have K0 := zh hk0
 have cF2 := FC.out w1 HB.out
 clear hhas hA hb c1 hR1 ms hM hR hLc hFc hkc hin hn hf hm hln hsn hKK hltL hltF hk0
 go_enter Tryz.func43, Tryz.ntmps43
 go_upto_region 1 with fail
 rw [← hw1]
 clear hw1 c2 cF2
 go_wp2_with (refine wpList_load_all zr 31 _ zr w.heap.size zr _ Tryz.underlying31 zr M _ AX.out (by rw [MS.out]; exact infoRS) ?_)
 refine HAS.out.mono ?_
 rintro e w2 ⟨rfl, hb2⟩
 have c2 := (hb2.cell (p := ⟨w.heap.size, 2, none⟩) LT0.out).trans C2.out
 have B2 : Hid (Below w1.heap.size w1 w2) := zh hb2
 have cF2 := FC.out w2 (HB.out.trans (hb2.mono HB.out.size))
 have hin2 : (i : Int) < (n : Int) := by omega
 clear hb2 HAS
 go_wp2_with fail
 go_loopw [5, 6] (fun vo k wr => ∃ j : Nat, j ≤ m ∧ k = .int .i64 ((f + j : Nat) : Int) ∧ OwnV wr w1.heap.size 3 vo (iz (KK j)) ∧ Below w1.heap.size w1 wr) (fun _ k _ => f + 7 - (intOf k).toNat)
 case atStart => exact ⟨0, by omega, rfl, by rw [K0.out]; exact OwnV.nil _ _ _, B2.out⟩
 case round =>
  clear c2 cF2 B2
  obtain ⟨j, hj, rfl, ho, hbw⟩ := hrel
  obtain ⟨ao, co, e, _⟩ := OwnV.open ho
  rw [iz_length, LN.out] at e
  subst e
  have hC1 := (hbw.cell (p := ⟨w.heap.size, 1, none⟩) LT0.out).trans C1.out
  have hLw := LC.out wr (HB.out.trans (hbw.mono HB.out.size))
  have lt0 : w.heap.size < wr.heap.size := Nat.lt_of_lt_of_le LT0.out hbw.size
  have ltl : bL < wr.heap.size := Nat.lt_of_lt_of_le LTL.out (Nat.le_trans HB.out.size hbw.size)
  have hkj := KC.out j
  have OO := zh ho; have BW := zh hbw
  have DRW : Hid (Below wr.heap.size wr wr.drew) := zh (Below.refl _ _).drew
  have J6v := fun (r : Bool) (h : decide ((j : Int) < 6) = r) (t t2 : TypeId) (x y : Operand) (wx : World) => o_ilt (P := Tryz.prog) (j : Int) 6 r h t t2 x y wx
  have KIv := fun (r : Bool) (h : decide (((f + j : Nat) : Int) < (i : Int)) = r) (t t2 : TypeId) (x y : Operand) (wx : World) => o_ilt (P := Tryz.prog) ((f + j : Nat) : Int) (i : Int) r h t t2 x y wx
  have C1' := zh hC1; have LT0' := zh lt0; have LTL' := zh ltl; have LW := zh hLw
  clear hC1 lt0 ltl hLw ho hbw
  by_cases h6 : j < 6
  ·have J6 := zh (J6v true (decide_eq_true (by omega)))
   by_cases hki : f + j < i
   ·have KI := zh (KIv true (decide_eq_true (by omega)))
    obtain ⟨lk, hlk⟩ : ∃ l, l = lev p (f + j) := ⟨_, rfl⟩
    obtain ⟨li, hli⟩ : ∃ l, l = lev p i := ⟨_, rfl⟩
    have hl3 := lev_le p i
    have ck := LW.out (f + j) (by omega)
    have ci := LW.out i hit
    rw [← hlk, ← hli] at hkj
    rw [← hlk] at ck
    rw [← hli] at ci hl3
    have SUB := zh (fun (t t2 : TypeId) (x y : Operand) (wx : World) => o_isub (P := Tryz.prog) t t2 x y (li : Int) 1 ((li : Int) - 1) rfl (by omega) (by omega) wx)
    have EQv := fun (r : Bool) (h : decide ((lk : Int) = (li : Int) - 1) = r) (t t2 : TypeId) (x y : Operand) (wx : World) => o_ieqd (P := Tryz.prog) (lk : Int) ((li : Int) - 1) r h t t2 x y wx
    have CK := zh ck; have CI := zh ci
    clear ck ci hlk hli hl3
    by_cases hl : lk + 1 = li
    ·have hjm : j < m := hkj.1 ⟨h6, hki, hl⟩
     have EQ := zh (EQv true (decide_eq_true (by omega)))
     clear J6v KIv EQv hkj hl
     go_wp2_with fail
     refine wp_region_plan (.take 0 (.take 1 (.take 2 (.take 3 (.take 4 (.take 5 (.take 6 (.take 7 (.take 8 (.take 9 (.take 10 (.take 11 (.take 12 (.take 13 (.take 14 (.take 15 (.take 16 (.take 17 (.take 18 (.take 19 (.take 20 (.take 21 .done)))))))))))))))))))))) (by kernel_rfl) (by kernel_rfl) (by kernel_rfl) ?_
     (first | refine Mem.pm1 ?_ | refine Mem.pm2 ?_ | refine Mem.pt ?_ | refine Mem.pf ?_)
     (simp only [Act.put, Mem.pa, Mem.pb, Mem.pc])
     refine plan_len _ _ _ ao j co zr zr zr zr Mem.ev_a (fun w' => by first | rfl | go_simp) ?_
     (simp only [Act.put, Mem.pa, Mem.pb, Mem.pc])
     refine plan_bin _ _ _ _ _ _ _ (.bool true) zr zr zr Mem.ev_a zr (fun wx => J6.out _ _ _ _ wx) ?_
     (simp only [Act.put, Mem.pa, Mem.pb, Mem.pc])
     (first | refine Mem.pm1 ?_ | refine Mem.pm2 ?_ | refine Mem.pt ?_ | refine Mem.pf ?_)
     (simp only [Act.put, Mem.pa, Mem.pb, Mem.pc])
     (first | refine Mem.pm1 ?_ | refine Mem.pm2 ?_ | refine Mem.pt ?_ | refine Mem.pf ?_)
     (simp only [Act.put, Mem.pa, Mem.pb, Mem.pc])
     (first | refine Mem.pm1 ?_ | refine Mem.pm2 ?_ | refine Mem.pt ?_ | refine Mem.pf ?_)
     (simp only [Act.put, Mem.pa, Mem.pb, Mem.pc])
     refine plan_bin _ _ _ _ _ _ _ (.bool true) zr zr zr Mem.ev_a Mem.ev_a (fun wx => KI.out _ _ _ _ wx) ?_
     (simp only [Act.put, Mem.pa, Mem.pb, Mem.pc])
     refine plan_pick_t _ _ _ _ zr zr zr Mem.ev_a Mem.ev_a ?_
     (simp only [Act.put, Mem.pa, Mem.pb, Mem.pc])
     (first | refine Mem.pm1 ?_ | refine Mem.pm2 ?_ | refine Mem.pt ?_ | refine Mem.pf ?_)
     (simp only [Act.put, Mem.pa, Mem.pb, Mem.pc])
     refine plan_field 31 _ 1 w.heap.size 0 ⟨w.heap.size, 1, none⟩ zr zr zr Mem.ev_a (fun wx => by go_simp) ?_
     (simp only [Act.put, Mem.pa, Mem.pb, Mem.pc])
     refine plan_cell 29 _ ⟨w.heap.size, 1, none⟩ (.slice (some ⟨bL, oL, none⟩) n cL) _ zr zr zr Mem.ev_a (fun w' hw' => (Below.cell hw' (p := ⟨w.heap.size, 1, none⟩) LT0'.out).trans C1'.out) Tryz.underlying29 zr ?_
     (simp only [Act.put, Mem.pa, Mem.pb, Mem.pc])
     (first | refine Mem.pm1 ?_ | refine Mem.pm2 ?_ | refine Mem.pt ?_ | refine Mem.pf ?_)
     (simp only [Act.put, Mem.pa, Mem.pb, Mem.pc])
     refine plan_index 29 3 _ _ bL oL n cL (f + j) zr zr zr Mem.ev_a Mem.ev_a (by omega) Tryz.underlying29 (by kernel_rfl) ?_
     (simp only [Act.put, Mem.pa, Mem.pb, Mem.pc])
     refine plan_cell 3 _ ⟨bL, oL + (f + j), none⟩ (.int .i64 (lk : Int)) _ zr zr zr Mem.ev_a (fun w' hw' => (Below.cell hw' (p := ⟨bL, oL + (f + j), none⟩) LTL'.out).trans CK.out) Tryz.underlying3 zr ?_
     (simp only [Act.put, Mem.pa, Mem.pb, Mem.pc])
     refine plan_field 31 _ 1 w.heap.size 0 ⟨w.heap.size, 1, none⟩ zr zr zr Mem.ev_a (fun wx => by go_simp) ?_
     (simp only [Act.put, Mem.pa, Mem.pb, Mem.pc])
     refine plan_cell 29 _ ⟨w.heap.size, 1, none⟩ (.slice (some ⟨bL, oL, none⟩) n cL) _ zr zr zr Mem.ev_a (fun w' hw' => (Below.cell hw' (p := ⟨w.heap.size, 1, none⟩) LT0'.out).trans C1'.out) Tryz.underlying29 zr ?_
     (simp only [Act.put, Mem.pa, Mem.pb, Mem.pc])
     (first | refine Mem.pm1 ?_ | refine Mem.pm2 ?_ | refine Mem.pt ?_ | refine Mem.pf ?_)
     (simp only [Act.put, Mem.pa, Mem.pb, Mem.pc])
     refine plan_index 29 3 _ _ bL oL n cL i zr zr zr Mem.ev_a Mem.ev_a (by omega) Tryz.underlying29 (by kernel_rfl) ?_
     (simp only [Act.put, Mem.pa, Mem.pb, Mem.pc])
     refine plan_cell 3 _ ⟨bL, oL + i, none⟩ (.int .i64 (li : Int)) _ zr zr zr Mem.ev_a (fun w' hw' => (Below.cell hw' (p := ⟨bL, oL + i, none⟩) LTL'.out).trans CI.out) Tryz.underlying3 zr ?_
     (simp only [Act.put, Mem.pa, Mem.pb, Mem.pc])
     refine plan_bin _ _ _ _ _ _ _ (.int .i64 ((li : Int) - 1)) zr zr zr Mem.ev_a zr (fun wx => SUB.out _ _ _ _ wx) ?_
     (simp only [Act.put, Mem.pa, Mem.pb, Mem.pc])
     refine plan_bin _ _ _ _ _ _ _ (.bool true) zr zr zr Mem.ev_a Mem.ev_a (fun wx => EQ.out _ _ _ _ wx) ?_
     (simp only [Act.put, Mem.pa, Mem.pb, Mem.pc])
     refine plan_pick_t _ _ _ _ zr zr zr Mem.ev_a Mem.ev_a ?_
     (simp only [Act.put, Mem.pa, Mem.pb, Mem.pc])
     refine plan_nil ?_
     have OW := zh (OwnV.below OO.out DRW.out); have BD : Hid (Below w1.heap.size w1 wr.drew) := zh (BW.out.trans (DRW.out.mono BW.out.size))
     have hlen : (iz (KK j)).length = j := by rw [iz_length, LN.out]
     have HLN := zh hlen
     have SNJ := zh (SN.out j)
     clear hlen
     go_wp2_with (at_builtin; refine wpList_append_lit zr _ _ 29 zr (.int .i64 ((f + j : Nat) : Int)) (.int .i64 0) 8 elemInt zr zr OW.out zr zr (by rw [HLN.out]; omega) (by rw [HLN.out]; omega) (BD.out.size) ?_; intro v6 w6 ho6 _ hb6 _; have O6 : Hid (OwnV w6 w1.heap.size 3 v6 (iz (KK (j + 1)))) := zh (by rw [SNJ.out, iz_snoc]; exact ho6); have B6 : Hid (Below w1.heap.size w1 w6) := zh (BD.out.trans hb6); clear ho6 hb6)
     go_roundw
     case rel => exact ⟨j + 1, by omega, congrArg (Value.int .i64) (by omega), O6.out, B6.out⟩
     case measure => simp [intOf]; omega
    ·have hjm : j = m := by have := hkj.2; omega
     have EQ := zh (EQv false (decide_eq_false (by omega)))
     subst hjm
     clear J6v KIv EQv hkj hl hm6 hj
     go_wp2_with fail
     refine wp_region_plan (.take 0 (.take 1 (.take 2 (.take 3 (.take 4 (.take 5 (.take 6 (.take 7 (.take 8 (.take 9 (.take 10 (.take 11 (.take 12 (.take 13 (.take 14 (.take 15 (.take 16 (.take 17 (.take 18 (.take 19 (.take 20 (.take 21 .done)))))))))))))))))))))) (by kernel_rfl) (by kernel_rfl) (by kernel_rfl) ?_
     (first | refine Mem.pm1 ?_ | refine Mem.pm2 ?_ | refine Mem.pt ?_ | refine Mem.pf ?_)
     (simp only [Act.put, Mem.pa, Mem.pb, Mem.pc])
     refine plan_len _ _ _ ao j co zr zr zr zr Mem.ev_a (fun w' => by first | rfl | go_simp) ?_
     (simp only [Act.put, Mem.pa, Mem.pb, Mem.pc])
     refine plan_bin _ _ _ _ _ _ _ (.bool true) zr zr zr Mem.ev_a zr (fun wx => J6.out _ _ _ _ wx) ?_
     (simp only [Act.put, Mem.pa, Mem.pb, Mem.pc])
     (first | refine Mem.pm1 ?_ | refine Mem.pm2 ?_ | refine Mem.pt ?_ | refine Mem.pf ?_)
     (simp only [Act.put, Mem.pa, Mem.pb, Mem.pc])
     (first | refine Mem.pm1 ?_ | refine Mem.pm2 ?_ | refine Mem.pt ?_ | refine Mem.pf ?_)
     (simp only [Act.put, Mem.pa, Mem.pb, Mem.pc])
     (first | refine Mem.pm1 ?_ | refine Mem.pm2 ?_ | refine Mem.pt ?_ | refine Mem.pf ?_)
     (simp only [Act.put, Mem.pa, Mem.pb, Mem.pc])
     refine plan_bin _ _ _ _ _ _ _ (.bool true) zr zr zr Mem.ev_a Mem.ev_a (fun wx => KI.out _ _ _ _ wx) ?_
     (simp only [Act.put, Mem.pa, Mem.pb, Mem.pc])
     refine plan_pick_t _ _ _ _ zr zr zr Mem.ev_a Mem.ev_a ?_
     (simp only [Act.put, Mem.pa, Mem.pb, Mem.pc])
     (first | refine Mem.pm1 ?_ | refine Mem.pm2 ?_ | refine Mem.pt ?_ | refine Mem.pf ?_)
     (simp only [Act.put, Mem.pa, Mem.pb, Mem.pc])
     refine plan_field 31 _ 1 w.heap.size 0 ⟨w.heap.size, 1, none⟩ zr zr zr Mem.ev_a (fun wx => by go_simp) ?_
     (simp only [Act.put, Mem.pa, Mem.pb, Mem.pc])
     refine plan_cell 29 _ ⟨w.heap.size, 1, none⟩ (.slice (some ⟨bL, oL, none⟩) n cL) _ zr zr zr Mem.ev_a (fun w' hw' => (Below.cell hw' (p := ⟨w.heap.size, 1, none⟩) LT0'.out).trans C1'.out) Tryz.underlying29 zr ?_
     (simp only [Act.put, Mem.pa, Mem.pb, Mem.pc])
     (first | refine Mem.pm1 ?_ | refine Mem.pm2 ?_ | refine Mem.pt ?_ | refine Mem.pf ?_)
     (simp only [Act.put, Mem.pa, Mem.pb, Mem.pc])
     refine plan_index 29 3 _ _ bL oL n cL (f + j) zr zr zr Mem.ev_a Mem.ev_a (by omega) Tryz.underlying29 (by kernel_rfl) ?_
     (simp only [Act.put, Mem.pa, Mem.pb, Mem.pc])
     refine plan_cell 3 _ ⟨bL, oL + (f + j), none⟩ (.int .i64 (lk : Int)) _ zr zr zr Mem.ev_a (fun w' hw' => (Below.cell hw' (p := ⟨bL, oL + (f + j), none⟩) LTL'.out).trans CK.out) Tryz.underlying3 zr ?_
     (simp only [Act.put, Mem.pa, Mem.pb, Mem.pc])
     refine plan_field 31 _ 1 w.heap.size 0 ⟨w.heap.size, 1, none⟩ zr zr zr Mem.ev_a (fun wx => by go_simp) ?_
     (simp only [Act.put, Mem.pa, Mem.pb, Mem.pc])
     refine plan_cell 29 _ ⟨w.heap.size, 1, none⟩ (.slice (some ⟨bL, oL, none⟩) n cL) _ zr zr zr Mem.ev_a (fun w' hw' => (Below.cell hw' (p := ⟨w.heap.size, 1, none⟩) LT0'.out).trans C1'.out) Tryz.underlying29 zr ?_
     (simp only [Act.put, Mem.pa, Mem.pb, Mem.pc])
     (first | refine Mem.pm1 ?_ | refine Mem.pm2 ?_ | refine Mem.pt ?_ | refine Mem.pf ?_)
     (simp only [Act.put, Mem.pa, Mem.pb, Mem.pc])
     refine plan_index 29 3 _ _ bL oL n cL i zr zr zr Mem.ev_a Mem.ev_a (by omega) Tryz.underlying29 (by kernel_rfl) ?_
     (simp only [Act.put, Mem.pa, Mem.pb, Mem.pc])
     refine plan_cell 3 _ ⟨bL, oL + i, none⟩ (.int .i64 (li : Int)) _ zr zr zr Mem.ev_a (fun w' hw' => (Below.cell hw' (p := ⟨bL, oL + i, none⟩) LTL'.out).trans CI.out) Tryz.underlying3 zr ?_
     (simp only [Act.put, Mem.pa, Mem.pb, Mem.pc])
     refine plan_bin _ _ _ _ _ _ _ (.int .i64 ((li : Int) - 1)) zr zr zr Mem.ev_a zr (fun wx => SUB.out _ _ _ _ wx) ?_
     (simp only [Act.put, Mem.pa, Mem.pb, Mem.pc])
     refine plan_bin _ _ _ _ _ _ _ (.bool false) zr zr zr Mem.ev_a Mem.ev_a (fun wx => EQ.out _ _ _ _ wx) ?_
     (simp only [Act.put, Mem.pa, Mem.pb, Mem.pc])
     refine plan_pick_t _ _ _ _ zr zr zr Mem.ev_a Mem.ev_a ?_
     (simp only [Act.put, Mem.pa, Mem.pb, Mem.pc])
     refine plan_nil ?_
     go_wp2_with fail
     go_ret
     exact ⟨_, rfl, ownV_sli (OwnV.below OO.out DRW.out), HB.out.trans ((BW.out.trans (DRW.out.mono BW.out.size)).mono HB.out.size)⟩
   ·have hjm : j = m := by have := hkj.2; omega
    have KI := zh (KIv false (decide_eq_false (by omega)))
    subst hjm
    clear J6v KIv hkj hm6 hj hki
    go_wp2_with fail
    refine wp_region_plan (.take 0 (.take 1 (.take 2 (.take 3 (.take 4 (.take 5 (.take 6 (.take 7 (.take 8 (.take 9 (.take 10 (.take 11 (.take 12 (.take 13 (.take 14 (.take 15 (.take 16 (.take 17 (.take 18 (.take 19 (.take 20 (.take 21 .done)))))))))))))))))))))) (by kernel_rfl) (by kernel_rfl) (by kernel_rfl) ?_
    (first | refine Mem.pm1 ?_ | refine Mem.pm2 ?_ | refine Mem.pt ?_ | refine Mem.pf ?_)
    (simp only [Act.put, Mem.pa, Mem.pb, Mem.pc])
    refine plan_len _ _ _ ao j co zr zr zr zr Mem.ev_a (fun w' => by first | rfl | go_simp) ?_
    (simp only [Act.put, Mem.pa, Mem.pb, Mem.pc])
    refine plan_bin _ _ _ _ _ _ _ (.bool true) zr zr zr Mem.ev_a zr (fun wx => J6.out _ _ _ _ wx) ?_
    (simp only [Act.put, Mem.pa, Mem.pb, Mem.pc])
    (first | refine Mem.pm1 ?_ | refine Mem.pm2 ?_ | refine Mem.pt ?_ | refine Mem.pf ?_)
    (simp only [Act.put, Mem.pa, Mem.pb, Mem.pc])
    (first | refine Mem.pm1 ?_ | refine Mem.pm2 ?_ | refine Mem.pt ?_ | refine Mem.pf ?_)
    (simp only [Act.put, Mem.pa, Mem.pb, Mem.pc])
    (first | refine Mem.pm1 ?_ | refine Mem.pm2 ?_ | refine Mem.pt ?_ | refine Mem.pf ?_)
    (simp only [Act.put, Mem.pa, Mem.pb, Mem.pc])
    refine plan_bin _ _ _ _ _ _ _ (.bool false) zr zr zr Mem.ev_a Mem.ev_a (fun wx => KI.out _ _ _ _ wx) ?_
    (simp only [Act.put, Mem.pa, Mem.pb, Mem.pc])
    refine plan_pick_t _ _ _ _ zr zr zr Mem.ev_a Mem.ev_a ?_
    (simp only [Act.put, Mem.pa, Mem.pb, Mem.pc])
    (first | refine Mem.pm1 ?_ | refine Mem.pm2 ?_ | refine Mem.pt ?_ | refine Mem.pf ?_)
    (simp only [Act.put, Mem.pa, Mem.pb, Mem.pc])
    refine plan_skip zr zr ?_
    (simp only [Act.put, Mem.pa, Mem.pb, Mem.pc])
    refine plan_skip zr zr ?_
    (simp only [Act.put, Mem.pa, Mem.pb, Mem.pc])
    refine plan_skip zr zr ?_
    (simp only [Act.put, Mem.pa, Mem.pb, Mem.pc])
    refine plan_skip zr zr ?_
    (simp only [Act.put, Mem.pa, Mem.pb, Mem.pc])
    refine plan_skip zr zr ?_
    (simp only [Act.put, Mem.pa, Mem.pb, Mem.pc])
    refine plan_skip zr zr ?_
    (simp only [Act.put, Mem.pa, Mem.pb, Mem.pc])
    refine plan_skip zr zr ?_
    (simp only [Act.put, Mem.pa, Mem.pb, Mem.pc])
    refine plan_skip zr zr ?_
    (simp only [Act.put, Mem.pa, Mem.pb, Mem.pc])
    refine plan_skip zr zr ?_
    (simp only [Act.put, Mem.pa, Mem.pb, Mem.pc])
    refine plan_skip zr zr ?_
    (simp only [Act.put, Mem.pa, Mem.pb, Mem.pc])
    refine plan_skip zr zr ?_
    (simp only [Act.put, Mem.pa, Mem.pb, Mem.pc])
    refine plan_skip zr zr ?_
    (simp only [Act.put, Mem.pa, Mem.pb, Mem.pc])
    refine plan_pick_f _ _ _ _ zr zr zr Mem.ev_a Mem.ev_a ?_
    (simp only [Act.put, Mem.pa, Mem.pb, Mem.pc])
    refine plan_nil ?_
    go_wp2_with fail
    go_ret
    exact ⟨_, rfl, ownV_sli (OwnV.below OO.out DRW.out), HB.out.trans ((BW.out.trans (DRW.out.mono BW.out.size)).mono HB.out.size)⟩
  ·have hjm : j = m := by have := hkj.2; omega
   have J6 := zh (J6v false (decide_eq_false (by omega)))
   subst hjm
   clear J6v KIv hkj hm6 hj h6
   go_wp2_with fail
   refine wp_region_plan (.take 0 (.take 1 (.take 2 (.take 3 (.take 4 (.take 5 (.take 6 (.take 7 (.take 8 (.take 9 (.take 10 (.take 11 (.take 12 (.take 13 (.take 14 (.take 15 (.take 16 (.take 17 (.take 18 (.take 19 (.take 20 (.take 21 .done)))))))))))))))))))))) (by kernel_rfl) (by kernel_rfl) (by kernel_rfl) ?_
   (first | refine Mem.pm1 ?_ | refine Mem.pm2 ?_ | refine Mem.pt ?_ | refine Mem.pf ?_)
   (simp only [Act.put, Mem.pa, Mem.pb, Mem.pc])
   refine plan_len _ _ _ ao j co zr zr zr zr Mem.ev_a (fun w' => by first | rfl | go_simp) ?_
   (simp only [Act.put, Mem.pa, Mem.pb, Mem.pc])
   refine plan_bin _ _ _ _ _ _ _ (.bool false) zr zr zr Mem.ev_a zr (fun wx => J6.out _ _ _ _ wx) ?_
   (simp only [Act.put, Mem.pa, Mem.pb, Mem.pc])
   (first | refine Mem.pm1 ?_ | refine Mem.pm2 ?_ | refine Mem.pt ?_ | refine Mem.pf ?_)
   (simp only [Act.put, Mem.pa, Mem.pb, Mem.pc])
   refine plan_skip zr zr ?_
   (simp only [Act.put, Mem.pa, Mem.pb, Mem.pc])
   refine plan_skip zr zr ?_
   (simp only [Act.put, Mem.pa, Mem.pb, Mem.pc])
   refine plan_skip zr zr ?_
   (simp only [Act.put, Mem.pa, Mem.pb, Mem.pc])
   refine plan_pick_f _ _ _ _ zr zr zr Mem.ev_a Mem.ev_a ?_
   (simp only [Act.put, Mem.pa, Mem.pb, Mem.pc])
   (first | refine Mem.pm1 ?_ | refine Mem.pm2 ?_ | refine Mem.pt ?_ | refine Mem.pf ?_)
   (simp only [Act.put, Mem.pa, Mem.pb, Mem.pc])
   refine plan_skip zr zr ?_
   (simp only [Act.put, Mem.pa, Mem.pb, Mem.pc])
   refine plan_skip zr zr ?_
   (simp only [Act.put, Mem.pa, Mem.pb, Mem.pc])
   refine plan_skip zr zr ?_
   (simp only [Act.put, Mem.pa, Mem.pb, Mem.pc])
   refine plan_skip zr zr ?_
   (simp only [Act.put, Mem.pa, Mem.pb, Mem.pc])
   refine plan_skip zr zr ?_
   (simp only [Act.put, Mem.pa, Mem.pb, Mem.pc])
   refine plan_skip zr zr ?_
   (simp only [Act.put, Mem.pa, Mem.pb, Mem.pc])
   refine plan_skip zr zr ?_
   (simp only [Act.put, Mem.pa, Mem.pb, Mem.pc])
   refine plan_skip zr zr ?_
   (simp only [Act.put, Mem.pa, Mem.pb, Mem.pc])
   refine plan_skip zr zr ?_
   (simp only [Act.put, Mem.pa, Mem.pb, Mem.pc])
   refine plan_skip zr zr ?_
   (simp only [Act.put, Mem.pa, Mem.pb, Mem.pc])
   refine plan_skip zr zr ?_
   (simp only [Act.put, Mem.pa, Mem.pb, Mem.pc])
   refine plan_skip zr zr ?_
   (simp only [Act.put, Mem.pa, Mem.pb, Mem.pc])
   refine plan_pick_f _ _ _ _ zr zr zr Mem.ev_a Mem.ev_a ?_
   (simp only [Act.put, Mem.pa, Mem.pb, Mem.pc])
   refine plan_nil ?_
   go_wp2_with fail
   go_ret
   exact ⟨_, rfl, ownV_sli (OwnV.below OO.out DRW.out), HB.out.trans ((BW.out.trans (DRW.out.mono BW.out.size)).mono HB.out.size)⟩
theorem rkids_any (p : Nat) (vL vF : Value) (z : Int) (w : World) (hR : RS w p vL vF) (h0 : 1 ≤ p) (h1 : p ≤ 216) : Calls Tryz.prog 43 #[.agg (rsC p vL vF), .int .i64 z] w (IEnd w (KZ p z)) := by
 unfold KZ
 by_cases h : (p : Int) ≤ z ∧ z < (itn p : Int)
 ·rw [if_pos h]
  obtain ⟨i, rfl⟩ : ∃ i : Nat, z = (i : Int) := ⟨z.toNat, by omega⟩
  exact rkids_some p vL vF i w hR h0 h1 (by omega) (by omega)
 ·rw [if_neg h]
  exact rkids_none p vL vF z w hR h
end Sha
end Go.Proofs.YtahcjnganedbiaaGreatDoor
