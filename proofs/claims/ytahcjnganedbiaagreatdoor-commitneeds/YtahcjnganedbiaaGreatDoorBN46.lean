/- The law CommitNeeds (written by comneeds.py). -/
import Derived.Test.YtahcjnganedbiaaGreatDoorBN44
import Derived.Test.YtahcjnganedbiaaGreatDoorBN45
import Derived.Test.YtahcjnganedbiaaGreatDoorBN41
import Derived.Test.YtahcjnganedbiaaGreatDoorBN40
import Derived.Test.YtahcjnganedbiaaGreatDoorBN39
import Derived.Test.YtahcjnganedbiaaGreatDoorBN04
import Derived.Test.YtahcjnganedbiaaGreatDoorBN16
namespace Go.Proofs.YtahcjnganedbiaaGreatDoor
namespace Sha
open Go.RowKit Mem
set_option maxRecDepth 100000
theorem buildNd1 (a : Option Addr) (l c : Nat) (wx : World) : (Instr.build 52 #[(1, .slice a l c)]).run Tryz.prog wx = .ok (.agg (ndRow 0 (.slice a l c))) wx := by
 unfold ndRow
 kernel_rfl
theorem buildNdR1 (a : Option Addr) (l c : Nat) (wx : World) : (Instr.build 54 #[(1, .slice a l c)]).run Tryz.prog wx = .ok (.agg (ndRow 0 (.slice a l c))) wx := by
 unfold ndRow
 kernel_rfl
theorem builtNdzR (z : Int) (a2 : Option Addr) (l c : Nat) : Tryz.prog.builtSlice 54 1 [(0, .agg (ndRow z (.slice a2 l c)))] = some (ndRow z (.slice a2 l c)) := by
 unfold ndRow
 kernel_rfl
theorem o_beq16 (m : Bool) (x y : Operand) (w : World) : (do eqGuard .eql 4 x y (.bool m) (.bool m); binOp .eql 4 (.bool m) (.bool m) : Sem Value).run Tryz.prog w = .ok (.bool true) w := by
 have h := run_equal_bool (P := Tryz.prog) w 4 m m Tryz.underlying4
 cases m <;> first | kernel_rfl | (simp [eqGuard, binOp, h])
def plN120 : Plan := .done
def plN121 : Plan := .sole 5 (.take 6 (.take 7 plN120))
def plN122 : Plan := .sole 2 plN121
def plN12A : Plan := (.take 0 (.take 1 (.take 3 (.take 4 plN122))))
set_option maxHeartbeats 60000000 in
theorem needs16_core (b : Nat) (N : List NdV) (C : List ChV) (vn vc : Value) (w : World) (hT : TT w) (hb : b < 256) (hn : SlNd w vn N) (hc : SlCh w vc C) (hwf : ∀ n ∈ N, ∀ r ∈ n.2, r.Wf) : Calls Tryz.prog 3 #[.int .u8 (b : Int), vn, vc] w (VEnd (.bool true) w) := by
 obtain ⟨p, hp⟩ : ∃ p, p = b % 14 + 1 := ⟨_, rfl⟩
 have h0 : 1 ≤ p := by omega
 have h1 : p ≤ 216 := by omega
 have fr := fun wx (h : Below w.heap.size w wx) => far16_any N C vn vc wx (hn.below h) (hc.below h)
 have live := fun wx (h : Below w.heap.size w wx) => alive16_any wx (hT.below h)
 have nw := fun wx => pnew_good p wx h0 h1
 have nr := fun wx => rnew_any p wx h0 h1
 have hfn := fun h => farC_no (N := N) (C := C) h
 have hnd : farC N C = false → NdWf N := fun h => ⟨by have := (farC_no h).1; omega, fun n hn => by have := (farC_no h).2.2.1 n hn; omega, hwf⟩
 have hp3 : (b : Int) % 14 + 1 = (p : Int) := by omega
 obtain ⟨an, cn, rfl⟩ := hn.hd
 obtain ⟨ac, cc, rfl⟩ := hc.hd
 obtain ⟨nN, hnN⟩ : ∃ n, n = N.length := ⟨_, rfl⟩
 obtain ⟨nC, hnC⟩ : ∃ n, n = C.length := ⟨_, rfl⟩
 rw [← hnN] at hn fr hfn ⊢
 rw [← hnC] at hc fr hfn ⊢
 have hx := zeroPS
 obtain ⟨PS, hPS⟩ : ∃ C, C = psC p := ⟨_, rfl⟩
 obtain ⟨Y, hYs⟩ : ∃ C, C = psC 0 := ⟨_, rfl⟩
 have cs : PS.size = 1 := by rw [hPS]; rfl
 have co : PS.all (·.oneCell') = true := by rw [hPS]; exact psC_one p
 have ys : Y.size = 1 := by rw [hYs]; rfl
 have hxr : ∀ w, (zeroValue 31).run Tryz.prog w = .ok (.agg (rsC 0 (.slice none 0 0) (.slice none 0 0))) w := zeroShR
 obtain ⟨YR, hYR⟩ : ∃ C, C = rsC 0 (.slice none 0 0) (.slice none 0 0) := ⟨_, rfl⟩
 have yrs : YR.size = 3 := by rw [hYR]; rfl
 rw [← hPS] at nw
 rw [← hYs] at hx
 rw [← hYR] at hxr
 obtain ⟨FQ, hFQ⟩ : ∃ q, q = farC N C := ⟨_, rfl⟩
 rw [← hFQ] at fr hfn hnd
 have FR := zh fr; have LIVE := zh live; have NW := zh nw; have NR := zh nr; have HFN := zh hfn; have HND := zh hnd; have CS := zh cs; have CO := zh co; have YS := zh ys; have YRS := zh yrs; have HVN := zh hn; have HVC := zh hc; have HNN := zh hnN; have HNC := zh hnC; have HPS := zh hPS; have HXR := zh hxr; have P14 : Hid (p ≤ 14) := zh (by omega)
 clear fr live nw nr hfn hnd cs co ys yrs hn hc hnN hnC hPS hYs hYR hxr hT hwf hFQ hp
 go_enter Tryz.func3, Tryz.ntmps3
 go_wp2_with fail
 clear hp3
 refine (NW.out _).mono ?_
 rintro e w1 ⟨rfl, hb1⟩
 have A1 := zh (at_new w1 PS 25); have B1 : Hid (Below w.heap.size w (w1.alloc (.cells PS 25))) := zh (hb1.alloc hb1.size _)
 clear hb1
 go_upto_region 3 with (refine wpList_store_new zr 25 _ _ zr zr PS _ _ zr zr (by rw [CS.out]; exact infoPS) (by rw [YS.out, CS.out]) CO.out ?_)
 clear hx
 obtain ⟨bs, hbs⟩ : ∃ b, b = w1.heap.size := ⟨_, rfl⟩
 rw [← hbs] at A1 ⊢
 clear hbs
 generalize w1.alloc (.cells PS 25) = w2 at *
 go_wp2_with fail
 refine (NR.out _).mono ?_
 rintro e w3 ⟨vL, vF, rfl, hrs, hb3⟩
 obtain ⟨aL, cL, rfl⟩ := hrs.l.hd
 obtain ⟨aF, cF, rfl⟩ := hrs.f.hd
 obtain ⟨HH, hHH⟩ : ∃ H, H = rsC p (.slice aL (zL p).length cL) (.slice aF (fstL p (itn p)).length cF) := ⟨_, rfl⟩
 have hs : HH.size = 3 := by rw [hHH]; rfl
 have ho : HH.all (·.oneCell') = true := by rw [hHH]; exact rsC_one _ _ _ _ _ _ _
 rw [← hHH]
 have HHE := zh hHH; have HS := zh hs; have HO := zh ho
 have A3 := zh ((A1.out.below hb3 A1.out.lt).alloc (.cells HH 31)); have H3 := zh (at_new w3 HH 31)
 have hb4 : Below w3.heap.size w3 (w3.alloc (.cells HH 31)) := (Below.refl _ _).alloc (Nat.le_refl _) _
 have R3 := zh (hrs.below hb4)
 have B3 : Hid (Below w.heap.size w (w3.alloc (.cells HH 31))) := zh ((B1.out.trans (hb3.mono B1.out.size)).alloc ((B1.out.trans (hb3.mono B1.out.size)).size) _)
 have hxr := HXR.out
 clear hb3 hb4 hrs hHH hs ho A1 B1
 go_upto_region 4 with (refine wpList_store_new zr 31 _ _ zr zr HH _ _ zr zr (by rw [HS.out]; exact infoRS) (by rw [YRS.out, HS.out]) HO.out ?_)
 clear hxr
 obtain ⟨bh, hbh⟩ : ∃ b, b = w3.heap.size := ⟨_, rfl⟩
 rw [← hbh] at H3 ⊢
 clear hbh
 generalize w3.alloc (.cells HH 31) = w4 at *
 go_wp2_with fail
 refine (FR.out _ B3.out).mono ?_
 rintro e w5 ⟨rfl, hb5⟩
 have B5 : Hid (Below w.heap.size w w5) := zh (B3.out.trans (hb5.mono B3.out.size))
 have A5 := zh (A3.out.below hb5 A3.out.lt); have H5 := zh (H3.out.below hb5 H3.out.lt); have R5 := zh (R3.out.below hb5)
 clear hb5 A3 H3 R3 B3
 cases FQ with
 | true =>
  go_wp2_with fail
  refine (LIVE.out _ B5.out).mono ?_
  rintro e wz ⟨rfl, hbz⟩
  have BZ : Hid (Below w.heap.size w wz) := zh (B5.out.trans (hbz.mono B5.out.size))
  clear hbz
  go_wp2_with fail
  go_ret
  exact ⟨rfl, BZ.out⟩
 | false =>
  have ND := zh (HND.out rfl)
  obtain ⟨hl60, hl20, _, _⟩ := HFN.out rfl
  clear HND HFN
  have hpg : (pgsC C).length ≤ 1000 := by rw [pgsC_length]; have := HNC.out; omega
  have hcl : C.length ≤ 1000 := by have := HNC.out; omega
  have hfl : (fullC C).length ≤ 1000 := by rw [fullC_length]; exact hcl
  have V5 := zh (HVN.out.below B5.out); have C5 := zh (HVC.out.below B5.out)
  have nd : ∀ vx wx, SlI wx vx (pgsC C) → Calls Tryz.prog 10 #[.agg PS, vx] wx (OIEnd wx (needI p (pgsC C))) := fun vx wx h => by rw [HPS.out]; exact pneed_any p (pgsC C) vx wx h h1 hpg
  have rnd : ∀ vx wx, Below w5.heap.size w5 wx → SlI wx vx (pgsC C) → Calls Tryz.prog 11 #[.agg HH, vx] wx (OIEnd wx (needI p (pgsC C))) := fun vx wx hb h => by rw [HHE.out]; exact rneed16_any p _ _ (pgsC C) vx wx (R5.out.below hb) h0 h1 h hpg
  have itm : ∀ wx, Calls Tryz.prog 12 #[.agg PS] wx (VEnd (.int .i64 (itn p : Nat)) wx) := fun wx => by rw [HPS.out]; exact pitems_any p wx h1
  have th : ∀ wx, Below w5.heap.size w5 wx → Calls Tryz.prog 14 #[.slice an nN cn] wx (fun e w' => ∃ v', e = .returned v' ∧ SlNd w' v' N ∧ Below wx.heap.size wx w') := fun wx hb => theirs16_any N _ wx (V5.out.below hb) ND.out
  have ch : ∀ wx, Below w5.heap.size w5 wx → Calls Tryz.prog 18 #[.slice ac nC cc] wx (fun e w' => ∃ v', e = .returned v' ∧ SlCh w' v' C ∧ Below wx.heap.size wx w') := fun wx hb => changed16_any C _ wx (C5.out.below hb) hcl
  have chf : ∀ v wx, SlCh wx v (fullC C) → Calls Tryz.prog 18 #[v] wx (fun e w' => ∃ v', e = .returned v' ∧ SlCh w' v' (fullC C) ∧ Below wx.heap.size wx w') := fun v wx h => changed16_any (fullC C) v wx h hfl
  have fu : ∀ wx, Below w5.heap.size w5 wx → Calls Tryz.prog 20 #[.slice ac nC cc] wx (fun e w' => ∃ v', e = .returned v' ∧ SlCh w' v' (fullC C) ∧ Below wx.heap.size wx w') := fun wx hb => full16_any C _ wx (C5.out.below hb) hcl
  have fd : ∀ (z : Int) v wx, SlNd wx v N → Calls Tryz.prog 13 #[v, .int .i64 z] wx (FdEnd wx (findD N z) (findT N z).isSome) := fun z v wx h => pfind_any N z v wx h ND.out
  have rf : ∀ (z : Int) wx, Below w5.heap.size w5 wx → Calls Tryz.prog 15 #[.slice an nN cn, .int .i64 z] wx (RFd wx (findD N z) (findT N z).isSome) := fun z wx hb => rfind16_any N z _ wx (V5.out.below hb) ND.out.n
  have fw := fun z => findD_wf ND.out.w z
  have fle := fun z => findD_le ND.out z
  have my : ∀ v u wx, SlNd wx v N → SlCh wx u C → Calls Tryz.prog 17 #[.agg PS, v, u] wx (VEnd (.bool (mayT p N C)) wx) := fun v u wx hv hu => by rw [HPS.out]; exact pmay_any p N C v u wx hv hu ND.out h1 hcl
  have myf : ∀ v u wx, SlNd wx v N → SlCh wx u (fullC C) → Calls Tryz.prog 17 #[.agg PS, v, u] wx (VEnd (.bool (mayT p N (fullC C))) wx) := fun v u wx hv hu => by rw [HPS.out]; exact pmay_any p N (fullC C) v u wx hv hu ND.out h1 hfl
  have rm : ∀ wx, Below w5.heap.size w5 wx → Calls Tryz.prog 19 #[.agg HH, .slice an nN cn, .slice ac nC cc] wx (VEnd (.bool (mayT p N C)) wx) := fun wx hb => by rw [HHE.out]; exact rmay16_any p _ _ N C _ _ wx (R5.out.below hb) (V5.out.below hb) (C5.out.below hb) ND.out h0 h1 hcl
  have rmf : ∀ u wx, Below w5.heap.size w5 wx → SlCh wx u (fullC C) → Calls Tryz.prog 19 #[.agg HH, .slice an nN cn, u] wx (VEnd (.bool (mayT p N (fullC C))) wx) := fun u wx hb hu => by rw [HHE.out]; exact rmay16_any p _ _ N (fullC C) _ _ wx (R5.out.below hb) (V5.out.below hb) hu ND.out h0 h1 hfl
  have lv : ∀ wx, Below w5.heap.size w5 wx → Calls Tryz.prog 9 #[] wx (VEnd (.bool true) wx) := fun wx hb => LIVE.out wx (B5.out.trans (hb.mono B5.out.size))
  have sm : ∀ z va vb wx, SlNd wx va [(0, findD N z)] → SlNd wx vb [(0, findD N z)] → Calls Tryz.prog 16 #[va, vb] wx (VEnd (.bool true) wx) := fun z va vb wx ha hb => same16_any _ va vb wx ha hb ⟨by simp, fun x hx => by rw [List.mem_singleton.1 hx]; exact fle z, fun x hx => by rw [List.mem_singleton.1 hx]; exact fw z⟩
  obtain ⟨MV, hMV⟩ : ∃ m, m = mayT p N C := ⟨_, rfl⟩
  obtain ⟨MF, hMF⟩ : ∃ m, m = mayT p N (fullC C) := ⟨_, rfl⟩
  rw [← hMV] at my rm
  rw [← hMF] at myf rmf
  obtain ⟨KS, hKS⟩ : ∃ K, K = needI p (pgsC C) := ⟨_, rfl⟩
  rw [← hKS] at nd rnd
  have hk9 : KS.length ≤ 259 := by rw [hKS]; exact needI_len p _ h1
  have hi9 := itn_le259 p h1
  obtain ⟨IT, hIT⟩ : ∃ n, n = itn p := ⟨_, rfl⟩
  rw [← hIT] at itm hi9
  have htk := fun j hj => pgsC_take C j hj
  have hall : (pgsC C).take C.length = pgsC C := by rw [← pgsC_length C]; exact List.take_length
  have htl : ∀ j, j ≤ C.length → ((pgsC C).take j).length = j := fun j hj => by rw [List.length_take, pgsC_length]; omega
  rw [← HNC.out] at htk hall htl
  obtain ⟨PG, hPG⟩ : ∃ P, P = pgsC C := ⟨_, rfl⟩
  rw [← hPG] at nd rnd htk hall htl
  have NDD := zh nd; have RND := zh rnd; have ITM := zh itm; have TH := zh th; have CH := zh ch; have CHF := zh chf; have FU := zh fu; have FD := zh fd; have RF := zh rf; have FWW := zh fw; have MY := zh my; have MYF := zh myf; have RM := zh rm; have RMF := zh rmf; have LV := zh lv; have SM := zh sm; have TK := zh htk; have ALL := zh hall; have TL := zh htl
  clear nd rnd itm th ch chf fu fd rf fw fle my myf rm rmf lv sm htk hall htl hPG hIT hKS hMV hMF hpg hcl hfl LIVE NW NR
  go_upto_region 8 with fail
  go_loopw [12, 51] (fun vo vi wr => ∃ j : Nat, j ≤ nC ∧ vi = .int .i64 (j : Int) ∧ OwnV wr w5.heap.size 3 vo (iz (PG.take j)) ∧ Below w5.heap.size w5 wr) (fun _ vi _ => nC - (intOf vi).toNat)
  case atStart => exact ⟨0, by omega, rfl, by rw [List.take_zero]; exact World.ownsRow_nil _ _ _ _, Below.refl _ _⟩
  case round =>
   obtain ⟨j, hj, rfl, ho, hbw⟩ := hrel
   have OW := zh ho; have BW := zh hbw; have VW := zh (C5.out.below hbw)
   have hl5 : (iz (PG.take j)).length = j := by rw [iz_length, TL.out j hj]
   have L5 := zh hl5
   clear ho hbw hl5
   obtain ⟨a5, c5, rfl, _⟩ := OwnV.open OW.out
   rw [L5.out] at OW ⊢
   by_cases hlt : j < nC
   ·have hlt' : (j : Int) < (nC : Int) := by omega
    obtain ⟨b1, o1, u, e1, hlb, cz0, cu0, hsu⟩ := slch_at (i := j) VW.out HNC.out hlt
    subst e1
    have htk := TK.out j hlt
    obtain ⟨x, hx⟩ : ∃ x, x = (C.getD j zch).2 := ⟨_, rfl⟩
    obtain ⟨z, hz⟩ : ∃ z, z = (C.getD j zch).1 := ⟨_, rfl⟩
    rw [← hz] at htk cz0
    rw [← hx] at hsu
    obtain ⟨a3, cap3, rfl⟩ := sl_inv hsu
    obtain ⟨m, hm⟩ : ∃ m, m = x.length := ⟨_, rfl⟩
    rw [← hm] at cu0
    have A8 := zh (at_new wr (chRow z (.slice a3 m cap3)) 38)
    have B8 : Hid (Below w5.heap.size w5 (wr.alloc (.cells (chRow z (.slice a3 m cap3)) 38))) := zh (BW.out.alloc BW.out.size _)
    have O8 : Hid (OwnV (wr.alloc (.cells (chRow z (.slice a3 m cap3)) 38)) w5.heap.size 3 (.slice a5 j c5) (iz (PG.take j))) := zh (World.ownsRow.alloc OW.out _)
    have HTK := zh htk
    clear htk hsu hx hz hm hlb
    go_upto_region 10 with (refine wpList_store_new zr 38 _ _ zr zr (chRow z (.slice a3 m cap3)) _ _ zr zr (by exact infoChR) zr (chRow_one _ _ _ _) ?_)
    clear cz0 cu0
    obtain ⟨bx, hbx⟩ : ∃ bx, bx = wr.heap.size := ⟨_, rfl⟩
    rw [← hbx] at A8 ⊢
    clear hbx
    generalize wr.alloc (.cells (chRow z (.slice a3 m cap3)) 38) = w8 at *
    have c0 : w8.cell? ⟨bx, 0, none⟩ = some (.int .i64 z) := (A8.out.cell 0).trans rfl
    go_wp2_with (at_builtin; refine wpList_append_lit zr _ _ 29 zr (.int .i64 z) (.int .i64 0) 8 elemInt zr zr O8.out zr zr (by rw [L5.out]; omega) (by rw [L5.out]; omega) (B8.out.size) ?_; intro v6 w6 ho6 _ hb6 _; have O6 : Hid (OwnV w6 w5.heap.size 3 v6 (iz (PG.take (j + 1)))) := zh (by rw [HTK.out, iz_snoc]; exact ho6); have B6 : Hid (Below w5.heap.size w5 w6) := zh (B8.out.trans hb6); clear ho6 hb6 c0)
    go_roundw
    case rel => exact ⟨j + 1, by omega, by go_num, O6.out, B6.out⟩
    case measure => simp [intOf]; omega
   ·have hjn : j = nC := by omega
    have hge : ¬ (j : Int) < (nC : Int) := by omega
    have O6 : Hid (SlI wr (.slice a5 j c5) PG) := zh (ownV_sli (by rw [← ALL.out, ← hjn]; exact OW.out))
    have A6 := zh (A5.out.below BW.out A5.out.lt); have H6 := zh (H5.out.below BW.out H5.out.lt)
    clear hjn OW VW L5
    go_upto_region 12 with fail
    go_cut [15, 16] (fun s t wx => SlI wx s KS ∧ SlI wx t KS ∧ Below wr.heap.size wr wx)
    case first =>
     refine wp_region_plan_in (fun x' => Below wr.heap.size wr x') plN12A (by kernel_rfl) (by kernel_rfl) (by kernel_rfl) (Below.refl _ _).drew ?_
     refine plan_row 25 _ bs _ PS 25 zr zr zr Mem.ev_a (fun w' hw' => A6.out.below hw' A6.out.lt) Tryz.underlying25 zr (by rw [CS.out]; exact infoPS) ?_
     (simp only [Act.put, Mem.pa, Mem.pb, Mem.pc])
     (first | refine Mem.pm1 ?_ | refine Mem.pm2 ?_ | refine Mem.pt ?_ | refine Mem.pf ?_)
     (simp only [Act.put, Mem.pa, Mem.pb, Mem.pc])
     refine plan_row 31 _ bh _ HH 31 zr zr zr Mem.ev_a (fun w' hw' => H6.out.below hw' H6.out.lt) Tryz.underlying31 zr (by rw [HS.out]; exact infoRS) ?_
     (simp only [Act.put, Mem.pa, Mem.pb, Mem.pc])
     (first | refine Mem.pm1 ?_ | refine Mem.pm2 ?_ | refine Mem.pt ?_ | refine Mem.pf ?_)
     (simp only [Act.put, Mem.pa, Mem.pb, Mem.pc])
     refine plan_act ?_
     intro a0 ha0
     refine plan_lem (fun a w' => ∃ v63 v66 : Value, a = setA a0 [(63, v63), (66, v66), (15, v63), (16, v66)] ∧ SlI w' v63 KS ∧ SlI w' v66 KS ∧ Below wr.heap.size wr w') plN120 ?_ (fun TplN120 => ?_)
     ·rintro ax wx ⟨v63, v66, rfl, f2, f5, hB⟩
      have F2 := zh f2
      have F5 := zh f5
      have HB0 := zh hB
      clear f2 f5 hB
      rw [ha0]
      (simp only [setA, List.foldl_cons, List.foldl_nil, List.setIfInBounds_toArray, List.set_cons_zero, List.set_cons_succ])
      refine plan_nil ?_
      go_wp2_with fail
      go_meet
      exact ⟨F2.out, F5.out, HB0.out⟩
     refine plan_lem (fun a w' => ∃ v63 : Value, a = setA a0 [(63, v63)] ∧ SlI w' v63 KS ∧ Below wr.heap.size wr w') plN121 ?_ (fun TplN121 => ?_)
     ·rintro ax wx ⟨v63, rfl, f2, hB⟩
      have F2 := zh f2
      have HB0 := zh hB
      clear f2 hB
      rw [ha0]
      (simp only [setA, List.foldl_cons, List.foldl_nil, List.setIfInBounds_toArray, List.set_cons_zero, List.set_cons_succ])
      refine plan_call 11 _ _ _ (by kernel_rfl) zr zr zr (by first | exact Mem.ev_none _ | (simp only [List.map_toArray, List.map_cons, List.map_nil, Mem.ev_tmp, List.getD_cons_succ, List.getD_cons_zero] <;> rfl)) ?_
      refine (RND.out _ wx (BW.out.trans (HB0.out.mono BW.out.size)) (O6.out.below HB0.out)).mono ?_
      rintro e' wy ⟨v66, rfl, hf, hby⟩
      have F5 := zh (ownV_sli hf)
      have F2 := zh (SlI.below F2.out hby)
      have HB0 : Hid (Below wr.heap.size wr wy) := zh (HB0.out.trans (hby.mono HB0.out.size))
      clear hf hby
      refine ⟨_, rfl, HB0.out, ?_⟩
      (simp only [Act.put, Mem.pa, Mem.pb, Mem.pc])
      (first | refine Mem.pm1 ?_ | refine Mem.pm2 ?_ | refine Mem.pt ?_ | refine Mem.pf ?_)
      (simp only [Act.put, Mem.pa, Mem.pb, Mem.pc])
      (first | refine Mem.pm1 ?_ | refine Mem.pm2 ?_ | refine Mem.pt ?_ | refine Mem.pf ?_)
      (simp only [Act.put, Mem.pa, Mem.pb, Mem.pc])
      exact TplN120 _ _ ⟨v63, v66, by rw [ha0]; rfl, F2.out, F5.out, HB0.out⟩
     have HB0 : Hid (Below wr.heap.size wr wr.drew) := zh (Below.refl _ _).drew
     obtain ⟨wx, hwx⟩ : ∃ y, y = wr.drew := ⟨_, rfl⟩
     rw [← hwx] at HB0 ⊢
     clear hwx
     rw [ha0]
     refine plan_call 10 _ _ _ (by kernel_rfl) zr zr zr (by first | exact Mem.ev_none _ | (simp only [List.map_toArray, List.map_cons, List.map_nil, Mem.ev_tmp, List.getD_cons_succ, List.getD_cons_zero] <;> rfl)) ?_
     refine (NDD.out _ wx (O6.out.below HB0.out)).mono ?_
     rintro e' wy ⟨v63, rfl, hf, hby⟩
     have F2 := zh (ownV_sli hf)
     have HB0 : Hid (Below wr.heap.size wr wy) := zh (HB0.out.trans (hby.mono HB0.out.size))
     clear hf hby
     refine ⟨_, rfl, HB0.out, ?_⟩
     (simp only [Act.put, Mem.pa, Mem.pb, Mem.pc])
     exact TplN121 _ _ ⟨v63, by rw [ha0]; rfl, F2.out, HB0.out⟩
    case rest =>
     obtain ⟨h15, h16, hbc⟩ := hcut
     have S15 := zh h15; have S16 := zh h16; have BC := zh (BW.out.trans (hbc.mono BW.out.size))
     obtain ⟨a15, c15, e15⟩ := h15.hd
     subst e15
     obtain ⟨a16, c16, e16⟩ := h16.hd
     subst e16
     obtain ⟨n, hn⟩ : ∃ n, n = KS.length := ⟨_, rfl⟩
     rw [← hn] at S15 S16 hk9 ⊢
     have HN := zh hn
     clear h15 h16 hbc hn O6 A6 H6 BW
     go_wp2_with fail
     go_loopw [74] (fun vi wr => ∃ j : Nat, j ≤ n ∧ vi = .int .i64 (j : Int) ∧ Below wc.heap.size wc wr) (fun vi _ => n - (intOf vi).toNat)
     case atStart => exact ⟨0, by omega, rfl, Below.refl _ _⟩
     case round =>
      obtain ⟨j, hj, rfl, hbw⟩ := hrel
      by_cases hlt : j < n
      ·have hlt' : (j : Int) < (n : Int) := by omega
       have BW := zh hbw
       obtain ⟨b1, o1, e1, hlb1, cz1⟩ := sli_at (i := j) (S15.out.below hbw) HN.out hlt
       subst e1
       obtain ⟨b2, o2, e2, hlb2, cz2⟩ := sli_at (i := j) (S16.out.below hbw) HN.out hlt
       subst e2
       obtain ⟨x, hx⟩ : ∃ x, x = KS.getD j 0 := ⟨_, rfl⟩
       rw [← hx] at cz1 cz2
       have L1 := zh hlb1; have L2 := zh hlb2; have Z1 := zh cz1; have Z2 := zh cz2
       clear hlb1 hlb2 cz1 cz2 hx hbw
       go_upto_region 18 with fail
       refine wp_region_plan_in (fun x' => Below wr.heap.size wr x') (.take 0 (.take 1 (.take 2 (.take 3 (.take 4 (.take 5 (.take 6 (.take 7 (.take 8 .done))))))))) (by kernel_rfl) (by kernel_rfl) (by kernel_rfl) (Below.refl _ _).drew ?_
       (first | refine Mem.pm1 ?_ | refine Mem.pm2 ?_ | refine Mem.pt ?_ | refine Mem.pf ?_)
       (simp only [Act.put, Mem.pa, Mem.pb, Mem.pc])
       (first | refine Mem.pm1 ?_ | refine Mem.pm2 ?_ | refine Mem.pt ?_ | refine Mem.pf ?_)
       (simp only [Act.put, Mem.pa, Mem.pb, Mem.pc])
       refine plan_index 29 3 _ _ b1 o1 n c15 j zr zr zr Mem.ev_a Mem.ev_a (by omega) Tryz.underlying29 (by kernel_rfl) ?_
       (simp only [Act.put, Mem.pa, Mem.pb, Mem.pc])
       refine plan_cell 3 _ _ (.int .i64 x) _ zr zr zr Mem.ev_a (fun w' hw' => (hw'.cell (p := ⟨b1, o1 + j, none⟩) L1.out).trans Z1.out) Tryz.underlying3 zr ?_
       (simp only [Act.put, Mem.pa, Mem.pb, Mem.pc])
       (first | refine Mem.pm1 ?_ | refine Mem.pm2 ?_ | refine Mem.pt ?_ | refine Mem.pf ?_)
       (simp only [Act.put, Mem.pa, Mem.pb, Mem.pc])
       (first | refine Mem.pm1 ?_ | refine Mem.pm2 ?_ | refine Mem.pt ?_ | refine Mem.pf ?_)
       (simp only [Act.put, Mem.pa, Mem.pb, Mem.pc])
       refine plan_index 29 3 _ _ b2 o2 n c16 j zr zr zr Mem.ev_a Mem.ev_a (by omega) Tryz.underlying29 (by kernel_rfl) ?_
       (simp only [Act.put, Mem.pa, Mem.pb, Mem.pc])
       refine plan_cell 3 _ _ (.int .i64 x) _ zr zr zr Mem.ev_a (fun w' hw' => (hw'.cell (p := ⟨b2, o2 + j, none⟩) L2.out).trans Z2.out) Tryz.underlying3 zr ?_
       (simp only [Act.put, Mem.pa, Mem.pb, Mem.pc])
       refine plan_bin _ _ _ _ _ _ _ (.bool false) zr zr zr Mem.ev_a Mem.ev_a (fun wx => o_ine _ _ _ _ _ wx) ?_
       (simp only [Act.put, Mem.pa, Mem.pb, Mem.pc])
       refine plan_nil ?_
       have B9 : Hid (Below wc.heap.size wc wr.drew) := zh BW.out.drew
       go_wp2_with fail
       go_roundw
       case rel => exact ⟨j + 1, by omega, by go_num, B9.out⟩
       case measure => simp [intOf]; omega
      ·have hjn : j = n := by omega
       have hge : ¬ (j : Int) < (n : Int) := by omega
       have BW : Hid (Below w5.heap.size w5 wr) := zh (BC.out.trans (hbw.mono BC.out.size))
       have A7 := zh (A5.out.below BW.out A5.out.lt)
       clear hjn hbw S15 S16
       go_wp2_with (refine wpList_load_all zr 25 _ zr bs zr _ Tryz.underlying25 zr PS _ A7.out (by rw [CS.out]; exact infoPS) ?_)
       refine (ITM.out _).mono ?_
       rintro e w7 ⟨rfl, hb7⟩
       have B7 := zh (BW.out.trans (hb7.mono BW.out.size))
       clear hb7 A7 BW BC
       go_wp2_with fail
       go_loopw [90] (fun vi wr => ∃ k : Nat, k ≤ IT + 1 ∧ vi = .int .i64 (k : Int) ∧ Below w5.heap.size w5 wr) (fun vi _ => IT + 1 - (intOf vi).toNat)
       case atStart => exact ⟨0, by omega, rfl, B7.out⟩
       case round =>
        obtain ⟨k, hk, rfl, hbw⟩ := hrel
        have BW := zh hbw
        clear hbw
        by_cases hlt : k < IT + 1
        ·have hlt' : (k : Int) < (IT : Int) + 1 := by omega
         have fdk := fun v wx h => FD.out (k : Int) v wx h
         have rfk := fun wx h => RF.out (k : Int) wx h
         have fwk := FWW.out (k : Int)
         have smk := fun va vb wx ha hb => SM.out (k : Int) va vb wx ha hb
         obtain ⟨X, hX⟩ : ∃ X, X = findD N (k : Int) := ⟨_, rfl⟩
         obtain ⟨q, hq⟩ : ∃ q, q = (findT N (k : Int)).isSome := ⟨_, rfl⟩
         rw [← hX, ← hq] at fdk rfk
         rw [← hX] at fwk smk
         have FDK := zh fdk; have RFK := zh rfk; have FWK := zh fwk; have SMK := zh smk
         clear fdk rfk fwk smk hX hq
         go_wp2_with fail
         refine (TH.out _ BW.out).mono ?_
         rintro e w8 ⟨v8, rfl, hs8, hb8⟩
         have B8 := zh (BW.out.trans (hb8.mono BW.out.size)); have S8 := zh hs8
         clear hs8 hb8
         go_wp2_with fail
         refine (FDK.out _ _ S8.out).mono ?_
         rintro e w9 ⟨v9, rfl, ho9, hb9⟩
         have S9 := zh (own_slrf ho9 FWK.out); have B9 := zh (B8.out.trans (hb9.mono B8.out.size))
         clear ho9 hb9 S8
         go_wp2_with fail
         refine (RFK.out _ B9.out).mono ?_
         rintro e w10 ⟨v10, rfl, hs10, hb10⟩
         have S10 := zh hs10; have T10 := zh (S9.out.below hb10); have B10 := zh (B9.out.trans (hb10.mono B9.out.size))
         clear hs10 hb10 S9
         obtain ⟨a9, c9, e9⟩ := T10.out.hd
         subst e9
         obtain ⟨a10, c10, e10⟩ := S10.out.hd
         subst e10
         obtain ⟨l, hl⟩ : ∃ l, l = X.length := ⟨_, rfl⟩
         rw [← hl] at S10 T10 ⊢
         clear hl
         have BA := zh (buildNd1 a9 l c9); have BB := zh (buildNdR1 a10 l c10)
         have BS := zh (builtNdz 0 a9 l c9); have BT := zh (builtNdzR 0 a10 l c10)
         clear FDK RFK
         cases q with
         | true =>
          go_wp2_with (first
           | (refine wpList_unguard zr ?_; refine Mem.wpList_build zr 52 _ #[(1, .slice a9 l c9)] (.agg (ndRow 0 (.slice a9 l c9))) zr (by first | rfl | simp [Act.eval]) (fun wx => BA.out wx) ?_)
           | (refine wpList_unguard zr ?_; refine Mem.wpList_build zr 54 _ #[(1, .slice a10 l c10)] (.agg (ndRow 0 (.slice a10 l c10))) zr (by first | rfl | simp [Act.eval]) (fun wx => BB.out wx) ?_)
           | (refine wpList_unguard zr ?_; refine Go.Great.wpList_buildSliceTo zr 45 52 1 _ zr _ zr _ zr Tryz.underlying45 (ndRow 0 (.slice a9 l c9)) (by first | (simp [Act.eval, Act.put]; exact BS.out) | (go_simp; exact BS.out) | (simp only [List.map_toArray, List.map_cons, List.map_nil]; exact BS.out)) ?_)
           | (refine wpList_unguard zr ?_; refine Go.Great.wpList_buildSliceTo zr 22 54 1 _ zr _ zr _ zr Tryz.underlying22 (ndRow 0 (.slice a10 l c10)) (by first | (simp [Act.eval, Act.put]; exact BT.out) | (go_simp; exact BT.out) | (simp only [List.map_toArray, List.map_cons, List.map_nil]; exact BT.out)) ?_))
          have hz : (w10.alloc (.cells (ndRow 0 (.slice a9 l c9)) 52)).heap.size = w10.heap.size + 1 := by simp
          have hq1 : Below w10.heap.size w10 (w10.alloc (.cells (ndRow 0 (.slice a9 l c9)) 52)) := (Below.refl _ _).alloc (Nat.le_refl _) _
          have hp1 := at_new w10 (ndRow 0 (.slice a9 l c9)) 52
          have TA := zh (T10.out.below hq1); have SA := zh (S10.out.below hq1)
          generalize w10.alloc (.cells (ndRow 0 (.slice a9 l c9)) 52) = wA at *
          have hq2 : Below wA.heap.size wA (wA.alloc (.cells (ndRow 0 (.slice a10 l c10)) 54)) := (Below.refl _ _).alloc (Nat.le_refl _) _
          have hp2 := at_new wA (ndRow 0 (.slice a10 l c10)) 54
          have NA := zh (slnd_one (hp1.below hq2 hp1.lt) (TA.out.below hq2)); have NB := zh (slnd_one hp2 (SA.out.below hq2))
          have BD := zh (hq1.trans (hq2.mono hq1.size))
          rw [hz] at NB
          generalize wA.alloc (.cells (ndRow 0 (.slice a10 l c10)) 54) = wB at *
          clear hp1 hp2 hq1 hq2 hz
          refine (SMK.out _ _ _ NA.out NB.out).mono ?_
          rintro e w11 ⟨rfl, hb11⟩
          have B11 := zh (B10.out.trans ((BD.out.trans (hb11.mono BD.out.size)).mono B10.out.size))
          clear hb11
          go_wp2_with fail
          go_roundw
          case rel => exact ⟨k + 1, by omega, by go_num, B11.out⟩
          case measure => simp [intOf]; omega
         | false =>
          go_wp2_with (first
           | (refine wpList_unguard zr ?_; refine Mem.wpList_build zr 52 _ #[(1, .slice a9 l c9)] (.agg (ndRow 0 (.slice a9 l c9))) zr (by first | rfl | simp [Act.eval]) (fun wx => BA.out wx) ?_)
           | (refine wpList_unguard zr ?_; refine Mem.wpList_build zr 54 _ #[(1, .slice a10 l c10)] (.agg (ndRow 0 (.slice a10 l c10))) zr (by first | rfl | simp [Act.eval]) (fun wx => BB.out wx) ?_)
           | (refine wpList_unguard zr ?_; refine Go.Great.wpList_buildSliceTo zr 45 52 1 _ zr _ zr _ zr Tryz.underlying45 (ndRow 0 (.slice a9 l c9)) (by first | (simp [Act.eval, Act.put]; exact BS.out) | (go_simp; exact BS.out) | (simp only [List.map_toArray, List.map_cons, List.map_nil]; exact BS.out)) ?_)
           | (refine wpList_unguard zr ?_; refine Go.Great.wpList_buildSliceTo zr 22 54 1 _ zr _ zr _ zr Tryz.underlying22 (ndRow 0 (.slice a10 l c10)) (by first | (simp [Act.eval, Act.put]; exact BT.out) | (go_simp; exact BT.out) | (simp only [List.map_toArray, List.map_cons, List.map_nil]; exact BT.out)) ?_))
          have hz : (w10.alloc (.cells (ndRow 0 (.slice a9 l c9)) 52)).heap.size = w10.heap.size + 1 := by simp
          have hq1 : Below w10.heap.size w10 (w10.alloc (.cells (ndRow 0 (.slice a9 l c9)) 52)) := (Below.refl _ _).alloc (Nat.le_refl _) _
          have hp1 := at_new w10 (ndRow 0 (.slice a9 l c9)) 52
          have TA := zh (T10.out.below hq1); have SA := zh (S10.out.below hq1)
          generalize w10.alloc (.cells (ndRow 0 (.slice a9 l c9)) 52) = wA at *
          have hq2 : Below wA.heap.size wA (wA.alloc (.cells (ndRow 0 (.slice a10 l c10)) 54)) := (Below.refl _ _).alloc (Nat.le_refl _) _
          have hp2 := at_new wA (ndRow 0 (.slice a10 l c10)) 54
          have NA := zh (slnd_one (hp1.below hq2 hp1.lt) (TA.out.below hq2)); have NB := zh (slnd_one hp2 (SA.out.below hq2))
          have BD := zh (hq1.trans (hq2.mono hq1.size))
          rw [hz] at NB
          generalize wA.alloc (.cells (ndRow 0 (.slice a10 l c10)) 54) = wB at *
          clear hp1 hp2 hq1 hq2 hz
          refine (SMK.out _ _ _ NA.out NB.out).mono ?_
          rintro e w11 ⟨rfl, hb11⟩
          have B11 := zh (B10.out.trans ((BD.out.trans (hb11.mono BD.out.size)).mono B10.out.size))
          clear hb11
          go_wp2_with fail
          go_roundw
          case rel => exact ⟨k + 1, by omega, by go_num, B11.out⟩
          case measure => simp [intOf]; omega
        ·have hge : ¬ (k : Int) < (IT : Int) + 1 := by omega
         have A9 := zh (A5.out.below BW.out A5.out.lt); have H9 := zh (H5.out.below BW.out H5.out.lt)
         go_upto_region 29 with fail
         have HB0 : Hid (Below wr.heap.size wr wr.drew) := zh (Below.refl _ _).drew
         refine wp_region_plan_in (fun x' => Below wr.heap.size wr x') (.take 0 (.take 1 (.take 3 (.take 6 (.take 7 (.take 8 (.sole 2 (.sole 4 (.sole 5 (.sole 9 (.take 10 (.take 11 (.take 12 (.take 13 (.take 15 (.take 19 (.take 20 (.take 21 (.sole 14 (.sole 16 (.sole 17 (.sole 18 (.sole 22 (.sole 23 (.take 24 (.take 25 (.take 26 (.sole 27 (.take 28 (.take 29 .done)))))))))))))))))))))))))))))) (by kernel_rfl) (by kernel_rfl) (by kernel_rfl) (Below.refl _ _).drew ?_
         refine plan_row 25 _ bs _ PS 25 zr zr zr Mem.ev_a (fun w' hw' => A9.out.below hw' A9.out.lt) Tryz.underlying25 zr (by rw [CS.out]; exact infoPS) ?_
         (simp only [Act.put, Mem.pa, Mem.pb, Mem.pc])
         (first | refine Mem.pm1 ?_ | refine Mem.pm2 ?_ | refine Mem.pt ?_ | refine Mem.pf ?_)
         (simp only [Act.put, Mem.pa, Mem.pb, Mem.pc])
         (first | refine Mem.pm1 ?_ | refine Mem.pm2 ?_ | refine Mem.pt ?_ | refine Mem.pf ?_)
         (simp only [Act.put, Mem.pa, Mem.pb, Mem.pc])
         refine plan_row 31 _ bh _ HH 31 zr zr zr Mem.ev_a (fun w' hw' => H9.out.below hw' H9.out.lt) Tryz.underlying31 zr (by rw [HS.out]; exact infoRS) ?_
         (simp only [Act.put, Mem.pa, Mem.pb, Mem.pc])
         (first | refine Mem.pm1 ?_ | refine Mem.pm2 ?_ | refine Mem.pt ?_ | refine Mem.pf ?_)
         (simp only [Act.put, Mem.pa, Mem.pb, Mem.pc])
         (first | refine Mem.pm1 ?_ | refine Mem.pm2 ?_ | refine Mem.pt ?_ | refine Mem.pf ?_)
         (simp only [Act.put, Mem.pa, Mem.pb, Mem.pc])
         refine plan_call 14 _ _ _ (by kernel_rfl) zr zr zr (by first | exact Mem.ev_none _ | (simp only [List.map_toArray, List.map_cons, List.map_nil, Mem.ev_tmp, List.getD_cons_succ, List.getD_cons_zero] <;> rfl)) ?_
         refine (TH.out _ (BW.out.trans (HB0.out.mono BW.out.size))).mono ?_
         rintro e' wy2 ⟨v122, rfl, hf, hby⟩
         have F2 := zh hf
         have HB0 : Hid (Below wr.heap.size wr wy2) := zh (HB0.out.trans (hby.mono HB0.out.size))
         clear hf hby
         refine ⟨_, rfl, HB0.out, ?_⟩
         (simp only [Act.put, Mem.pa, Mem.pb, Mem.pc])
         refine plan_call 18 _ _ _ (by kernel_rfl) zr zr zr (by first | exact Mem.ev_none _ | (simp only [List.map_toArray, List.map_cons, List.map_nil, Mem.ev_tmp, List.getD_cons_succ, List.getD_cons_zero] <;> rfl)) ?_
         refine (CH.out _ (BW.out.trans (HB0.out.mono BW.out.size))).mono ?_
         rintro e' wy4 ⟨v124, rfl, hf, hby⟩
         have F4 := zh hf
         have F2 := zh (SlNd.below F2.out hby)
         have HB0 : Hid (Below wr.heap.size wr wy4) := zh (HB0.out.trans (hby.mono HB0.out.size))
         clear hf hby
         refine ⟨_, rfl, HB0.out, ?_⟩
         (simp only [Act.put, Mem.pa, Mem.pb, Mem.pc])
         refine plan_call 17 _ _ _ (by kernel_rfl) zr zr zr (by first | exact Mem.ev_none _ | (simp only [List.map_toArray, List.map_cons, List.map_nil, Mem.ev_tmp, List.getD_cons_succ, List.getD_cons_zero] <;> rfl)) ?_
         refine (MY.out _ _ _ F2.out F4.out).mono ?_
         rintro e' wy5 ⟨rfl, hby⟩
         have F2 := zh (SlNd.below F2.out hby)
         have F4 := zh (SlCh.below F4.out hby)
         have HB0 : Hid (Below wr.heap.size wr wy5) := zh (HB0.out.trans (hby.mono HB0.out.size))
         clear hby
         refine ⟨_, rfl, HB0.out, ?_⟩
         (simp only [Act.put, Mem.pa, Mem.pb, Mem.pc])
         refine plan_call 19 _ _ _ (by kernel_rfl) zr zr zr (by first | exact Mem.ev_none _ | (simp only [List.map_toArray, List.map_cons, List.map_nil, Mem.ev_tmp, List.getD_cons_succ, List.getD_cons_zero] <;> rfl)) ?_
         refine (RM.out _ (BW.out.trans (HB0.out.mono BW.out.size))).mono ?_
         rintro e' wy9 ⟨rfl, hby⟩
         have F2 := zh (SlNd.below F2.out hby)
         have F4 := zh (SlCh.below F4.out hby)
         have HB0 : Hid (Below wr.heap.size wr wy9) := zh (HB0.out.trans (hby.mono HB0.out.size))
         clear hby
         refine ⟨_, rfl, HB0.out, ?_⟩
         (simp only [Act.put, Mem.pa, Mem.pb, Mem.pc])
         refine plan_bin _ _ _ _ _ _ _ (.bool true) zr zr zr Mem.ev_a Mem.ev_a (fun wx => o_beq16 MV _ _ wx) ?_
         (simp only [Act.put, Mem.pa, Mem.pb, Mem.pc])
         (first | refine Mem.pm1 ?_ | refine Mem.pm2 ?_ | refine Mem.pt ?_ | refine Mem.pf ?_)
         (simp only [Act.put, Mem.pa, Mem.pb, Mem.pc])
         refine plan_row 25 _ bs _ PS 25 zr zr zr Mem.ev_a (fun w' hw' => A9.out.below hw' A9.out.lt) Tryz.underlying25 zr (by rw [CS.out]; exact infoPS) ?_
         (simp only [Act.put, Mem.pa, Mem.pb, Mem.pc])
         (first | refine Mem.pm1 ?_ | refine Mem.pm2 ?_ | refine Mem.pt ?_ | refine Mem.pf ?_)
         (simp only [Act.put, Mem.pa, Mem.pb, Mem.pc])
         (first | refine Mem.pm1 ?_ | refine Mem.pm2 ?_ | refine Mem.pt ?_ | refine Mem.pf ?_)
         (simp only [Act.put, Mem.pa, Mem.pb, Mem.pc])
         refine plan_row 31 _ bh _ HH 31 zr zr zr Mem.ev_a (fun w' hw' => H9.out.below hw' H9.out.lt) Tryz.underlying31 zr (by rw [HS.out]; exact infoRS) ?_
         (simp only [Act.put, Mem.pa, Mem.pb, Mem.pc])
         (first | refine Mem.pm1 ?_ | refine Mem.pm2 ?_ | refine Mem.pt ?_ | refine Mem.pf ?_)
         (simp only [Act.put, Mem.pa, Mem.pb, Mem.pc])
         (first | refine Mem.pm1 ?_ | refine Mem.pm2 ?_ | refine Mem.pt ?_ | refine Mem.pf ?_)
         (simp only [Act.put, Mem.pa, Mem.pb, Mem.pc])
         refine plan_call 14 _ _ _ (by kernel_rfl) zr zr zr (by first | exact Mem.ev_none _ | (simp only [List.map_toArray, List.map_cons, List.map_nil, Mem.ev_tmp, List.getD_cons_succ, List.getD_cons_zero] <;> rfl)) ?_
         refine (TH.out _ (BW.out.trans (HB0.out.mono BW.out.size))).mono ?_
         rintro e' wy14 ⟨v134, rfl, hf, hby⟩
         have F14 := zh hf
         have F2 := zh (SlNd.below F2.out hby)
         have F4 := zh (SlCh.below F4.out hby)
         have HB0 : Hid (Below wr.heap.size wr wy14) := zh (HB0.out.trans (hby.mono HB0.out.size))
         clear hf hby
         refine ⟨_, rfl, HB0.out, ?_⟩
         (simp only [Act.put, Mem.pa, Mem.pb, Mem.pc])
         refine plan_call 20 _ _ _ (by kernel_rfl) zr zr zr (by first | exact Mem.ev_none _ | (simp only [List.map_toArray, List.map_cons, List.map_nil, Mem.ev_tmp, List.getD_cons_succ, List.getD_cons_zero] <;> rfl)) ?_
         refine (FU.out _ (BW.out.trans (HB0.out.mono BW.out.size))).mono ?_
         rintro e' wy16 ⟨v136, rfl, hf, hby⟩
         have F16 := zh hf
         have F2 := zh (SlNd.below F2.out hby)
         have F4 := zh (SlCh.below F4.out hby)
         have F14 := zh (SlNd.below F14.out hby)
         have HB0 : Hid (Below wr.heap.size wr wy16) := zh (HB0.out.trans (hby.mono HB0.out.size))
         clear hf hby
         refine ⟨_, rfl, HB0.out, ?_⟩
         (simp only [Act.put, Mem.pa, Mem.pb, Mem.pc])
         refine plan_call 18 _ _ _ (by kernel_rfl) zr zr zr (by first | exact Mem.ev_none _ | (simp only [List.map_toArray, List.map_cons, List.map_nil, Mem.ev_tmp, List.getD_cons_succ, List.getD_cons_zero] <;> rfl)) ?_
         refine (CHF.out _ _ F16.out).mono ?_
         rintro e' wy17 ⟨v137, rfl, hf, hby⟩
         have F17 := zh hf
         have F2 := zh (SlNd.below F2.out hby)
         have F4 := zh (SlCh.below F4.out hby)
         have F14 := zh (SlNd.below F14.out hby)
         have F16 := zh (SlCh.below F16.out hby)
         have HB0 : Hid (Below wr.heap.size wr wy17) := zh (HB0.out.trans (hby.mono HB0.out.size))
         clear hf hby
         refine ⟨_, rfl, HB0.out, ?_⟩
         (simp only [Act.put, Mem.pa, Mem.pb, Mem.pc])
         refine plan_call 17 _ _ _ (by kernel_rfl) zr zr zr (by first | exact Mem.ev_none _ | (simp only [List.map_toArray, List.map_cons, List.map_nil, Mem.ev_tmp, List.getD_cons_succ, List.getD_cons_zero] <;> rfl)) ?_
         refine (MYF.out _ _ _ F14.out F17.out).mono ?_
         rintro e' wy18 ⟨rfl, hby⟩
         have F2 := zh (SlNd.below F2.out hby)
         have F4 := zh (SlCh.below F4.out hby)
         have F14 := zh (SlNd.below F14.out hby)
         have F16 := zh (SlCh.below F16.out hby)
         have F17 := zh (SlCh.below F17.out hby)
         have HB0 : Hid (Below wr.heap.size wr wy18) := zh (HB0.out.trans (hby.mono HB0.out.size))
         clear hby
         refine ⟨_, rfl, HB0.out, ?_⟩
         (simp only [Act.put, Mem.pa, Mem.pb, Mem.pc])
         refine plan_call 20 _ _ _ (by kernel_rfl) zr zr zr (by first | exact Mem.ev_none _ | (simp only [List.map_toArray, List.map_cons, List.map_nil, Mem.ev_tmp, List.getD_cons_succ, List.getD_cons_zero] <;> rfl)) ?_
         refine (FU.out _ (BW.out.trans (HB0.out.mono BW.out.size))).mono ?_
         rintro e' wy22 ⟨v142, rfl, hf, hby⟩
         have F22 := zh hf
         have F2 := zh (SlNd.below F2.out hby)
         have F4 := zh (SlCh.below F4.out hby)
         have F14 := zh (SlNd.below F14.out hby)
         have F16 := zh (SlCh.below F16.out hby)
         have F17 := zh (SlCh.below F17.out hby)
         have HB0 : Hid (Below wr.heap.size wr wy22) := zh (HB0.out.trans (hby.mono HB0.out.size))
         clear hf hby
         refine ⟨_, rfl, HB0.out, ?_⟩
         (simp only [Act.put, Mem.pa, Mem.pb, Mem.pc])
         refine plan_call 19 _ _ _ (by kernel_rfl) zr zr zr (by first | exact Mem.ev_none _ | (simp only [List.map_toArray, List.map_cons, List.map_nil, Mem.ev_tmp, List.getD_cons_succ, List.getD_cons_zero] <;> rfl)) ?_
         refine (RMF.out _ _ (BW.out.trans (HB0.out.mono BW.out.size)) F22.out).mono ?_
         rintro e' wy23 ⟨rfl, hby⟩
         have F2 := zh (SlNd.below F2.out hby)
         have F4 := zh (SlCh.below F4.out hby)
         have F14 := zh (SlNd.below F14.out hby)
         have F16 := zh (SlCh.below F16.out hby)
         have F17 := zh (SlCh.below F17.out hby)
         have F22 := zh (SlCh.below F22.out hby)
         have HB0 : Hid (Below wr.heap.size wr wy23) := zh (HB0.out.trans (hby.mono HB0.out.size))
         clear hby
         refine ⟨_, rfl, HB0.out, ?_⟩
         (simp only [Act.put, Mem.pa, Mem.pb, Mem.pc])
         refine plan_bin _ _ _ _ _ _ _ (.bool true) zr zr zr Mem.ev_a Mem.ev_a (fun wx => o_beq16 MF _ _ wx) ?_
         (simp only [Act.put, Mem.pa, Mem.pb, Mem.pc])
         refine plan_pick_t _ _ _ _ zr zr zr Mem.ev_a Mem.ev_a ?_
         (simp only [Act.put, Mem.pa, Mem.pb, Mem.pc])
         (first | refine Mem.pm1 ?_ | refine Mem.pm2 ?_ | refine Mem.pt ?_ | refine Mem.pf ?_)
         (simp only [Act.put, Mem.pa, Mem.pb, Mem.pc])
         refine plan_call 9 _ _ _ (by kernel_rfl) zr zr zr (by first | exact Mem.ev_none _ | (simp only [List.map_toArray, List.map_cons, List.map_nil, Mem.ev_tmp, List.getD_cons_succ, List.getD_cons_zero] <;> rfl)) ?_
         refine (LV.out _ (BW.out.trans (HB0.out.mono BW.out.size))).mono ?_
         rintro e' wy27 ⟨rfl, hby⟩
         have F2 := zh (SlNd.below F2.out hby)
         have F4 := zh (SlCh.below F4.out hby)
         have F14 := zh (SlNd.below F14.out hby)
         have F16 := zh (SlCh.below F16.out hby)
         have F17 := zh (SlCh.below F17.out hby)
         have F22 := zh (SlCh.below F22.out hby)
         have HB0 : Hid (Below wr.heap.size wr wy27) := zh (HB0.out.trans (hby.mono HB0.out.size))
         clear hby
         refine ⟨_, rfl, HB0.out, ?_⟩
         (simp only [Act.put, Mem.pa, Mem.pb, Mem.pc])
         refine plan_pick_t _ _ _ _ zr zr zr Mem.ev_a Mem.ev_a ?_
         (simp only [Act.put, Mem.pa, Mem.pb, Mem.pc])
         (first | refine Mem.pm1 ?_ | refine Mem.pm2 ?_ | refine Mem.pt ?_ | refine Mem.pf ?_)
         (simp only [Act.put, Mem.pa, Mem.pb, Mem.pc])
         refine plan_nil ?_
         go_wp2_with fail
         go_ret
         exact ⟨rfl, B5.out.trans ((BW.out.trans (HB0.out.mono BW.out.size)).mono B5.out.size)⟩
end Sha
end Go.Proofs.YtahcjnganedbiaaGreatDoor
