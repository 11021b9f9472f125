/- My own texts, merged. -/
import Derived.Test.YtajdpbbbocnfiaaGreatDoorBm42
import Derived.Test.YtajdpbbbocnfiaaGreatDoorBm39
import Derived.Test.YtajdpbbbocnfiaaGreatDoorBm37
import Derived.Test.YtajdpbbbocnfiaaGreatDoorBm26
import Derived.Test.YtajdpbbbocnfiaaGreatDoorBm00
import Derived.Test.YtajdpbbbocnfiaaGreatDoorBm32
import Derived.Test.YtajdpbbbocnfiaaGreatDoorBm43
import Derived.Test.YtajdpbbbocnfiaaGreatDoorBm34
import Derived.Test.YtajdpbbbocnfiaaGreatDoorBm05
import Derived.Test.YtajdpbbbocnfiaaGreatDoorBm07
import Derived.Test.YtajdpbbbocnfiaaGreatDoorBm40
import Derived.Test.YtajdpbbbocnfiaaGreatDoorBm24
import Derived.Test.YtajdpbbbocnfiaaGreatDoorBm08
import Derived.Test.YtajdpbbbocnfiaaGreatDoorBm03
import Derived.Test.YtajdpbbbocnfiaaGreatDoorBm35
import Derived.Test.YtajdpbbbocnfiaaGreatDoorBm17
import Derived.Test.YtajdpbbbocnfiaaGreatDoorBm23
import Derived.Test.YtajdpbbbocnfiaaGreatDoorBm41
import Derived.Test.YtajdpbbbocnfiaaGreatDoorBm01
import Derived.Test.YtajdpbbbocnfiaaGreatDoorBm09
import Derived.Test.YtajdpbbbocnfiaaGreatDoorBm20
import Derived.WalkKit
import Derived.Lib.SmallJoins
namespace Go.Proofs.YtajdpbbbocnfiaaGreatDoor
namespace Sha
open Go.RowKit Mem
set_option maxRecDepth 100000
theorem pst_lt {F : Foot} {b : Nat} {w : World} {s : St6} (h : PSt F b w s) : ∀ k, F k → k < w.heap.size := by
 obtain ⟨D, bb, vw, vs, vt, hv⟩ := h; exact hv.lt
theorem pst_keep {F : Foot} {b : Nat} {w w' : World} {s : St6} (h : PSt F b w s) (hs : w.heap.size ≤ w'.heap.size) (hk : ∀ k, F k → k < w.heap.size → w'.heap[k]? = w.heap[k]?) : PSt F b w' s := by
 obtain ⟨D, bb, vw, vs, vt, hv⟩ := h; exact (hv.keep hs hk).ps
theorem pst_below {F : Foot} {b : Nat} {w w' : World} {s : St6} (h : PSt F b w s) (hb : Below w.heap.size w w') : PSt F b w' s := pst_keep h hb.size fun k _ hlt => hb.block k hlt
theorem ret_four {P : Program} {fn : Func} {R : Ending → World → Prop} {tmps : Array Value} {w : World} {q p p2 u : Tmp} {ty ty2 : TypeId} (h : fn.results = #[.tmp q, .cell p ty, .cell p2 ty2, .tmp u]) (g : Nat) (t : TypeId) (cs : Array Value) (d : TypeDesc) (g2 : Nat) (t2 : TypeId) (cs2 : Array Value) (d2 : TypeDesc) (v1 v : Value)
 (hq : tmps.getD q undef = v1) (hp : tmps.getD p undef = .pointer (some ⟨g, 0, none⟩)) (hp2 : tmps.getD p2 undef = .pointer (some ⟨g2, 0, none⟩)) (hv : tmps.getD u undef = v) (hg : At w g cs t) (hu : P.underlying ty = some d) (hd : d.isRow = true) (hi : (P.info? ty).map (·.size) = some cs.size)
 (hg2 : At w g2 cs2 t2) (hu2 : P.underlying ty2 = some d2) (hd2 : d2.isRow = true) (hi2 : (P.info? ty2).map (·.size) = some cs2.size)
 (hR : R (.returned (.tuple #[v1, .agg cs, .agg cs2, v])) w) : bodyPost P fn R .ret ⟨tmps, []⟩ w := by
 refine bodyPost_ret (v := .tuple #[v1, .agg cs, .agg cs2, v]) ?_ rfl hR
 have hrow := run_loadVar_row (P := P) w g t ty cs (0, 0) d hg hu (by cases d <;> first | rfl | exact hd) hi
 have hrow2 := run_loadVar_row (P := P) w g2 t2 ty2 cs2 (0, 0) d2 hg2 hu2 (by cases d2 <;> first | rfl | exact hd2) hi2
 rw [Array.getD_eq_getD_getElem?] at hq hp hp2 hv
 simp only [results, h]
 simp [Result.andThen, hq, hp, hp2, hv, asAddr, hrow, hrow2]
def LdEnd (key : List (BitVec 8)) (ep : BitVec 32) (P : List (List (BitVec 8))) (w : World) (e : Ending) (w' : World) : Prop :=
 ∃ b F, e = .returned (.tuple #[rq b, .agg (psC P.length), .agg (refC (refT key ep P (itn P.length - 1))), .bool true]) ∧ PSt F b w' (stImg key ep P) ∧ (∀ k, F k → w.heap.size ≤ k) ∧ Below w.heap.size w w'
set_option maxHeartbeats 4000000 in
theorem laid_any (T : TreeP) (key : List (BitVec 8)) (ep : BitVec 32) (P : List (List (BitVec 8))) (v : Value) (w : World) (hT : TT w) (lk : key.length = 32) (hP : GoodP P) (hs : Sls w v P) : Calls Tryz.prog 12 #[.pointer none, .agg (u8s key).toArray, .int .u32 (V ep), v] w (LdEnd key ep P w) := by
 have hit := itn_big P.length hP.p0 hP.p1
 have hls : ∀ x ∈ P, x.length ≤ 1000 := fun x hx => by rw [hP.len x hx]; decide
 have hmk := fun wx (h : Below w.heap.size w wx) => T.make key ep P v wx (hT.below h) lk (hs.below h) (by have := hP.p1; omega) hls
 rw [makeT_ok key ep hP] at hmk
 obtain ⟨root, hroot⟩ : ∃ r, r = refT key ep P (itn P.length - 1) := ⟨_, rfl⟩
 have hrw : root.Wf := by rw [hroot]; exact refT_wf _
 have hpl := putsT_length key ep P
 have hpo := puts_ok (key := key) (ep := ep) hP
 have hlo := img_lay_ok (key := key) (ep := ep) hP
 have hlw : (layS (stNew (2 + 2 * itn P.length)) (putsT key ep P)).w.length = itn P.length := by
  show ([] ++ putsT key ep P).length = _
  rw [List.nil_append, hpl]
 have himg : stFlush (layS (stNew (2 + 2 * itn P.length)) (putsT key ep P)) = stImg key ep P := rfl
 unfold LdEnd
 rw [← hroot] at hmk ⊢
 obtain ⟨I, hI⟩ : ∃ I, I = stImg key ep P := ⟨_, rfl⟩
 obtain ⟨L, hL⟩ : ∃ L, L = putsT key ep P := ⟨_, rfl⟩
 rw [← hI] at himg ⊢
 rw [← hL] at hmk hpl hpo hlo hlw himg
 obtain ⟨asx, cap, rfl, _, _⟩ := hs
 have hp1 := hP.p1
 have hp0 := hP.p0
 obtain ⟨p, hp⟩ : ∃ p, p = P.length := ⟨_, rfl⟩
 rw [← hp] at hmk hit hpl hpo hlo hlw himg hp1 hp0 ⊢
 obtain ⟨m, hm⟩ : ∃ m, m = itn p := ⟨_, rfl⟩
 obtain ⟨N, hN⟩ : ∃ N, N = 2 + 2 * m := ⟨_, rfl⟩
 rw [← hm] at hit hpl hpo hlo hlw himg
 rw [← hN] at hpo hlo hlw himg
 have hnew := fun wx => pnew_good p wx hp0 hp1
 have hbk := fun wx => pblocks_any p wx hp1
 have hbz : blksP p = (N : Int) := by unfold blksP; rw [if_neg (by omega), ← hm, hN]; omega
 rw [hbz] at hbk
 have hdn := fun wx => dvnew_good N wx (by omega) (by omega)
 have hmax : max (N : Int) 1 = (N : Int) := by omega
 have n0 : ((N : Int) == 0) = false := beq_eq_false_iff_ne.mpr (by omega)
 have n1 : ¬ (N : Int) = 0 := by omega
 have rs := refC_size hrw; have ro := refC_one root
 have kc : (u8s key).toArray.size = 32 := by simp [u8s_length, lk]
 obtain ⟨KC, hKC⟩ : ∃ K, K = (u8s key).toArray := ⟨_, rfl⟩
 obtain ⟨M, hM⟩ : ∃ M, M = refC root := ⟨_, rfl⟩
 obtain ⟨Z, hZ⟩ : ∃ Z, Z = refC zref := ⟨_, rfl⟩
 have zs : Z.size = 34 := by rw [hZ]; exact refC_size zref_wf
 obtain ⟨C, hC⟩ : ∃ C, C = psC p := ⟨_, rfl⟩
 obtain ⟨Y, hYs⟩ : ∃ C, C = psC 0 := ⟨_, rfl⟩
 have cs : C.size = 1 := by rw [hC]; rfl
 have co : C.all (·.oneCell') = true := by rw [hC]; exact psC_one p
 have ys : Y.size = 1 := by rw [hYs]; rfl
 have hx := zeroPS
 have hxr := zeroRfP
 rw [← hYs] at hx
 rw [← hZ] at hxr
 have hmk : ∀ wx : World, Below w.heap.size w wx → Calls Tryz.prog 9 #[.pointer none, .agg (u8s key).toArray, .int .u32 (V ep), .slice asx p cap] wx (fun e w' => ∃ v, e = .returned (.tuple #[v, .agg (refC root), .int .i64 0]) ∧ WPut (fun k => wx.heap.size ≤ k) w' v L ∧ Below wx.heap.size wx w') := hmk
 rw [← hM] at hmk rs ro ⊢
 rw [← hC] at hnew hbk ⊢
 rw [← hKC] at hmk kc ⊢
 have a0 : At (((w.alloc (.cells KC 22)).alloc (.cells Y 48)).alloc (.cells Z 31)) w.heap.size KC 22 := ((at_new w KC _).alloc _).alloc _
 have a1 : At (((w.alloc (.cells KC 22)).alloc (.cells Y 48)).alloc (.cells Z 31)) (w.heap.size + 1) Y 48 := by
  have h := (at_new (w.alloc (.cells KC 22)) Y 48).alloc (.cells Z 31)
  simpa using h
 have a2 : At (((w.alloc (.cells KC 22)).alloc (.cells Y 48)).alloc (.cells Z 31)) (w.heap.size + 1 + 1) Z 31 := by
  have h := at_new ((w.alloc (.cells KC 22)).alloc (.cells Y 48)) Z 31
  simpa using h
 have b4 : Below w.heap.size w (((w.alloc (.cells KC 22)).alloc (.cells Y 48)).alloc (.cells Z 31)) := (((Below.refl _ _).alloc (Nat.le_refl _) _).alloc (by simp) _).alloc (by simp; omega) _
 have z4 : w.heap.size + 3 = (((w.alloc (.cells KC 22)).alloc (.cells Y 48)).alloc (.cells Z 31)).heap.size := by simp
 have MK := zh hmk; have PO := zh hpo; have LO := zh hlo; have LW := zh hlw; have IMG := zh himg; have PLN := zh hpl; have NEW := zh hnew; have BK := zh hbk; have DN := zh hdn; have RS := zh rs; have RO := zh ro; have KS := zh kc; have ZS := zh zs; have CS := zh cs; have CO := zh co; have YS := zh ys; have A0 := zh a0; have A1 := zh a1; have A2 := zh a2; have B4 := zh b4; have Z4 := zh z4; have NI := zh hN; have HIT := zh hit
 clear hmk hpo hlo hlw himg hpl hnew hbk hdn rs ro kc zs cs co ys a0 a1 a2 b4 z4 hN hM hZ hC hYs hKC hm hp hI hL hroot hrw hP hls hT hbz hit
 go_enter Tryz.func12, Tryz.ntmps12
 go_upto_region 1 with fail
 generalize ((w.alloc (.cells KC 22)).alloc (.cells Y 48)).alloc (.cells Z 31) = w4 at *
 go_wp2_with fail
 refine (NEW.out _).mono ?_
 rintro e w5 ⟨rfl, hb5⟩
 have B5 : Hid (Below w.heap.size w (w5.alloc (.cells C 48))) := zh ((B4.out.trans (hb5.mono B4.out.size)).alloc (Nat.le_trans B4.out.size hb5.size) _)
 have A05 := zh ((A0.out.below hb5 A0.out.lt).alloc (.cells C 48)); have A15 := zh ((A1.out.below hb5 A1.out.lt).alloc (.cells C 48)); have A25 := zh ((A2.out.below hb5 A2.out.lt).alloc (.cells C 48))
 have C5 := zh (at_new w5 C 48)
 have Z5 : Hid (w.heap.size + 3 ≤ w5.heap.size) := zh (by rw [Z4.out]; exact hb5.size)
 clear hb5 A0 A1 A2 B4 Z4
 go_upto_region 2 with (refine wpList_store_new zr 48 _ _ zr zr C _ _ zr zr (by rw [CS.out]; exact infoPS) (by rw [YS.out, CS.out]) CO.out ?_)
 obtain ⟨bc, hbc⟩ : ∃ bc, bc = w5.heap.size := ⟨_, rfl⟩
 rw [← hbc] at C5 Z5 ⊢
 clear hbc hx
 generalize (w5.alloc (.cells C 48)) = w6 at *
 go_wp2_with (refine wpList_load_all zr 48 _ zr bc zr _ Tryz.underlying48 zr C _ C5.out (by rw [CS.out]; exact infoPS) ?_)
 refine (BK.out _).mono ?_
 rintro e w7 ⟨rfl, hb7⟩
 have B7 : Hid (Below w.heap.size w w7) := zh (B5.out.trans (hb7.mono B5.out.size))
 have A07 := zh (A05.out.below hb7 A05.out.lt); have A17 := zh (A15.out.below hb7 A15.out.lt); have A27 := zh (A25.out.below hb7 A25.out.lt); have C7 := zh (C5.out.below hb7 C5.out.lt)
 clear hb7 A05 A15 A25 C5 B5
 go_wp2_with fail
 refine (DN.out _).mono ?_
 rintro e w8 ⟨b, F, rfl, hps, hF, hb8⟩
 have B8 : Hid (Below w.heap.size w w8) := zh (B7.out.trans (hb8.mono B7.out.size))
 have A08 := zh (A07.out.below hb8 A07.out.lt); have A18 := zh (A17.out.below hb8 A17.out.lt); have A28 := zh (A27.out.below hb8 A27.out.lt); have C8 := zh (C7.out.below hb8 C7.out.lt)
 have PS8 := zh hps; have FB := zh hF
 have BC7 : Hid (bc < w7.heap.size) := zh C7.out.lt
 have W7 : Hid (w.heap.size + 1 + 1 < w7.heap.size) := zh A27.out.lt
 have W78 : Hid (w7.heap.size ≤ w8.heap.size) := zh hb8.size
 have FL : Hid (∀ k, F k → k < w8.heap.size) := zh (pst_lt hps)
 clear hb8 A07 A17 A27 C7 B7 hps hF
 go_wp2_with (refine wpList_load_all zr 22 _ zr w.heap.size zr _ Tryz.underlying22 zr KC _ A08.out (by rw [KS.out]; kernel_rfl) ?_)
 refine (MK.out _ B8.out).mono ?_
 rintro e w9 ⟨vp, rfl, hwp, hb9⟩
 obtain ⟨ap, cp, rfl⟩ := hwp.hd
 have hb10 : Below w8.heap.size w8 (w9.alloc (.cells M 31)) := hb9.alloc hb9.size _
 have B10 : Hid (Below w.heap.size w (w9.alloc (.cells M 31))) := zh (B8.out.trans (hb10.mono B8.out.size))
 have A10 := zh (A18.out.below hb10 A18.out.lt); have A20 := zh (A28.out.below hb10 A28.out.lt); have C10 := zh (C8.out.below hb10 C8.out.lt)
 have P10 := zh (pst_below PS8.out hb10)
 have W10 : Hid (WPut (fun k => w8.heap.size ≤ k) (w9.alloc (.cells M 31)) (.slice ap m cp) L) := zh (by
  have h := WPut.keep (w' := w9.alloc (.cells M 31)) hwp (by simp) (fun k _ hlt => ((Below.refl w9.heap.size w9).alloc (Nat.le_refl _) _).block k hlt)
  rw [PLN.out] at h
  exact h)
 have M10 := zh (at_new w9 M 31)
 have BM : Hid (w8.heap.size ≤ w9.heap.size) := zh hb9.size
 rw [PLN.out]
 clear hwp hb9 hb10 A08 A18 A28 C8 PS8
 go_upto_region 4 with (refine wpList_store_new zr 31 _ _ zr zr M _ _ zr zr (by rw [RS.out]; exact infoRfP) (by rw [RS.out, ZS.out]) RO.out ?_)
 clear hxr
 obtain ⟨bm, hbm⟩ : ∃ bm, bm = w9.heap.size := ⟨_, rfl⟩
 rw [← hbm] at M10 BM ⊢
 clear hbm
 generalize (w9.alloc (.cells M 31)) = w10 at *
 go_wp2_with (refine wpList_load_is_wanted zr 48 _ zr bc 0 1 zr _ Tryz.underlying48 zr infoPS C _ C10.out (by rw [CS.out]; decide) C (by simp [CS.out]) ?_)
 refine (BK.out _).mono ?_
 rintro e w11 ⟨rfl, hb11⟩
 have B11 : Hid (Below w.heap.size w w11) := zh (B10.out.trans (hb11.mono B10.out.size))
 have A11 := zh (A10.out.below hb11 A10.out.lt); have A21 := zh (A20.out.below hb11 A20.out.lt); have C11 := zh (C10.out.below hb11 C10.out.lt); have M11 := zh (M10.out.below hb11 M10.out.lt)
 have P11 := zh (pst_below P10.out hb11)
 have W11 := zh (WPut.keep W10.out hb11.size (fun k _ hlt => hb11.block k hlt))
 clear hb11 A10 A20 C10 M10 P10 W10 B10
 go_upto_region 6 with fail
 have hnF : ∀ k, k < w7.heap.size → ¬ F k := fun k hk h => by have := FB.out k h; omega
 have hmF : ¬ F bm := fun h => by have := FL.out bm h; have := BM.out; omega
 have NF := zh hnF; have MF := zh hmF
 clear hnF hmF
 refine wp_region_plan_in (fun x' => At x' bc C 48 ∧ At x' bm M 31) (.take 0 (.take 1 (.take 2 (.take 3 (.take 4 (.sole 5 (.take 6 (.take 7 (.take 8 (.take 10 (.take 11 (.sole 9 (.take 12 (.take 13 (.take 14 (.sole 15 (.sole 16 (.take 17 .done)))))))))))))))))) (by kernel_rfl) (by kernel_rfl) (by kernel_rfl) ⟨C11.out, M11.out⟩ ?_
 (first | refine Mem.pm1 ?_ | refine Mem.pm2 ?_ | refine Mem.pt ?_ | refine Mem.pf ?_)
 (simp only [Act.put, Mem.pa, Mem.pb, Mem.pc])
 refine plan_row 48 _ bc _ C 48 zr zr zr Mem.ev_a (fun w' hw' => hw'.1) Tryz.underlying48 zr (by rw [CS.out]; exact infoPS) ?_
 (simp only [Act.put, Mem.pa, Mem.pb, Mem.pc])
 refine plan_row 31 _ bm _ M 31 zr zr zr Mem.ev_a (fun w' hw' => hw'.2) Tryz.underlying31 zr (by rw [RS.out]; exact infoRfP) ?_
 (simp only [Act.put, Mem.pa, Mem.pb, Mem.pc])
 (first | refine Mem.pm1 ?_ | refine Mem.pm2 ?_ | refine Mem.pt ?_ | refine Mem.pf ?_)
 (simp only [Act.put, Mem.pa, Mem.pb, Mem.pc])
 (first | refine Mem.pm1 ?_ | refine Mem.pm2 ?_ | refine Mem.pt ?_ | refine Mem.pf ?_)
 (simp only [Act.put, Mem.pa, Mem.pb, Mem.pc])
 refine plan_call 42 _ _ _ (by kernel_rfl) zr zr zr (by first | exact Mem.ev_none _ | (simp only [List.map_toArray, List.map_cons, List.map_nil, Mem.ev_tmp, List.getD_cons_succ, List.getD_cons_zero] <;> rfl)) ?_
 refine (T.lay (F := F) (G := fun k => w8.heap.size ≤ k) L _ w11.drew (pst_below P11.out (Below.refl _ _).drew) ((ok_new N (by have := NI.out; have := HIT.out; omega) (by have := NI.out; have := HIT.out; omega)).mono (by omega)) (WPut.keep W11.out (Nat.le_refl _) (fun k _ _ => rfl)) (fun k h1 h2 => by have := FL.out k h2; omega) (by rw [PLN.out]; have := HIT.out; omega) PO.out).mono ?_
 rintro e w12 ⟨rfl, hse⟩
 obtain ⟨⟨F', hp', hF'⟩, hc⟩ := hse
 have hat : ∀ {k : Nat} {D : Array Value} {t : TypeId}, At w11 k D t → ¬ F k → At w12 k D t := fun {k D t} h hn => by
  have hl := h.lt
  have hb := hc.block k hl hn
  unfold At at *
  rw [hb]; exact h
 have A12 := zh (hat A11.out (NF.out _ (by have := W7.out; omega))); have A22 := zh (hat A21.out (NF.out _ W7.out)); have C12 := zh (hat C11.out (NF.out _ BC7.out)); have M12 := zh (hat M11.out MF.out)
 have FB2 : Hid (∀ k, F' k → w7.heap.size ≤ k ∧ (F k ∨ w11.heap.size ≤ k)) := zh (fun k h => by
  have hk := hF' k h
  refine ⟨?_, hk⟩
  rcases hk with g | g
  ·exact FB.out k g
  ·have h1 := A21.out.lt
   have h2 := C11.out.lt
   have h3 := W78.out
   have h4 := BM.out
   have h5 := M11.out.lt
   have g' : w11.heap.size ≤ k := g
   omega)
 have P12 := zh hp'; have B12 : Hid (Below w.heap.size w w12) := zh (Chg.below hc B11.out.drew (fun k h => by have := FB.out k h; have := W7.out; omega) B11.out.size)
 clear hp' hF' hc hat
 refine ⟨_, rfl, ⟨C12.out, M12.out⟩, ?_⟩
 (simp only [Act.put, Mem.pa, Mem.pb, Mem.pc])
 refine plan_bin _ _ _ _ _ _ _ (.bool true) zr zr zr Mem.ev_a Mem.ev_a (fun wx => o_ieq _ _ _ _ _ wx) ?_
 (simp only [Act.put, Mem.pa, Mem.pb, Mem.pc])
 (first | refine Mem.pm1 ?_ | refine Mem.pm2 ?_ | refine Mem.pt ?_ | refine Mem.pf ?_)
 (simp only [Act.put, Mem.pa, Mem.pb, Mem.pc])
 (first | refine Mem.pm1 ?_ | refine Mem.pm2 ?_ | refine Mem.pt ?_ | refine Mem.pf ?_)
 (simp only [Act.put, Mem.pa, Mem.pb, Mem.pc])
 (first | refine Mem.pm1 ?_ | refine Mem.pm2 ?_ | refine Mem.pt ?_ | refine Mem.pf ?_)
 (simp only [Act.put, Mem.pa, Mem.pb, Mem.pc])
 refine plan_len _ _ _ _ m _ zr zr zr zr Mem.ev_a (fun wx => by go_simp) ?_
 (simp only [Act.put, Mem.pa, Mem.pb, Mem.pc])
 refine plan_call 43 _ _ _ (by kernel_rfl) zr zr zr (by first | exact Mem.ev_none _ | (simp only [List.map_toArray, List.map_cons, List.map_nil, Mem.ev_tmp, List.getD_cons_succ, List.getD_cons_zero] <;> rfl)) ?_
 refine (pflush_any w12 P12.out (LO.out.mono (by have := HIT.out; omega))).mono ?_
 rintro e w13 ⟨rfl, hse⟩
 rw [LW.out]
 obtain ⟨⟨F2, hp', hF'⟩, hc⟩ := hse
 rw [IMG.out] at hp'
 have hn2 : ∀ k, k < w7.heap.size → ¬ F' k := fun k hk h => by have := (FB2.out k h).1; omega
 have hat : ∀ {k : Nat} {D : Array Value} {t : TypeId}, At w12 k D t → ¬ F' k → At w13 k D t := fun {k D t} h hn => by
  have hl := h.lt
  have hb := hc.block k hl hn
  unfold At at *
  rw [hb]; exact h
 have A13 := zh (hat A12.out (hn2 _ (by have := W7.out; omega))); have A23 := zh (hat A22.out (hn2 _ W7.out)); have C13 := zh (hat C12.out (hn2 _ BC7.out))
 have M13 := zh (hat M12.out (fun h => by
  rcases (FB2.out _ h).2 with g | g
  ·exact MF.out g
  ·have := M11.out.lt; omega))
 have FB3 : Hid (∀ k, F2 k → w7.heap.size ≤ k) := zh (fun k h => by
  rcases hF' k h with g | g
  ·exact (FB2.out k g).1
  ·have h1 := C12.out.lt
   have h2 := M12.out.lt
   have h3 := W78.out
   have h4 := BM.out
   omega)
 have P13 := zh hp'; have B13 : Hid (Below w.heap.size w w13) := zh (Chg.below hc B12.out (fun k h => by have := (FB2.out k h).1; have := W7.out; omega) B12.out.size)
 clear hp' hF' hc hat hn2
 refine ⟨_, rfl, ⟨C13.out, M13.out⟩, ?_⟩
 (simp only [Act.put, Mem.pa, Mem.pb, Mem.pc])
 refine plan_bin _ _ _ _ _ _ _ (.bool true) zr zr zr Mem.ev_a Mem.ev_a (fun wx => o_ieq _ _ _ _ _ wx) ?_
 (simp only [Act.put, Mem.pa, Mem.pb, Mem.pc])
 (first | refine Mem.pm1 ?_ | refine Mem.pm2 ?_ | refine Mem.pt ?_ | refine Mem.pf ?_)
 (simp only [Act.put, Mem.pa, Mem.pb, Mem.pc])
 (first | refine Mem.pm1 ?_ | refine Mem.pm2 ?_ | refine Mem.pt ?_ | refine Mem.pf ?_)
 (simp only [Act.put, Mem.pa, Mem.pb, Mem.pc])
 have hb1 : bc ≠ w.heap.size + 1 := fun h => by have := Z5.out; omega
 have hb2 : bc ≠ w.heap.size + 1 + 1 := fun h => by have := Z5.out; omega
 have hm1 : bm ≠ w.heap.size + 1 := fun h => by have := BM.out; have := W78.out; have := W7.out; omega
 have hm2 : bm ≠ w.heap.size + 1 + 1 := fun h => by have := BM.out; have := W78.out; have := W7.out; omega
 refine plan_store 48 _ _ (w.heap.size + 1) C Y 48 zr zr zr zr Mem.ev_a Mem.ev_a (by rw [CS.out]; exact infoPS) A13.out (by rw [CS.out, YS.out]) CO.out ⟨C13.out.row_other C hb1, M13.out.row_other C hm1⟩ ?_
 have A24 := zh (A23.out.row_other C (b := w.heap.size + 1 + 1) (g := w.heap.size + 1) (by omega))
 have A14 := zh (A13.out.row C)
 refine plan_store 31 _ _ (w.heap.size + 1 + 1) M Z 31 zr zr zr zr Mem.ev_a Mem.ev_a (by rw [RS.out]; exact infoRfP) A24.out (by rw [RS.out, ZS.out]) RO.out ⟨(C13.out.row_other C hb1).row_other M hb2, (M13.out.row_other C hm1).row_other M hm2⟩ ?_
 have A25 := zh (A24.out.row M)
 have A15 := zh (A14.out.row_other M (b := w.heap.size + 1) (g := w.heap.size + 1 + 1) (by omega))
 have PE : Hid (PSt F2 b ((w13.setRow (w.heap.size + 1) C).setRow (w.heap.size + 1 + 1) M) I) := zh (pst_keep P13.out (by simp) (fun k h _ => by
  have h1 := FB3.out k h
  have h2 := W7.out
  rw [setRow_other _ _ k _ (by omega), setRow_other _ _ k _ (by omega)]))
 have BE : Hid (Below w.heap.size w ((w13.setRow (w.heap.size + 1) C).setRow (w.heap.size + 1 + 1) M)) := zh (below_row (below_row B13.out (by omega) _) (by omega) _)
 have FE : Hid (∀ k, F2 k → w.heap.size ≤ k) := zh (fun k h => by have := FB3.out k h; have := W7.out; omega)
 (first | refine Mem.pm1 ?_ | refine Mem.pm2 ?_ | refine Mem.pt ?_ | refine Mem.pf ?_)
 (simp only [Act.put, Mem.pa, Mem.pb, Mem.pc])
 refine plan_nil ?_
 go_wp2_with fail
 try simp only [Exit.inBlock, Exit.then]
 refine ret_four zr (w.heap.size + 1) 48 C _ (w.heap.size + 1 + 1) 31 M _ _ _ zr zr zr zr A15.out Tryz.underlying48 zr (by rw [CS.out]; exact infoPS) A25.out Tryz.underlying31 zr (by rw [RS.out]; exact infoRfP) ?_
 exact ⟨b, F2, rfl, PE.out, FE.out, BE.out⟩
def allP (P : List (List (BitVec 8))) : Bool := P.all fun x => x.length == 256
set_option maxHeartbeats 1000000 in
theorem arePages_any (ts : List (List (BitVec 8))) (v : Value) (w : World) (hv : Sls w v ts) (_hl : ∀ x ∈ ts, x.length ≤ 1000) (hn : ts.length ≤ 1000) : Calls Tryz.prog 31 #[v] w (fun e w' => e = .returned (.bool (allP ts)) ∧ w' = w) := by
 have hv0 := hv
 obtain ⟨asx, caps, rfl, _, _⟩ := hv0
 have hno : ∀ j, j < ts.length → (ts.getD j []).length ≠ 256 → allP ts = false := fun j hj h => by
  unfold allP
  rw [List.all_eq_false]
  refine ⟨ts.getD j [], ?_, by simpa using h⟩
  rw [List.getD_eq_getElem?_getD, List.getElem?_eq_getElem hj]
  exact List.getElem_mem hj
 have hyes : (∀ j, j < ts.length → (ts.getD j []).length = 256) → allP ts = true := fun h => by
  unfold allP
  rw [List.all_eq_true]
  intro p hp
  obtain ⟨j, hj, e⟩ := List.mem_iff_getElem.1 hp
  have := h j hj
  rw [List.getD_eq_getElem?_getD, List.getElem?_eq_getElem hj, Option.getD_some, e] at this
  simpa using this
 obtain ⟨Y, hY⟩ : ∃ Y, Y = allP ts := ⟨_, rfl⟩
 rw [← hY] at hyes hno ⊢
 obtain ⟨n, hnn⟩ : ∃ n, n = ts.length := ⟨_, rfl⟩
 rw [← hnn] at hv hyes hno hn ⊢
 have HS := zh hv; have HN := zh hnn; have YES := zh hyes; have NO := zh hno
 clear hv hnn hyes hno hY _hl
 go_enter Tryz.func31, Tryz.ntmps31
 go_wp2_with fail
 go_loopw [7] (fun vi wr => ∃ j : Nat, j ≤ n ∧ vi = .int .i64 (j : Int) ∧ (∀ k, k < j → (ts.getD k []).length = 256) ∧ wr = w) (fun vi _ => n - (intOf vi).toNat)
 case atStart => exact ⟨0, by omega, rfl, fun k hk => by omega, rfl⟩
 case round =>
  obtain ⟨j, hj, rfl, hal, rfl⟩ := hrel
  by_cases hlt : j < n
  ·have hlt' : (j : Int) < (n : Int) := by omega
   have hps : j < ts.length := by rw [← HN.out]; exact hlt
   obtain ⟨pb, po, vi, rfl, hpb, hcell, hsl⟩ := sls_at HS.out hps
   have hy := NO.out j hlt
   have hal2 : (ts.getD j []).length = 256 → ∀ k, k < j + 1 → (ts.getD k []).length = 256 := fun h k hk => by
    rcases Nat.lt_or_ge k j with x | x
    ·exact hal k x
    ·rw [show k = j by omega]; exact h
   obtain ⟨a1, c1, rfl⟩ := sl_inv hsl
   obtain ⟨m, hm⟩ : ∃ m, m = (ts.getD j []).length := ⟨_, rfl⟩
   rw [← hm] at hcell hy hal2
   have HY := zh hy; have AL2 := zh hal2
   clear hy hal2 hal hsl hm hps
   by_cases hbg : m = 256
   ·subst hbg
    have AL3 := zh (AL2.out rfl)
    go_wp2_with fail
    go_roundw
    case rel => exact ⟨j + 1, by omega, by go_num, AL3.out, by first | rfl | trivial⟩
    case measure => simp [intOf]; omega
   ·have hb2 : ¬ (m : Int) = 256 := by omega
    have HY2 := zh (HY.out hbg)
    go_wp2_with fail
    go_ret
    exact ⟨by rw [HY2.out]; rfl, rfl⟩
  ·have hin : j = n := by omega
   subst hin
   have HY := zh (YES.out hal)
   have hge : ¬ (j : Int) < (j : Int) := by omega
   go_wp2_with fail
   go_ret
   exact ⟨by rw [HY.out]; rfl, rfl⟩
theorem kidsT_none {p : Nat} {z : Int} {pg : List (BitVec 8)} : kidsT p z pg = parseN pg ((KZ p z).length : Int) := by
 unfold kidsT
 by_cases h : (KZ p z).length = 0
 ·rw [if_pos h, h]; rfl
 ·rw [if_neg h]
set_option maxHeartbeats 1000000 in
theorem pkids14_own (p : Nat) (z : Int) (pg : List (BitVec 8)) (v : Value) (w : World) (hv : Sl w v pg) (hl : pg.length ≤ 1000) (h1 : p ≤ 216) : Calls Tryz.prog 27 #[.agg (psC p), .int .i64 z, v] w (RfOwn 31 w (kidsT p z pg).1 (kidsT p z pg).2) := by
 have kd := fun wx => pkids_any p z wx h1
 have ps := fun wx (h : Below w.heap.size w wx) => pparse13_own pg ((KZ p z).length : Int) v wx (hv.below h) hl
 rw [← kidsT_none] at ps
 obtain ⟨Y, hY⟩ : ∃ Y, Y = kidsT p z pg := ⟨_, rfl⟩
 rw [← hY] at ps ⊢
 have hb := (Below.refl w.heap.size w).alloc (Nat.le_refl _) (.cells (psC p) 48)
 have ha := at_new w (psC p) 48
 have cs : (psC p).size = 1 := rfl
 obtain ⟨C, hC⟩ : ∃ C, C = psC p := ⟨_, rfl⟩
 rw [← hC] at kd hb ha cs ⊢
 obtain ⟨K, hK⟩ : ∃ K, K = KZ p z := ⟨_, rfl⟩
 rw [← hK] at kd ps
 have KD := zh kd; have PS := zh ps; have HB := zh hb; have HA := zh ha; have CS := zh cs
 obtain ⟨a, c, rfl⟩ := sl_inv hv
 clear kd ps hb ha cs hv hY hC hK hl
 go_enter Tryz.func27, Tryz.ntmps27
 go_upto_region 1 with fail
 generalize w.alloc (.cells C 48) = w1 at *
 go_wp2_with (refine wpList_load_all zr 48 _ zr w.heap.size zr _ Tryz.underlying48 zr C _ HA.out (by rw [CS.out]; exact infoPS) ?_)
 refine (KD.out _).mono ?_
 rintro e w2 ⟨vk, rfl, hk, hb2⟩
 obtain ⟨ak, ck, rfl⟩ := hk.hd
 have B2 := zh (HB.out.trans (hb2.mono HB.out.size))
 clear hk hb2
 go_wp2_with fail
 refine (PS.out _ B2.out).mono ?_
 rintro e w3 ⟨vr, rfl, hr, hb3⟩
 have R3 := zh hr; have B3 := zh (B2.out.trans (hb3.mono B2.out.size))
 clear hr hb3
 go_wp2_with fail
 go_ret2
 exact ⟨_, rfl, ownsRow_base R3.out B2.out.size, B3.out⟩
theorem pkids14_any (p : Nat) (z : Int) (pg : List (BitVec 8)) (v : Value) (w : World) (hv : Sl w v pg) (hl : pg.length ≤ 1000) (h1 : p ≤ 216) : Calls Tryz.prog 27 #[.agg (psC p), .int .i64 z, v] w (RfEnd w (kidsT p z pg).1 (kidsT p z pg).2) :=
 (pkids14_own p z pg v w hv hl h1).mono fun _ _ ⟨v, e, ho, hb⟩ => ⟨v, e, own_slrf ho (kidsT_wf _ _ _), hb⟩
def FtEnd (w : World) (l : List (BitVec 8)) (n : Int) (e : Ending) (w' : World) : Prop := ∃ v, e = .returned (.tuple #[v, .int .i64 n]) ∧ SlB (fun k => w.heap.size ≤ k) w' v l ∧ Below w.heap.size w w'
theorem FtEnd.seal {w w' : World} {l : List (BitVec 8)} {n : Int} {e : Ending} (h : FtEnd w l n e w') : SealEnd w l n e w' := let ⟨v, e, hs, hb⟩ := h; ⟨v, e, hs.sl, hb⟩
theorem bz_le (p : Nat) (z k : Int) (h1 : p ≤ 216) : BZ p z k ≤ 9223372036854775807 := by
 have := itn_le259 p h1
 unfold BZ
 split <;> omega
theorem chg_none {w w' : World} (h : Chg (fun _ => False) w w') : Below w.heap.size w w' := h.below (Below.refl _ _) (fun _ h => h.elim) (Nat.le_refl _)
set_option maxHeartbeats 4000000 in
theorem pfetch14_any {F : Foot} {b : Nat} {s : St6} (key : List (BitVec 8)) (p : Nat) (z : Int) (r : RefV) (w : World) (hT : TT w) (lk : key.length = 32) (hp : PSt F b w s) (hok : Ok6 1000 s) (hw0 : s.w = []) (h1 : p ≤ 216) (hrw : r.Wf) :
 Calls Tryz.prog 25 #[.pointer none, rq b, .agg (u8s key).toArray, .agg (psC p), .int .i64 z, .agg (refC r)] w (FtEnd w (fetchT s.b key p z r).1 (fetchT s.b key p z r).2) := by
 have bk := fun wx => pblock_any p z r.pl wx h1
 have hbz := bz_le p z r.pl h1
 have hrd : ∀ n : Nat, (n : Int) = BZ p z r.pl → n < s.n → stRead s n = blkOf s.b (BZ p z r.pl).toNat := fun n hn _ => by
  rw [← hn, Int.toNat_natCast]
  unfold stRead
  rw [hw0]
  rfl
 have hsb := hok.b
 have rdg := fun (n : Nat) wx (h : Below w.heap.size w wx) (hn : n < s.n) => pread_any n wx (pst_below hp h) hok hn
 have rdb := fun wx (h : Below w.heap.size w wx) hbad => pread_bad (BZ p z r.pl) wx (pst_below hp h) hok hbad
 have op := fun (l : List (BitVec 8)) (v : Value) (y wx : World) (h : Below w.heap.size w wx) (hv : SlB (fun k => y.heap.size ≤ k) wx v l) (hl : l.length = 256) => popen_any (F := fun _ => False) (bp := .pointer none) (ts := []) key lk r hrw (BZ p z r.pl) hbz l v wx wx (.inl ⟨rfl, fun _ h => h⟩) (by simp) hv (fun _ _ h => h) (by omega) (hT.below h).1 (hT.below h).2 (Below.refl _ _) (fun _ h => h.elim)
 have hF : fetchT s.b key p z r = if BZ p z r.pl < 0 ∨ (s.b.length : Int) < 256 * BZ p z r.pl + 256 then ([], 1) else openR key r (BZ p z r.pl) (blkOf s.b (BZ p z r.pl).toNat) := rfl
 obtain ⟨Y, hY⟩ : ∃ Y, Y = fetchT s.b key p z r := ⟨_, rfl⟩
 rw [← hY] at hF ⊢
 have rs := refC_size hrw; have r0 := ref0 r
 obtain ⟨M, hM⟩ : ∃ M, M = refC r := ⟨_, rfl⟩
 have kc : (u8s key).toArray.size = 32 := by simp [u8s_length, lk]
 obtain ⟨KC, hKC⟩ : ∃ K, K = (u8s key).toArray := ⟨_, rfl⟩
 have cs : (psC p).size = 1 := rfl
 obtain ⟨C, hC⟩ : ∃ C, C = psC p := ⟨_, rfl⟩
 rw [← hM] at rs r0 op ⊢
 rw [← hKC] at kc op ⊢
 rw [← hC] at bk cs ⊢
 obtain ⟨Z, hZ⟩ : ∃ Z, Z = BZ p z r.pl := ⟨_, rfl⟩
 rw [← hZ] at bk hrd rdb op hF hbz
 obtain ⟨pl, hpl⟩ : ∃ pl, pl = r.pl := ⟨_, rfl⟩
 rw [← hpl] at bk r0
 have a0 : At (((w.alloc (.cells KC 22)).alloc (.cells C 48)).alloc (.cells M 31)) w.heap.size KC 22 := ((at_new w KC _).alloc _).alloc _
 have a1 : At (((w.alloc (.cells KC 22)).alloc (.cells C 48)).alloc (.cells M 31)) (w.heap.size + 1) C 48 := by
  have h := (at_new (w.alloc (.cells KC 22)) C 48).alloc (.cells M 31)
  simpa using h
 have a2 : At (((w.alloc (.cells KC 22)).alloc (.cells C 48)).alloc (.cells M 31)) (w.heap.size + 1 + 1) M 31 := by
  have h := at_new ((w.alloc (.cells KC 22)).alloc (.cells C 48)) M 31
  simpa using h
 have b4 : Below w.heap.size w (((w.alloc (.cells KC 22)).alloc (.cells C 48)).alloc (.cells M 31)) := (((Below.refl _ _).alloc (Nat.le_refl _) _).alloc (by simp) _).alloc (by simp; omega) _
 have BK := zh bk; have RD := zh hrd; have SB := zh hsb; have RDG := zh rdg; have RDB := zh rdb; have OP := zh op; have HF := zh hF; have RS := zh rs; have R0 := zh r0; have KS := zh kc; have CS := zh cs; have A0 := zh a0; have A1 := zh a1; have A2 := zh a2; have B4 := zh b4; have ZM := zh hbz; have OK := zh hok
 clear bk hrd hsb rdg rdb op hF rs r0 kc cs a0 a1 a2 b4 hbz hZ hpl hC hKC hM hY hok hp hT lk hw0 hrw
 go_enter Tryz.func25, Tryz.ntmps25
 go_upto_region 1 with fail
 generalize ((w.alloc (.cells KC 22)).alloc (.cells C 48)).alloc (.cells M 31) = w4 at *
 have f0 : w4.cell? ⟨w.heap.size + 1 + 1, 0, none⟩ = some (.int .i64 pl) := (A2.out.cell 0).trans R0.out
 go_wp2_with (refine wpList_load_all zr 48 _ zr (w.heap.size + 1) zr _ Tryz.underlying48 zr C _ A1.out (by rw [CS.out]; exact infoPS) ?_)
 refine (BK.out _).mono ?_
 rintro e w5 ⟨rfl, hb5⟩
 have B5 := zh (B4.out.trans (hb5.mono B4.out.size)); have A05 := zh (A0.out.below hb5 A0.out.lt); have A25 := zh (A2.out.below hb5 A2.out.lt)
 clear hb5 f0 A0 A1 A2 B4
 by_cases hz : Z < 0
 ·have hy : Y = ([], 1) := by rw [HF.out, if_pos (.inl hz)]
  have HY := zh hy
  clear hy
  go_wp2_with fail
  go_ret2
  exact ⟨_, by rw [HY.out]; rfl, by rw [HY.out]; exact slB_nil _ _, B5.out⟩
 ·by_cases hb : Z < (s.n : Int)
  ·obtain ⟨n, hn⟩ : ∃ n : Nat, (n : Int) = Z := ⟨Z.toNat, by omega⟩
   have hns : n < s.n := by omega
   have hy : Y = openR key r Z (stRead s n) := by
    rw [RD.out n hn hns, HF.out, if_neg (by have := SB.out; omega)]
   have rg := fun wx h => RDG.out n wx h hns
   have hl : (stRead s n).length = 256 := by
    rw [RD.out n hn hns, blkOf_length SB.out (by omega)]
   obtain ⟨l, hle⟩ : ∃ l, l = stRead s n := ⟨_, rfl⟩
   rw [← hle] at hy rg hl
   have HY := zh hy; have RG := zh rg; have HL := zh hl
   subst hn
   clear hy rg hl hle hns hb
   go_wp2_with fail
   refine (RG.out _ B5.out).mono ?_
   rintro e w6 ⟨v6, rfl, hs6, hb6⟩
   have S6 := zh hs6; have B6 := zh (B5.out.trans (hb6.mono B5.out.size)); have A06 := zh (A05.out.below hb6 A05.out.lt); have A26 := zh (A25.out.below hb6 A25.out.lt)
   clear hs6 hb6 A05 A25 
   go_wp2_with (first
    | (refine wpList_load_all zr 22 _ zr w.heap.size zr _ Tryz.underlying22 zr KC _ A06.out (by rw [KS.out]; kernel_rfl) ?_)
    | (refine wpList_load_all zr 31 _ zr (w.heap.size + 1 + 1) zr _ Tryz.underlying31 zr M _ A26.out (by rw [RS.out]; exact infoRfP) ?_))
   refine (OP.out l _ w5 _ B6.out S6.out HL.out).mono ?_
   rintro e w7 ⟨v7, F7, rfl, hs7, _, _, hc7⟩
   have S7 := zh (hs7.mono (G := fun k => w.heap.size ≤ k) fun k hk _ => Nat.le_trans B6.out.size hk.1); have B7 := zh (B6.out.trans ((chg_none hc7).mono B6.out.size))
   clear hs7 hc7
   go_wp2_with fail
   go_ret2
   exact ⟨_, by rw [HY.out]; rfl, by rw [HY.out]; exact S7.out, B7.out⟩
  ·have hy : Y = ([], 1) := by rw [HF.out, if_pos (.inr (by have := SB.out; omega))]
   have HY := zh hy; have RB := zh (fun wx h => RDB.out wx h (.inr (by omega)))
   clear hy
   go_wp2_with fail
   refine (RB.out _ B5.out).mono ?_
   rintro e w6 ⟨v6, rfl, hs6, hb6⟩
   have B6 := zh (B5.out.trans (hb6.mono B5.out.size))
   clear hs6 hb6
   go_wp2_with fail
   go_ret2
   exact ⟨_, by rw [HY.out]; rfl, by rw [HY.out]; exact slB_nil _ _, B6.out⟩
set_option maxHeartbeats 2000000 in
theorem pfetchKids_own {F : Foot} {b : Nat} {s : St6} (key : List (BitVec 8)) (p : Nat) (z : Int) (r : RefV) (w : World) (hT : TT w) (lk : key.length = 32) (hp : PSt F b w s) (hok : Ok6 1000 s) (hw0 : s.w = []) (h1 : p ≤ 216) (hrw : r.Wf) :
 Calls Tryz.prog 50 #[.pointer none, rq b, .agg (u8s key).toArray, .agg (psC p), .int .i64 z, .agg (refC r)] w (RfOwn 31 w (fkT s.b key p z r).1 (fkT s.b key p z r).2) := by
 have ft := fun wx (h : Below w.heap.size w wx) => pfetch14_any key p z r wx (hT.below h) lk (pst_below hp h) hok hw0 h1 hrw
 have kd := fun v wx h hl => pkids14_own p z (fetchT s.b key p z r).1 v wx h hl h1
 have hlen : (fetchT s.b key p z r).1.length ≤ 1000 := by
  unfold fetchT
  split
  ·simp
  ·have hb : (blkOf s.b (BZ p z r.pl).toNat).length ≤ 256 := by unfold blkOf; rw [List.length_take]; omega
   unfold openR
   split
   ·simp
   ·split
    all_goals first | (show ([] : List (BitVec 8)).length ≤ 1000; simp; done) | (show (sealL _ _ _ _).length ≤ 1000; rw [sealL_length]; omega)
 have hF : fkT s.b key p z r = if (fetchT s.b key p z r).2 ≠ 0 then ([], (fetchT s.b key p z r).2) else kidsT p z (fetchT s.b key p z r).1 := rfl
 obtain ⟨Y, hY⟩ : ∃ Y, Y = fkT s.b key p z r := ⟨_, rfl⟩
 rw [← hY] at hF ⊢
 obtain ⟨X, hX⟩ : ∃ X, X = fetchT s.b key p z r := ⟨_, rfl⟩
 rw [← hX] at hF ft kd hlen
 obtain ⟨pg, q⟩ := X
 simp only at hF ft kd hlen
 have rs := refC_size hrw
 obtain ⟨M, hM⟩ : ∃ M, M = refC r := ⟨_, rfl⟩
 have kc : (u8s key).toArray.size = 32 := by simp [u8s_length, lk]
 obtain ⟨KC, hKC⟩ : ∃ K, K = (u8s key).toArray := ⟨_, rfl⟩
 have cs : (psC p).size = 1 := rfl
 obtain ⟨C, hC⟩ : ∃ C, C = psC p := ⟨_, rfl⟩
 rw [← hM] at rs ft ⊢
 rw [← hKC] at kc ft ⊢
 rw [← hC] at ft kd cs ⊢
 have a0 : At (((w.alloc (.cells KC 22)).alloc (.cells C 48)).alloc (.cells M 31)) w.heap.size KC 22 := ((at_new w KC _).alloc _).alloc _
 have a1 : At (((w.alloc (.cells KC 22)).alloc (.cells C 48)).alloc (.cells M 31)) (w.heap.size + 1) C 48 := by
  have h := (at_new (w.alloc (.cells KC 22)) C 48).alloc (.cells M 31)
  simpa using h
 have a2 : At (((w.alloc (.cells KC 22)).alloc (.cells C 48)).alloc (.cells M 31)) (w.heap.size + 1 + 1) M 31 := by
  have h := at_new ((w.alloc (.cells KC 22)).alloc (.cells C 48)) M 31
  simpa using h
 have b4 : Below w.heap.size w (((w.alloc (.cells KC 22)).alloc (.cells C 48)).alloc (.cells M 31)) := (((Below.refl _ _).alloc (Nat.le_refl _) _).alloc (by simp) _).alloc (by simp; omega) _
 have FT := zh ft; have KD := zh kd; have HL := zh hlen; have HF := zh hF; have RS := zh rs; have KS := zh kc; have CS := zh cs; have A0 := zh a0; have A1 := zh a1; have A2 := zh a2; have B4 := zh b4
 clear ft kd hlen hF rs kc cs a0 a1 a2 b4 hX hY hM hKC hC hT lk hp hok hw0 hrw
 go_enter Tryz.func50, Tryz.ntmps50
 go_upto_region 1 with fail
 generalize ((w.alloc (.cells KC 22)).alloc (.cells C 48)).alloc (.cells M 31) = w4 at *
 go_wp2_with (first
  | (refine wpList_load_all zr 22 _ zr w.heap.size zr _ Tryz.underlying22 zr KC _ A0.out (by rw [KS.out]; kernel_rfl) ?_)
  | (refine wpList_load_all zr 48 _ zr (w.heap.size + 1) zr _ Tryz.underlying48 zr C _ A1.out (by rw [CS.out]; exact infoPS) ?_)
  | (refine wpList_load_all zr 31 _ zr (w.heap.size + 1 + 1) zr _ Tryz.underlying31 zr M _ A2.out (by rw [RS.out]; exact infoRfP) ?_))
 refine (FT.out _ B4.out).mono ?_
 rintro e w5 ⟨v5, rfl, hs5, hb5⟩
 have S5 := zh hs5.sl; have B5 := zh (B4.out.trans (hb5.mono B4.out.size)); have A15 := zh (A1.out.below hb5 A1.out.lt)
 clear hs5 hb5 A0 A1 A2 B4
 by_cases hq : q = 0
 ·subst hq
  have hy : Y = kidsT p z pg := by rw [HF.out, if_neg (fun n => n rfl)]
  have HY := zh hy
  clear hy
  go_wp2_with (refine wpList_load_all zr 48 _ zr (w.heap.size + 1) zr _ Tryz.underlying48 zr C _ A15.out (by rw [CS.out]; exact infoPS) ?_)
  refine (KD.out _ _ S5.out HL.out).mono ?_
  rintro e w6 ⟨v6, rfl, hr6, hb6⟩
  have R6 := zh hr6; have B6 := zh (B5.out.trans (hb6.mono B5.out.size))
  clear hr6 hb6
  go_wp2_with fail
  go_ret2
  exact ⟨_, by rw [HY.out]; rfl, by rw [HY.out]; exact ownsRow_base R6.out B5.out.size, B6.out⟩
 ·have hy : Y = ([], q) := by rw [HF.out, if_pos hq]
  have HY := zh hy
  clear hy
  go_wp2_with fail
  go_ret2
  exact ⟨_, by rw [HY.out]; rfl, by rw [HY.out]; exact World.ownsRow_nil _ _ _ _, B5.out⟩
theorem pfetchKids_any {F : Foot} {b : Nat} {s : St6} (key : List (BitVec 8)) (p : Nat) (z : Int) (r : RefV) (w : World) (hT : TT w) (lk : key.length = 32) (hp : PSt F b w s) (hok : Ok6 1000 s) (hw0 : s.w = []) (h1 : p ≤ 216) (hrw : r.Wf) :
 Calls Tryz.prog 50 #[.pointer none, rq b, .agg (u8s key).toArray, .agg (psC p), .int .i64 z, .agg (refC r)] w (RfEnd w (fkT s.b key p z r).1 (fkT s.b key p z r).2) :=
 (pfetchKids_own key p z r w hT lk hp hok hw0 h1 hrw).mono fun _ _ ⟨v, e, ho, hb⟩ => ⟨v, e, own_slrf ho (fkT_wf _ _ _ _ _), hb⟩
theorem RS.oneC {w : World} {p : Nat} {vL vF : Value} (h : RS w p vL vF) : (rsC p vL vF).all (·.oneCell') = true := by
 obtain ⟨a, c, rfl⟩ := h.l.hd
 obtain ⟨b, d, rfl⟩ := h.f.hd
 exact rsC_one _ _ _ _ _ _ _
set_option maxHeartbeats 2000000 in
theorem pway_none {b : Nat} (key : List (BitVec 8)) (p : Nat) (r : RefV) (z : Int) (w : World) (h1 : p ≤ 216) (hz : z < 0 ∨ (p : Int) ≤ z) :
 Calls Tryz.prog 20 #[.pointer none, rq b, .agg (u8s key).toArray, .agg (psC p), .agg (refC r), .int .i64 z] w (WyEnd w ([], [], 1)) := by
 have pt := fun wx => ppath_any p z wx h1
 have hw : WZ p z = [] := by unfold WZ; rw [if_neg (by omega)]
 rw [hw] at pt
 unfold WyEnd
 show Calls _ _ _ _ (fun e w' => ∃ vr vp, e = .returned (.tuple #[vr, vp, .int .i64 1]) ∧ SlRf w' vr [] ∧ Sl w' vp [] ∧ Below w.heap.size w w')
 obtain ⟨M, hM⟩ : ∃ M, M = refC r := ⟨_, rfl⟩
 obtain ⟨KC, hKC⟩ : ∃ K, K = (u8s key).toArray := ⟨_, rfl⟩
 have cs : (psC p).size = 1 := rfl
 obtain ⟨C, hC⟩ : ∃ C, C = psC p := ⟨_, rfl⟩
 rw [← hM, ← hKC]
 rw [← hC] at pt cs ⊢
 have a1 : At (((w.alloc (.cells KC 22)).alloc (.cells C 48)).alloc (.cells M 31)) (w.heap.size + 1) C 48 := by
  have h := (at_new (w.alloc (.cells KC 22)) C 48).alloc (.cells M 31)
  simpa using h
 have b4 : Below w.heap.size w (((w.alloc (.cells KC 22)).alloc (.cells C 48)).alloc (.cells M 31)) := (((Below.refl _ _).alloc (Nat.le_refl _) _).alloc (by simp) _).alloc (by simp; omega) _
 have PT := zh pt; have CS := zh cs; have A1 := zh a1; have B4 := zh b4
 clear pt cs a1 b4 hM hKC hC hw hz
 go_enter Tryz.func20, Tryz.ntmps20
 go_upto_region 1 with fail
 generalize ((w.alloc (.cells KC 22)).alloc (.cells C 48)).alloc (.cells M 31) = w4 at *
 go_wp2_with (refine wpList_load_all zr 48 _ zr (w.heap.size + 1) zr _ Tryz.underlying48 zr C _ A1.out (by rw [CS.out]; exact infoPS) ?_)
 refine (PT.out _).mono ?_
 rintro e w5 ⟨vk, rfl, hk, hb5⟩
 obtain ⟨ak, ck, rfl⟩ := hk.hdn (n := 0) rfl
 have B5 := zh (B4.out.trans (hb5.mono B4.out.size))
 clear hk hb5
 go_wp2_with fail
 go_ret3
 exact ⟨_, _, rfl, SlRf.nil _, sl_none _, B5.out⟩
set_option maxHeartbeats 8000000 in
theorem pway_some {F : Foot} {b : Nat} {s : St6} (key : List (BitVec 8)) (p : Nat) (root : RefV) (x : Nat) (w : World) (hT : TT w) (lk : key.length = 32) (hp : PSt F b w s) (hok : Ok6 1000 s) (hw0 : s.w = []) (h0 : 1 ≤ p) (h1 : p ≤ 216) (hrw : root.Wf) (hx : x < p) :
 Calls Tryz.prog 20 #[.pointer none, rq b, .agg (u8s key).toArray, .agg (psC p), .agg (refC root), .int .i64 (x : Int)] w (WyEnd w (wayT s.b key p root (x : Int))) := by
 have htop := top_le p
 have pt := fun wx => ppath_any p (x : Int) wx h1
 have hw : WZ p (x : Int) = pathZ p x (topn p + 1) := by unfold WZ; rw [if_pos ⟨by omega, by omega⟩, Int.toNat_natCast]
 rw [hw] at pt
 have kl := pathZ_length p x (topn p + 1)
 have kg : ∀ i, i < topn p + 1 → (pathZ p x (topn p + 1)).getD i 0 = (itp p x i : Int) := fun i hi => by simp [pathZ, List.getD_eq_getElem?_getD, hi]
 obtain ⟨K, hK⟩ : ∃ K, K = pathZ p x (topn p + 1) := ⟨_, rfl⟩
 rw [← hK] at pt kl kg
 have hwf := fun k => wayL_wf (B := s.b) (key := key) (p := p) hrw x k
 have hgw := fun k => getD_wf (wayG_wf (B := s.b) (key := key) (p := p) hrw x k) 0
 have fk0 := fun (i : Nat) (r : RefV) wx (h : Below w.heap.size w wx) (hr : r.Wf) => pfetchKids_any key p (itp p x i : Int) r wx (hT.below h) lk (pst_below hp h) hok hw0 h1 hr
 have ft0 := fun (r : RefV) wx (h : Below w.heap.size w wx) (hr : r.Wf) => pfetch14_any key p (x : Int) r wx (hT.below h) lk (pst_below hp h) hok hw0 h1 hr
 have par := fun (i : Nat) wx => pparent_any p (itp p x i : Int) wx h1
 have hpz := fun i (hi : i < topn p) => itp_par p x i h0 h1 hx hi
 have hch := fun m (hm : m < topn p) => itp_child p x m h0 h1 hx hm
 obtain ⟨T, hTp⟩ : ∃ T, T = topn p := ⟨_, rfl⟩
 obtain ⟨ok, hokf⟩ : ∃ f : Nat → Int, f = fun i => (wayG s.b key p root x (T - i)).2 := ⟨_, rfl⟩
 obtain ⟨WL, hWL⟩ : ∃ f : Nat → List RefV, f = fun i => wayL s.b key p root x (T - i) := ⟨_, rfl⟩
 obtain ⟨hd, hhd⟩ : ∃ f : Nat → RefV, f = fun i => (wayG s.b key p root x (T - i)).1.getD 0 zref := ⟨_, rfl⟩
 obtain ⟨fk2, hfk2⟩ : ∃ f : Nat → List RefV × Int, f = fun i => fkT s.b key p (itp p x i : Int) (hd i) := ⟨_, rfl⟩
 obtain ⟨aw, haw⟩ : ∃ f : Nat → Nat, f = fun i => (parN p (itp p x i)).2 := ⟨_, rfl⟩
 have l0 : (List.replicate (T + 1) zref).set T root = WL T := by
  rw [hWL, hTp]; show _ = wayL s.b key p root x (topn p - topn p); rw [Nat.sub_self]; exact wayL_zero
 have o0 : ok T = 0 := by rw [hokf]; show (wayG s.b key p root x (T - T)).2 = 0; rw [Nat.sub_self]; rfl
 have ll : ∀ i, i ≤ T → ok i = 0 → (WL i).length = T + 1 := fun i hi h => by
  rw [hokf] at h; rw [hWL, hTp]; subst hTp; exact wayL_length (by omega) h
 have lh : ∀ i, i ≤ T → (WL i).getD i zref = hd i := fun i hi => by
  rw [hWL, hhd]
  have h := wayL_head (B := s.b) (key := key) (p := p) (root := root) (x := x) (k := T - i)
  rw [← hTp, show T - (T - i) = i by omega] at h
  exact h
 have hdw : ∀ i, (hd i).Wf := fun i => by rw [hhd]; exact hgw _
 have lw : ∀ i, ∀ r ∈ WL i, r.Wf := fun i => by rw [hWL]; exact hwf _
 have st : ∀ i, 0 < i → i ≤ T → ok i = 0 → (fk2 i).2 = 0 → ok (i - 1) = 0 ∧ (WL i).set (i - 1) ((fk2 i).1.getD (aw (i - 1)) zref) = WL (i - 1) := fun i hi hl h h2 => by
  rw [hokf] at h ⊢
  rw [hfk2, hhd] at h2
  have e1 : topn p - (T - i) = i := by omega
  have e2 : topn p - (T - i + 1) = i - 1 := by omega
  have e3 : T - (i - 1) = T - i + 1 := by omega
  have s1 := wayG_step h
  rw [e1] at s1
  rw [if_neg (fun n => n h2)] at s1
  have s2 := wayL_set (B := s.b) (key := key) (p := p) (root := root) (x := x) (k := T - i) (by omega) h (by rw [e1]; exact h2)
  rw [e1, e2] at s2
  refine ⟨by show (wayG s.b key p root x (T - (i - 1))).2 = 0; rw [e3, s1], ?_⟩
  rw [hWL, hfk2, haw, hhd]
  show _ = wayL s.b key p root x (T - (i - 1))
  rw [e3]
  exact s2
 have er : ∀ i, 0 < i → i ≤ T → ok i = 0 → (fk2 i).2 ≠ 0 → wayT s.b key p root (x : Int) = ([], [], (fk2 i).2) := fun i hi hl h h2 => by
  rw [hokf] at h
  have e1 : topn p - (T - i) = i := by omega
  have s1 := wayG_step h
  rw [e1] at s1
  have e5 : fkT s.b key p (itp p x i : Int) ((wayG s.b key p root x (T - i)).1.getD 0 zref) = fk2 i := by rw [hfk2, hhd]
  rw [e5, if_pos h2] at s1
  exact wayT_err hx (k := T - i + 1) (by omega) (by rw [s1]) h2
 have fl : ∀ i, 0 < i → i ≤ T → (fk2 i).2 = 0 → aw (i - 1) < (fk2 i).1.length := fun i hi hl h => by
  have hc := hch (i - 1) (by omega)
  rw [show i - 1 + 1 = i by omega] at hc
  rw [hfk2] at h ⊢
  rw [haw]
  show _ < (fkT s.b key p (itp p x i : Int) (hd i)).1.length
  rw [fkT_len hc.2.2.2.1 hc.2.2.2.2 h]
  exact hc.2.1
 have pz : ∀ i, 0 < i → i ≤ T → PZ p (itp p x (i - 1) : Int) = ((itp p x i : Int), (aw (i - 1) : Int), true) := fun i hi hl => by
  have h := hpz (i - 1) (by omega)
  rw [show i - 1 + 1 = i by omega] at h
  rw [h, haw]
 have fkw : ∀ i, ∀ r ∈ (fk2 i).1, r.Wf := fun i => by rw [hfk2]; exact fkT_wf _ _ _ _ _
 have hla : ok 0 = 0 → wayT s.b key p root (x : Int) = if (fetchT s.b key p (x : Int) (hd 0)).2 ≠ 0 then ([], [], (fetchT s.b key p (x : Int) (hd 0)).2) else (WL 0, (fetchT s.b key p (x : Int) (hd 0)).1, 0) := fun h => by
  rw [hokf] at h
  have g := wayT_last (B := s.b) (key := key) (p := p) (root := root) hx (by rw [← hTp]; exact h)
  have e9 : WL 0 = (wayG s.b key p root x (topn p)).1 := by rw [hWL]; show wayL s.b key p root x (T - 0) = _; rw [Nat.sub_zero, hTp]; exact wayL_last
  have e8 : hd 0 = (wayG s.b key p root x (topn p)).1.getD 0 zref := by rw [hhd]; show (wayG s.b key p root x (T - 0)).1.getD 0 zref = _; rw [Nat.sub_zero, hTp]
  rw [g, e8, e9]
 have fk : ∀ i wx, Below w.heap.size w wx → Calls Tryz.prog 50 #[.pointer none, rq b, .agg (u8s key).toArray, .agg (psC p), .int .i64 (itp p x i : Int), .agg (refC (hd i))] wx (RfEnd wx (fk2 i).1 (fk2 i).2) := fun i wx h => by rw [hfk2]; exact fk0 i (hd i) wx h (hdw i)
 have ft := fun wx h => ft0 (hd 0) wx h (hdw 0)
 clear ft0 fk0
 obtain ⟨FT, hFT⟩ : ∃ f, f = fetchT s.b key p (x : Int) (hd 0) := ⟨_, rfl⟩
 rw [← hFT] at ft hla
 obtain ⟨Y, hY⟩ : ∃ Y, Y = wayT s.b key p root (x : Int) := ⟨_, rfl⟩
 rw [← hY] at er hla ⊢
 obtain ⟨it, hit⟩ : ∃ f : Nat → Nat, f = itp p x := ⟨_, rfl⟩
 rw [← hit] at kg fk par pz
 rw [← hTp] at kl kg htop
 obtain ⟨i2, hi2, hz2, hs2, hb2⟩ := info_parts elemRP.2
 have rs := refC_size hrw; have ro := refC_one root
 obtain ⟨M, hM⟩ : ∃ M, M = refC root := ⟨_, rfl⟩
 have hrm : refL root = M.toList := by rw [hM]; rfl
 have kc : (u8s key).toArray.size = 32 := by simp [u8s_length, lk]
 obtain ⟨KC, hKC⟩ : ∃ K, K = (u8s key).toArray := ⟨_, rfl⟩
 have cs : (psC p).size = 1 := rfl
 obtain ⟨C, hC⟩ : ∃ C, C = psC p := ⟨_, rfl⟩
 rw [← hM] at rs ro ⊢
 rw [← hKC] at kc ft fk ⊢
 rw [← hC] at pt ft fk par cs ⊢
 have a0 : At (((w.alloc (.cells KC 22)).alloc (.cells C 48)).alloc (.cells M 31)) w.heap.size KC 22 := ((at_new w KC _).alloc _).alloc _
 have a1 : At (((w.alloc (.cells KC 22)).alloc (.cells C 48)).alloc (.cells M 31)) (w.heap.size + 1) C 48 := by
  have h := (at_new (w.alloc (.cells KC 22)) C 48).alloc (.cells M 31)
  simpa using h
 have a2 : At (((w.alloc (.cells KC 22)).alloc (.cells C 48)).alloc (.cells M 31)) (w.heap.size + 1 + 1) M 31 := by
  have h := at_new ((w.alloc (.cells KC 22)).alloc (.cells C 48)) M 31
  simpa using h
 have b4 : Below w.heap.size w (((w.alloc (.cells KC 22)).alloc (.cells C 48)).alloc (.cells M 31)) := (((Below.refl _ _).alloc (Nat.le_refl _) _).alloc (by simp) _).alloc (by simp; omega) _
 unfold WyEnd
 have PT := zh pt; have KL := zh kl; have KG := zh kg; have L0 := zh l0; have O0 := zh o0; have LL := zh ll; have LH := zh lh; have HDW := zh hdw; have LW := zh lw; have ST := zh st; have ER := zh er; have FL := zh fl; have PZH := zh pz; have FKW := zh fkw; have LA := zh hla; have FK := zh fk; have FTH := zh ft; have PAR := zh par
 have I2 := zh hi2; have Z2 := zh hz2; have S2 := zh hs2; have B2 := zh hb2; have RS := zh rs; have RO := zh ro; have HM := zh hrm; have KS := zh kc; have CS := zh cs; have RWF := zh hrw
 have A0 := zh a0; have A1 := zh a1; have A2 := zh a2; have B4 := zh b4
 clear pt kl kg l0 o0 ll lh hdw lw st er fl pz fkw hla fk ft par hi2 hz2 hs2 hb2 rs ro hrm kc cs a0 a1 a2 b4 hM hKC hC hFT hY hit hokf hWL hhd hfk2 haw hTp hK hpz hch hgw hwf hw hT lk hp hok hw0 hrw h0 h1 hx
 go_enter Tryz.func20, Tryz.ntmps20
 go_upto_region 1 with fail
 generalize ((w.alloc (.cells KC 22)).alloc (.cells C 48)).alloc (.cells M 31) = w4 at *
 go_wp2_with (refine wpList_load_all zr 48 _ zr (w.heap.size + 1) zr _ Tryz.underlying48 zr C _ A1.out (by rw [CS.out]; exact infoPS) ?_)
 refine (PT.out _).mono ?_
 rintro e w5 ⟨vk, rfl, hk, hb5⟩
 obtain ⟨N, hN⟩ : ∃ N, N = T + 1 := ⟨_, rfl⟩
 rw [← hN] at KL
 obtain ⟨ak, ck, rfl⟩ := hk.hdn KL.out
 have HK := zh hk; have B5 := zh (B4.out.trans (hb5.mono B4.out.size)); have A05 := zh (A0.out.below hb5 A0.out.lt); have A15 := zh (A1.out.below hb5 A1.out.lt); have A25 := zh (A2.out.below hb5 A2.out.lt)
 have nn0 : ¬ (N : Int) = 0 := by omega
 have NT : Hid ((N : Int) - 1 = (T : Int)) := zh (by omega)
 have hN9 : N ≤ 4 := by omega
 have HN := zh hN
 clear hk hb5 A0 A1 A2 B4 hN htop
 go_upto_region 5 with (refine wpList_make_full _ zr _ _ 64 zr w5.heap.size 31 i2 (.agg (refC zref)) 34 Tryz.underlying64 I2.out Z2.out S2.out .i64 .i64 (N : Int) (N : Int) N zr zr zr zr (by rw [B2.out]; omega) (by simp [maxLen]; omega) (Nat.le_refl _) ?_; intro w6 ho6 hg6; have O6 := zh ho6; have B6 : Hid (Below w5.heap.size w5 w6) := zh ((Below.refl _ _).grown hg6 (Nat.le_refl _) (fun k e => by cases e)); clear ho6 hg6)
 have o6 : OwnRf w6 w5.heap.size 31 (.slice (some ⟨w5.heap.size, 0, none⟩) N N) (List.replicate (T + 1) zref) := by
  have h := O6.out
  rw [made_refs, HN.out] at h
  rw [HN.out]
  show w6.ownsRow _ _ _ _ (List.replicate (T + 1) zref).length _
  rw [List.length_replicate]
  exact h
 obtain ⟨g, hg⟩ : ∃ g, g = w5.heap.size := ⟨_, rfl⟩
 obtain ⟨g', cap', cur, ev, hgB, hgl, hcur, hfit, hown⟩ := own_store (i := T) o6 (fun r hr => by rw [List.eq_of_mem_replicate hr]; exact zref_wf) RWF.out (by simp)
 injection ev with ev1 ev2 ev3
 injection ev1 with ev1
 injection ev1 with ev1 _ _
 rw [← hg] at ev1
 subst ev1
 rw [L0.out, HM.out] at hown
 have CUR := zh hcur; have FIT := zh hfit; have OWN := zh hown
 have A06 := zh (A05.out.below B6.out A05.out.lt); have A16 := zh (A15.out.below B6.out A15.out.lt); have A26 := zh (A25.out.below B6.out A25.out.lt)
 have HG := zh hg
 rw [← hg]
 clear o6 hgB hgl hcur hfit hown ev2 ev3 hg
 go_upto_region 6 with fail
 rw [NT.out]
 have hTN : (T : Int) < (N : Int) := by have := HN.out; omega
 go_upto_region 7 with (first
  | (refine wpList_load_all zr 31 _ zr (w.heap.size + 1 + 1) zr _ Tryz.underlying31 zr M _ A26.out (by rw [RS.out]; exact infoRfP) ?_)
  | (refine wpList_store_at zr 31 _ _ zr zr g (T * 34) M zr zr (by rw [RS.out]; exact infoRfP) cur 31 CUR.out (by rw [RS.out]; exact FIT.out) RO.out ?_))
 have B7 : Hid (Below w5.heap.size w5 (w6.setRow g (Mem.splice cur (T * 34) M.toList))) := zh (below_row B6.out (by rw [HG.out]; exact Nat.le_refl _) _)
 generalize w6.setRow g (Mem.splice cur (T * 34) M.toList) = w7 at *
 clear CUR FIT O6 B6 A06 A16 A26
 obtain ⟨kb, ko, ea, _, _⟩ := sli_at (i := 0) HK.out KL.out.symm (by have := HN.out; omega)
 subst ea
 go_wp2_with fail
 go_loopw [18] (fun vi wr => ∃ i : Nat, i ≤ T ∧ vi = .int .i64 (i : Int) ∧ ok i = 0 ∧ OwnRf wr w5.heap.size 31 (.slice (some ⟨g, 0, none⟩) N N) (WL i) ∧ Below w5.heap.size w5 wr) (fun vi _ => (intOf vi).toNat)
 case atStart => exact ⟨T, Nat.le_refl _, rfl, O0.out, by rw [HG.out]; exact OWN.out, B7.out⟩
 case round =>
  obtain ⟨i, hi, rfl, hk0, ho, hbw⟩ := hrel
  have OW := zh ho; have BW := zh hbw; have OK := zh hk0
  have BX : Hid (Below w.heap.size w wr) := zh (B5.out.trans (hbw.mono B5.out.size))
  have A0W := zh (A05.out.below hbw A05.out.lt); have A1W := zh (A15.out.below hbw A15.out.lt)
  have SW := zh (own_slrf ho (LW.out i))
  have hln := LL.out i hi hk0
  rw [← HN.out] at hln
  have LN := zh hln.symm
  have hgl : g < wr.heap.size := (World.ownsRow.lt ho g rfl).2
  have hkc : ∀ j, j ≤ T → ∀ y, Below wr.heap.size wr y → y.cell? ⟨kb, ko + j, none⟩ = some (.int .i64 (it j : Int)) := fun j hj y hy => by
   have h := sli_cell (i := j) ((HK.out.below hbw).below hy) KL.out.symm (by have := HN.out; omega)
   rw [KG.out j (by omega)] at h
   exact h
  have hdr : ∀ y, Below wr.heap.size wr y → y.rangeAt g (0 + i * 34) (refL (hd i)) := fun y hy => by
   have h := slrf_cell (i := i) (SW.out.below hy) LN.out (by have := HN.out; omega)
   rw [LH.out i hi] at h
   exact h
  have KC1 := zh hkc; have HDR := zh hdr; have GL := zh hgl
  clear ho hbw hk0 hln hkc hdr hgl SW
  by_cases h0i : 0 < i
  ·have hpos : (i : Int) > 0 := by omega
   have hpos2 : ¬ (i : Int) ≤ 0 := by omega
   have hfk := FK.out i wr.drew ((BX.out).drew)
   have her := ER.out i h0i hi OK.out
   have hst := ST.out i h0i hi OK.out
   have hfl := FL.out i h0i hi
   have hpz := PZH.out i h0i hi
   have hfw := FKW.out i
   have hpr := PAR.out (i - 1)
   rw [hpz] at hpr
   have hds := refC_size (HDW.out i)
   obtain ⟨HM1, hHM1⟩ : ∃ m, m = refC (hd i) := ⟨_, rfl⟩
   have hdm : refL (hd i) = HM1.toList := by rw [hHM1]; rfl
   rw [← hHM1] at hfk hds
   obtain ⟨kL, e, hke⟩ : ∃ a c, fk2 i = (a, c) := ⟨_, _, rfl⟩
   rw [hke] at hfk her hst hfl hfw
   simp only at hfk her hst hfl hfw
   clear hke
   have FKI := zh hfk; have ERI := zh her; have STI := zh hst; have FLI := zh hfl; have FWI := zh hfw; have PRI := zh hpr; have HDS := zh hds; have HDM := zh hdm
   clear hfk her hst hfl hpz hfw hpr hds hdm hHM1
   go_upto_region 10 with fail
   have D0 : Hid (Below wr.heap.size wr wr.drew) := zh (Below.refl _ _).drew
   refine wp_region_plan_in (fun y => Below wr.heap.size wr y) (.take 0 (.take 1 (.take 2 (.take 3 (.take 4 (.take 5 (.take 6 (.take 7 (.take 8 (.take 9 (.take 10 (.take 11 (.sole 12 (.take 13 (.take 14 (.take 15 (.take 16 (.take 17 .done)))))))))))))))))) (by kernel_rfl) (by kernel_rfl) (by kernel_rfl) D0.out ?_
   (first | refine Mem.pm1 ?_ | refine Mem.pm2 ?_ | refine Mem.pt ?_ | refine Mem.pf ?_)
   (simp only [Act.put, Mem.pa, Mem.pb, Mem.pc])
   (first | refine Mem.pm1 ?_ | refine Mem.pm2 ?_ | refine Mem.pt ?_ | refine Mem.pf ?_)
   (simp only [Act.put, Mem.pa, Mem.pb, Mem.pc])
   refine plan_row 22 _ w.heap.size _ KC 22 zr zr zr Mem.ev_a (fun w' hw' => A0W.out.below hw' A0W.out.lt) Tryz.underlying22 zr (by rw [KS.out]; kernel_rfl) ?_
   (simp only [Act.put, Mem.pa, Mem.pb, Mem.pc])
   refine plan_row 48 _ (w.heap.size + 1) _ C 48 zr zr zr Mem.ev_a (fun w' hw' => A1W.out.below hw' A1W.out.lt) Tryz.underlying48 zr (by rw [CS.out]; exact infoPS) ?_
   (simp only [Act.put, Mem.pa, Mem.pb, Mem.pc])
   (first | refine Mem.pm1 ?_ | refine Mem.pm2 ?_ | refine Mem.pt ?_ | refine Mem.pf ?_)
   (simp only [Act.put, Mem.pa, Mem.pb, Mem.pc])
   (first | refine Mem.pm1 ?_ | refine Mem.pm2 ?_ | refine Mem.pt ?_ | refine Mem.pf ?_)
   (simp only [Act.put, Mem.pa, Mem.pb, Mem.pc])
   refine plan_index 58 3 _ _ kb ko N ck i zr zr zr Mem.ev_a Mem.ev_a (by have := HN.out; omega) Tryz.underlying58 infoInt ?_
   (simp only [Act.put, Mem.pa, Mem.pb, Mem.pc])
   refine plan_cell 3 _ _ (.int .i64 (it i : Int)) _ zr zr zr Mem.ev_a (fun w' hw' => KC1.out i hi w' hw') Tryz.underlying3 zr ?_
   (simp only [Act.put, Mem.pa, Mem.pb, Mem.pc])
   (first | refine Mem.pm1 ?_ | refine Mem.pm2 ?_ | refine Mem.pt ?_ | refine Mem.pf ?_)
   (simp only [Act.put, Mem.pa, Mem.pb, Mem.pc])
   (first | refine Mem.pm1 ?_ | refine Mem.pm2 ?_ | refine Mem.pt ?_ | refine Mem.pf ?_)
   (simp only [Act.put, Mem.pa, Mem.pb, Mem.pc])
   refine plan_index_z 64 31 _ _ g 0 N N 34 i zr zr zr Mem.ev_a Mem.ev_a (by have := HN.out; omega) Tryz.underlying64 infoRfP ?_
   (simp only [Act.put, Mem.pa, Mem.pb, Mem.pc])
   refine plan_load_range 31 _ g (0 + i * 34) _ HM1 zr zr zr Mem.ev_a (fun w' hw' => by rw [← HDM.out]; exact HDR.out w' hw') Tryz.underlying31 zr (by rw [HDS.out]; exact infoRfP) ?_
   (simp only [Act.put, Mem.pa, Mem.pb, Mem.pc])
   refine plan_call 50 _ _ _ (by kernel_rfl) zr zr zr (by first | exact Mem.ev_none _ | (simp only [List.map_toArray, List.map_cons, List.map_nil, Mem.ev_tmp, List.getD_cons_succ, List.getD_cons_zero] <;> rfl)) ?_
   refine (FKI.out).mono ?_
   rintro o8 w8 ⟨vk8, rfl, hr8, hb8⟩
   have R8 := zh hr8
   have Q8 : Hid (Below wr.heap.size wr w8) := zh (D0.out.trans (hb8.mono (Nat.le_refl _)))
   clear hr8 hb8
   refine ⟨_, rfl, Q8.out, ?_⟩
   (simp only [Act.put, Mem.pa, Mem.pb, Mem.pc])
   (first | refine Mem.pm1 ?_ | refine Mem.pm2 ?_ | refine Mem.pt ?_ | refine Mem.pf ?_)
   (simp only [Act.put, Mem.pa, Mem.pb, Mem.pc])
   refine plan_extract _ 0 _ _ zr zr zr Mem.ev_a zr ?_
   (simp only [Act.put, Mem.pa, Mem.pb, Mem.pc])
   refine plan_extract _ 1 _ _ zr zr zr Mem.ev_a zr ?_
   (simp only [Act.put, Mem.pa, Mem.pb, Mem.pc])
   (first | refine Mem.pm1 ?_ | refine Mem.pm2 ?_ | refine Mem.pt ?_ | refine Mem.pf ?_)
   (simp only [Act.put, Mem.pa, Mem.pb, Mem.pc])
   (first | refine Mem.pm1 ?_ | refine Mem.pm2 ?_ | refine Mem.pt ?_ | refine Mem.pf ?_)
   (simp only [Act.put, Mem.pa, Mem.pb, Mem.pc])
   refine plan_nil ?_
   have BX8 : Hid (Below w.heap.size w w8) := zh (BX.out.trans (Q8.out.mono BX.out.size))
   obtain ⟨ak8, ck8, rfl⟩ := R8.out.hd
   by_cases he : e = 0
   ·subst he
    have hfl := FLI.out rfl
    obtain ⟨s1, s2⟩ := STI.out rfl
    have O8 := zh (ownsRow_below OW.out Q8.out)
    have B8 : Hid (Below w5.heap.size w5 w8) := zh (BW.out.trans (Q8.out.mono BW.out.size))
    have A18 := zh (A1W.out.below Q8.out A1W.out.lt)
    obtain ⟨j, hj⟩ : ∃ j, j = i - 1 := ⟨_, rfl⟩
    rw [← hj] at PRI s1 s2 hfl
    have hji : (i : Int) - 1 = (j : Int) := by omega
    have JI := zh hji
    have hj9 : j < T := by omega
    obtain ⟨aj, haj⟩ : ∃ aj, aj = aw j := ⟨_, rfl⟩
    rw [← haj] at PRI s2 hfl
    obtain ⟨rr, hrr⟩ : ∃ r, r = kL.getD aj zref := ⟨_, rfl⟩
    rw [← hrr] at s2
    have hrw : rr.Wf := by rw [hrr]; exact getD_wf FWI.out aj
    obtain ⟨rb, ro, ea, hrl, hrg⟩ := slrf_at (i := aj) R8.out rfl hfl
    rw [← hrr] at hrg
    subst ea
    have rs1 := refC_size hrw; have ro1 := refC_one rr
    obtain ⟨RM, hRM⟩ : ∃ m, m = refC rr := ⟨_, rfl⟩
    have hrm1 : refL rr = RM.toList := by rw [hRM]; rfl
    rw [← hRM] at rs1 ro1
    rw [hrm1] at hrg
    have HFL := zh hfl; have S1 := zh s1; have S2' := zh s2; have RW1 := zh hrw; have RS1 := zh rs1; have RO1 := zh ro1; have RM1 := zh hrm1; have RG1 := zh hrg; have RL1 := zh hrl
    have KC2 := zh (KC1.out j (by omega))
    clear hfl s1 s2 hrw rs1 ro1 hrm1 hrg hrl hRM hrr haj hji hj
    obtain ⟨nk, hnk⟩ : ∃ nk, nk = kL.length := ⟨_, rfl⟩
    rw [← hnk] at HFL ⊢
    go_upto_region 13 with fail
    have D8 : Hid (Below w8.heap.size w8 w8.drew) := zh (Below.refl _ _).drew
    have KC3 : Hid (∀ y, Below w8.heap.size w8 y → y.cell? ⟨kb, ko + j, none⟩ = some (.int .i64 (it j : Int))) := zh fun y hy => KC2.out y (Q8.out.trans (hy.mono Q8.out.size))
    refine wp_region_plan_in (fun y => Below w8.heap.size w8 y) (.take 0 (.take 1 (.take 2 (.take 3 (.take 4 (.take 5 (.sole 6 (.take 7 (.take 8 (.take 9 (.take 10 (.take 11 (.take 12 (.take 13 .done)))))))))))))) (by kernel_rfl) (by kernel_rfl) (by kernel_rfl) D8.out ?_
    refine plan_row 48 _ (w.heap.size + 1) _ C 48 zr zr zr Mem.ev_a (fun w' hw' => A18.out.below hw' A18.out.lt) Tryz.underlying48 zr (by rw [CS.out]; exact infoPS) ?_
    (simp only [Act.put, Mem.pa, Mem.pb, Mem.pc])
    (first | refine Mem.pm1 ?_ | refine Mem.pm2 ?_ | refine Mem.pt ?_ | refine Mem.pf ?_)
    (simp only [Act.put, Mem.pa, Mem.pb, Mem.pc])
    (first | refine Mem.pm1 ?_ | refine Mem.pm2 ?_ | refine Mem.pt ?_ | refine Mem.pf ?_)
    (simp only [Act.put, Mem.pa, Mem.pb, Mem.pc])
    refine plan_bin _ _ _ _ _ _ _ (.int .i64 (j : Int)) zr zr zr Mem.ev_a Mem.ev_a (fun wx => by rw [← JI.out]; go_simp; exact i64_id _ (by omega) (by omega)) ?_
    (simp only [Act.put, Mem.pa, Mem.pb, Mem.pc])
    refine plan_index 58 3 _ _ kb ko N ck j zr zr zr Mem.ev_a Mem.ev_a (by have := HN.out; omega) Tryz.underlying58 infoInt ?_
    (simp only [Act.put, Mem.pa, Mem.pb, Mem.pc])
    refine plan_cell 3 _ _ (.int .i64 (it j : Int)) _ zr zr zr Mem.ev_a (fun w' hw' => KC3.out w' hw') Tryz.underlying3 zr ?_
    (simp only [Act.put, Mem.pa, Mem.pb, Mem.pc])
    refine plan_call 53 _ _ _ (by kernel_rfl) zr zr zr (by first | exact Mem.ev_none _ | (simp only [List.map_toArray, List.map_cons, List.map_nil, Mem.ev_tmp, List.getD_cons_succ, List.getD_cons_zero] <;> rfl)) ?_
    refine (PRI.out w8.drew).mono ?_
    rintro o9 w9 ⟨rfl, hb9⟩
    have Q9 : Hid (Below w8.heap.size w8 w9) := zh (D8.out.trans (hb9.mono (Nat.le_refl _)))
    clear hb9
    refine ⟨_, rfl, Q9.out, ?_⟩
    (simp only [Act.put, Mem.pa, Mem.pb, Mem.pc])
    (first | refine Mem.pm1 ?_ | refine Mem.pm2 ?_ | refine Mem.pt ?_ | refine Mem.pf ?_)
    (simp only [Act.put, Mem.pa, Mem.pb, Mem.pc])
    refine plan_extract _ 0 _ _ zr zr zr Mem.ev_a zr ?_
    (simp only [Act.put, Mem.pa, Mem.pb, Mem.pc])
    refine plan_extract _ 1 _ _ zr zr zr Mem.ev_a zr ?_
    (simp only [Act.put, Mem.pa, Mem.pb, Mem.pc])
    refine plan_extract _ 2 _ _ zr zr zr Mem.ev_a zr ?_
    (simp only [Act.put, Mem.pa, Mem.pb, Mem.pc])
    (first | refine Mem.pm1 ?_ | refine Mem.pm2 ?_ | refine Mem.pt ?_ | refine Mem.pf ?_)
    (simp only [Act.put, Mem.pa, Mem.pb, Mem.pc])
    (first | refine Mem.pm1 ?_ | refine Mem.pm2 ?_ | refine Mem.pt ?_ | refine Mem.pf ?_)
    (simp only [Act.put, Mem.pa, Mem.pb, Mem.pc])
    (first | refine Mem.pm1 ?_ | refine Mem.pm2 ?_ | refine Mem.pt ?_ | refine Mem.pf ?_)
    (simp only [Act.put, Mem.pa, Mem.pb, Mem.pc])
    refine plan_nil ?_
    have o9 : OwnRf w9 w5.heap.size 31 (.slice (some ⟨g, 0, none⟩) N N) (WL i) := ownsRow_below O8.out Q9.out
    obtain ⟨g', cap', cur, ev, hgB, hgl, hcur, hfit, hown⟩ := own_store (i := j) o9 (LW.out i) RW1.out (by rw [← LN.out]; have := HN.out; omega)
    injection ev with ev1 ev2 ev3
    injection ev1 with ev1
    injection ev1 with ev1 _ _
    subst ev1
    clear ev2 ev3
    rw [S2'.out, RM1.out] at hown
    have CUR := zh hcur; have FIT := zh hfit; have OWN := zh hown
    have RG9 := zh (range_block RG1.out (Q9.out.block rb RL1.out))
    have B9 : Hid (Below w5.heap.size w5 (w9.setRow g (Mem.splice cur (j * 34) RM.toList))) := zh (below_row (B8.out.trans (Q9.out.mono B8.out.size)) hgB _)
    have hjN : (j : Int) < (N : Int) := by have := HN.out; omega
    have hfl : (aj : Int) < (nk : Int) := by have := HFL.out; omega
    clear o9 hgB hgl hcur hfit hown
    have hji := JI.out
    go_wp2_with (first
     | (refine wpList_load_mid zr 31 _ zr rb (ro + aj * 34) zr RM.toList _ RG9.out Tryz.underlying31 zr (by rw [infoRfP, Array.length_toList, RS1.out]) ?_; rw [Array.toArray_toList])
     | (refine wpList_store_at zr 31 _ _ zr zr g (j * 34) RM (by first | rfl | (simp only [hji]; rfl)) zr (by rw [RS1.out]; exact infoRfP) cur 31 CUR.out (by rw [RS1.out]; exact FIT.out) RO1.out ?_))
    go_roundw
    case rel =>
     exact ⟨j, by omega, by rw [← hji], S1.out, OWN.out, B9.out⟩
    case measure => simp [intOf]; omega
   ·have hy := ERI.out he
    have HY := zh hy
    have hne : ¬ e = 0 := he
    clear hy he
    go_wp2_with fail
    go_ret3
    exact ⟨_, _, by rw [HY.out]; rfl, by rw [HY.out]; exact SlRf.nil _, by rw [HY.out]; exact sl_none _, BX8.out⟩
  ·have h00 : i = 0 := by omega
   subst h00
   have hft := FTH.out wr.drew ((BX.out).drew)
   have hla := LA.out OK.out
   have hds := refC_size (HDW.out 0)
   obtain ⟨HM1, hHM1⟩ : ∃ m, m = refC (hd 0) := ⟨_, rfl⟩
   have hdm : refL (hd 0) = HM1.toList := by rw [hHM1]; rfl
   rw [← hHM1] at hft hds
   obtain ⟨pg, e⟩ := FT
   simp only at hft hla
   have FTI := zh hft; have LAI := zh hla; have HDS := zh hds; have HDM := zh hdm
   clear hft hla hds hdm hHM1 h0i
   go_upto_region 15 with fail
   have D0 : Hid (Below wr.heap.size wr wr.drew) := zh (Below.refl _ _).drew
   refine wp_region_plan_in (fun y => Below wr.heap.size wr y) (.take 0 (.take 1 (.take 2 (.take 3 (.take 4 (.take 5 (.take 6 (.take 7 (.sole 8 (.take 9 (.take 10 (.take 11 (.take 12 (.take 13 .done)))))))))))))) (by kernel_rfl) (by kernel_rfl) (by kernel_rfl) D0.out ?_
   (first | refine Mem.pm1 ?_ | refine Mem.pm2 ?_ | refine Mem.pt ?_ | refine Mem.pf ?_)
   (simp only [Act.put, Mem.pa, Mem.pb, Mem.pc])
   (first | refine Mem.pm1 ?_ | refine Mem.pm2 ?_ | refine Mem.pt ?_ | refine Mem.pf ?_)
   (simp only [Act.put, Mem.pa, Mem.pb, Mem.pc])
   refine plan_row 22 _ w.heap.size _ KC 22 zr zr zr Mem.ev_a (fun w' hw' => A0W.out.below hw' A0W.out.lt) Tryz.underlying22 zr (by rw [KS.out]; kernel_rfl) ?_
   (simp only [Act.put, Mem.pa, Mem.pb, Mem.pc])
   refine plan_row 48 _ (w.heap.size + 1) _ C 48 zr zr zr Mem.ev_a (fun w' hw' => A1W.out.below hw' A1W.out.lt) Tryz.underlying48 zr (by rw [CS.out]; exact infoPS) ?_
   (simp only [Act.put, Mem.pa, Mem.pb, Mem.pc])
   (first | refine Mem.pm1 ?_ | refine Mem.pm2 ?_ | refine Mem.pt ?_ | refine Mem.pf ?_)
   (simp only [Act.put, Mem.pa, Mem.pb, Mem.pc])
   (first | refine Mem.pm1 ?_ | refine Mem.pm2 ?_ | refine Mem.pt ?_ | refine Mem.pf ?_)
   (simp only [Act.put, Mem.pa, Mem.pb, Mem.pc])
   refine plan_index_z 64 31 _ _ g 0 N N 34 0 zr zr zr Mem.ev_a zr (by have := HN.out; omega) Tryz.underlying64 infoRfP ?_
   (simp only [Act.put, Mem.pa, Mem.pb, Mem.pc])
   refine plan_load_range 31 _ g (0 + 0 * 34) _ HM1 zr zr zr Mem.ev_a (fun w' hw' => by rw [← HDM.out]; exact HDR.out w' hw') Tryz.underlying31 zr (by rw [HDS.out]; exact infoRfP) ?_
   (simp only [Act.put, Mem.pa, Mem.pb, Mem.pc])
   refine plan_call 25 _ _ _ (by kernel_rfl) zr zr zr (by first | exact Mem.ev_none _ | (simp only [List.map_toArray, List.map_cons, List.map_nil, Mem.ev_tmp, List.getD_cons_succ, List.getD_cons_zero] <;> rfl)) ?_
   refine (FTI.out).mono ?_
   rintro o8 w8 ⟨vt8, rfl, hs8, hb8⟩
   have S8 := zh hs8.sl
   have Q8 : Hid (Below wr.heap.size wr w8) := zh (D0.out.trans (hb8.mono (Nat.le_refl _)))
   clear hs8 hb8
   refine ⟨_, rfl, Q8.out, ?_⟩
   (simp only [Act.put, Mem.pa, Mem.pb, Mem.pc])
   (first | refine Mem.pm1 ?_ | refine Mem.pm2 ?_ | refine Mem.pt ?_ | refine Mem.pf ?_)
   (simp only [Act.put, Mem.pa, Mem.pb, Mem.pc])
   refine plan_extract _ 0 _ _ zr zr zr Mem.ev_a zr ?_
   (simp only [Act.put, Mem.pa, Mem.pb, Mem.pc])
   refine plan_extract _ 1 _ _ zr zr zr Mem.ev_a zr ?_
   (simp only [Act.put, Mem.pa, Mem.pb, Mem.pc])
   (first | refine Mem.pm1 ?_ | refine Mem.pm2 ?_ | refine Mem.pt ?_ | refine Mem.pf ?_)
   (simp only [Act.put, Mem.pa, Mem.pb, Mem.pc])
   (first | refine Mem.pm1 ?_ | refine Mem.pm2 ?_ | refine Mem.pt ?_ | refine Mem.pf ?_)
   (simp only [Act.put, Mem.pa, Mem.pb, Mem.pc])
   refine plan_nil ?_
   have BX8 : Hid (Below w.heap.size w w8) := zh (BX.out.trans (Q8.out.mono BX.out.size))
   by_cases he : e = 0
   ·subst he
    have hy : Y = (WL 0, pg, 0) := by rw [LAI.out, if_neg (fun n => n rfl)]
    have HY := zh hy
    have R8 : Hid (SlRf w8 (.slice (some ⟨g, 0, none⟩) N N) (WL 0)) := zh (own_slrf (ownsRow_below OW.out Q8.out) (LW.out 0))
    clear hy
    go_wp2_with fail
    go_ret3
    exact ⟨_, _, by rw [HY.out]; rfl, by rw [HY.out]; exact R8.out, by rw [HY.out]; exact S8.out, BX8.out⟩
   ·have hy : Y = ([], [], e) := by rw [LAI.out, if_pos he]
    have HY := zh hy
    have hne : ¬ e = 0 := he
    clear hy he
    go_wp2_with fail
    go_ret3
    exact ⟨_, _, by rw [HY.out]; rfl, by rw [HY.out]; exact SlRf.nil _, by rw [HY.out]; exact sl_none _, BX8.out⟩
theorem pway14_any {F : Foot} {b : Nat} {s : St6} (key : List (BitVec 8)) (p : Nat) (r : RefV) (z : Int) (w : World) (hT : TT w) (lk : key.length = 32) (hp : PSt F b w s) (hok : Ok6 1000 s) (hw0 : s.w = []) (h0 : 1 ≤ p) (h1 : p ≤ 216) (hrw : r.Wf) :
 Calls Tryz.prog 20 #[.pointer none, rq b, .agg (u8s key).toArray, .agg (psC p), .agg (refC r), .int .i64 z] w (WyEnd w (wayT s.b key p r z)) := by
 by_cases hz : z < 0 ∨ (p : Int) ≤ z
 ·have e : wayT s.b key p r z = ([], [], 1) := by unfold wayT; rw [if_pos hz]
  rw [e]
  exact pway_none key p r z w h1 hz
 ·obtain ⟨x, rfl⟩ : ∃ x : Nat, z = (x : Int) := ⟨z.toNat, by omega⟩
  exact pway_some key p r x w hT lk hp hok hw0 h0 h1 hrw (by omega)
def P14 : List (List (BitVec 8)) := [pageL [7]]
theorem goodP14 : GoodP P14 := ⟨by decide, by decide, fun x hx => by rw [List.mem_singleton.1 hx]; exact pageL_length _⟩
theorem way14 : wayT (stImg K1 3 P14).b K1 1 (refT K1 3 P14 1) 0 = ([refT K1 3 P14 0, refT K1 3 P14 1], pageL [7], 0) := by
 have h := backW (key := K1) (ep := 3) goodP14 (img_b goodP14) (img_blks goodP14) 0 (by decide)
 have e1 : itn P14.length - 1 = 1 := by decide
 have e2 : topn P14.length + 1 = 2 := by decide
 have e3 : itp P14.length 0 0 = 0 := rfl
 have e4 : itp P14.length 0 1 = 1 := by decide
 rw [e1, e2] at h
 simp only [List.range_succ, List.range_zero, List.nil_append, List.map_cons, List.map_nil, List.cons_append, e3, e4] at h
 exact h
theorem o_beq8 {P : Program} (t t2 : TypeId) (q : Int) (x y : Operand) (w : World) : (do eqGuard .eql t x y (.int .u8 q) (.int .u8 q); binOp .eql t2 (.int .u8 q) (.int .u8 q) : Sem Value).run P w = .ok (.bool true) w := by
 go_simp
theorem slrf_lit {w : World} {v : Value} {a b : RefV} (h : SlRf w v [a, b]) : ∃ g o c, v = .slice (some ⟨g, o, none⟩) 2 c ∧ g < w.heap.size ∧ w.rangeAt g (o + 1 * 34) (refL b) := by
 obtain ⟨aa, c, rfl⟩ := h.hd
 obtain ⟨g, o, e, hl, hr⟩ := slrf_at (n := 2) (i := 1) h rfl (by decide)
 exact ⟨g, o, c, by rw [e]; rfl, hl, hr⟩
set_option maxHeartbeats 4000000 in
theorem alive14_any (T : TreeP) (w : World) (hT : TT w) : Calls Tryz.prog 7 #[] w (fun e w' => e = .returned (.bool true) ∧ Below w.heap.size w w') := by
 have hlit : Sl (w.alloc (.cells #[.int .u8 7] 5)) (.slice (some ⟨w.heap.size, 0, none⟩) 1 1) [7] := at_sl (at_new w #[.int .u8 7] 5) rfl
 have hsl := sls_lit1 hlit
 rw [show (w.alloc (.cells #[.int .u8 7] 5)).heap.size = w.heap.size + 1 by simp] at hsl
 have b2 : Below w.heap.size w ((w.alloc (.cells #[.int .u8 7] 5)).alloc (.cells #[.slice (some ⟨w.heap.size, 0, none⟩) 1 1] 39)) := ((Below.refl _ _).alloc (Nat.le_refl _) _).alloc (by simp) _
 have hpg := fun v wx h => pages_any [[7]] v wx h (by decide)
 have hpl := pageL_length [7]
 have hp0 : (pageL [7])[0]? = some 7 := rfl
 have hsz := img_t (key := K1) (ep := 3) (P := P14)
 have hok := (img_ok (key := K1) (ep := 3) goodP14).mono (m' := 1000) (by decide)
 have hiw : (stImg K1 3 P14).w = [] := rfl
 have hld : ∀ v wx, TT wx → Sls wx v ([[7]].map pageL) → Calls Tryz.prog 12 #[.pointer none, .agg (u8s K1).toArray, .int .u32 3, v] wx (fun e w' => ∃ b F, e = .returned (.tuple #[rq b, .agg (psC 1), .agg (refC (refT K1 3 P14 1)), .bool true]) ∧ PSt F b w' (stImg K1 3 P14) ∧ (∀ k, F k → wx.heap.size ≤ k) ∧ Below wx.heap.size wx w') := fun v wx h hs => laid_any T K1 3 P14 v wx h rfl goodP14 hs
 have hwy : ∀ (F : Foot) (b : Nat) wx, TT wx → PSt F b wx (stImg K1 3 P14) → Calls Tryz.prog 20 #[.pointer none, rq b, .agg (u8s K1).toArray, .agg (psC 1), .agg (refC (refT K1 3 P14 1)), .int .i64 0] wx (fun e w' => ∃ vr vp, e = .returned (.tuple #[vr, vp, .int .i64 0]) ∧ SlRf w' vr [refT K1 3 P14 0, refT K1 3 P14 1] ∧ Sl w' vp (pageL [7]) ∧ Below wx.heap.size wx w') := fun F b wx h hp => by
  have h2 := T.way (s := stImg K1 3 P14) K1 1 (refT K1 3 P14 1) 0 wx h rfl hp hok hiw (by decide) (by decide) (refT_wf _)
  rw [way14] at h2
  exact h2
 have hrw : (refT K1 3 P14 1).Wf := refT_wf _
 obtain ⟨root, hroot⟩ : ∃ r, r = refT K1 3 P14 1 := ⟨_, rfl⟩
 obtain ⟨r0, hr0⟩ : ∃ r, r = refT K1 3 P14 0 := ⟨_, rfl⟩
 obtain ⟨I, hI⟩ : ∃ I, I = stImg K1 3 P14 := ⟨_, rfl⟩
 have htr : ∀ (F : Foot) (b : Nat) wx, PSt F b wx I → Calls Tryz.prog 29 #[rq b] wx fun e w' => ∃ v, e = .returned v ∧ w'.ownsRow wx.heap.size 3 1 v 3 (i64s I.t) ∧ Below wx.heap.size wx w' := fun F b wx hp => by
  have e3 : I.t.length = 3 := by rw [hI, hsz]; decide
  have h := ptrace_any wx hp (by rw [hI]; exact hok.n1) (by rw [hI]; exact hok.n2) (by omega)
  rw [e3] at h
  exact h
 rw [← hroot] at hld hwy hrw
 rw [← hr0] at hwy
 rw [← hI] at hld hwy
 have eqr := eqlRP hrw hrw
 rw [sameRef_self] at eqr
 have rs := refC_size hrw; have ro := refC_one root
 obtain ⟨M, hM⟩ : ∃ M, M = refC root := ⟨_, rfl⟩
 have hrl : refL root = M.toList := by rw [hM]; rfl
 obtain ⟨Z, hZ⟩ : ∃ Z, Z = refC zref := ⟨_, rfl⟩
 have zs : Z.size = 34 := by rw [hZ]; exact refC_size zref_wf
 obtain ⟨C, hC⟩ : ∃ C, C = psC 1 := ⟨_, rfl⟩
 obtain ⟨Y, hYs⟩ : ∃ C, C = psC 0 := ⟨_, rfl⟩
 have cs : C.size = 1 := by rw [hC]; rfl
 have co : C.all (·.oneCell') = true := by rw [hC]; exact psC_one 1
 have ys : Y.size = 1 := by rw [hYs]; rfl
 have hx := zeroPS
 have hxr := zeroRfP
 have bk := build_K1
 obtain ⟨KC, hKC⟩ : ∃ K, K = (u8s K1).toArray := ⟨_, rfl⟩
 obtain ⟨PG, hPG⟩ : ∃ p, p = pageL [7] := ⟨_, rfl⟩
 rw [← hYs] at hx
 rw [← hZ] at hxr
 rw [← hM] at hld hwy rs ro eqr
 rw [← hC] at hld hwy
 rw [← hKC] at hld hwy bk
 rw [← hPG] at hwy hpl hp0
 have HS := zh hsl; have B2 := zh b2; have PGS := zh hpg; have LD := zh hld; have WY := zh hwy; have TR := zh htr; have EQR := zh eqr; have RS := zh rs; have RO := zh ro; have RL := zh hrl; have ZS := zh zs; have CS := zh cs; have CO := zh co; have YS := zh ys; have BKK := zh bk; have PL := zh hpl; have P0 := zh hp0; have HT := zh hT
 clear hlit hsl b2 hpg hld hwy htr eqr rs ro hrl zs cs co ys bk hpl hp0 hT hsz hok hiw hrw hI hroot hr0 hM hZ hC hYs hKC hPG
 go_enter Tryz.func7, Tryz.ntmps7
 go_wp2_with (refine Mem.wpList_build zr 22 _ #[(0, .int .u8 1)] (.agg KC) zr (by simp [Act.eval]) BKK.out ?_)
 refine (PGS.out _ _ HS.out).mono ?_
 rintro e w3 ⟨vp, rfl, hs3, hb3⟩
 have S3 := zh hs3; have B3 : Hid (Below w.heap.size w w3) := zh (B2.out.trans (hb3.mono B2.out.size))
 have T3 : Hid (TT w3) := zh (HT.out.below B3.out)
 clear hs3 hb3
 go_wp2_with fail
 refine (LD.out _ _ T3.out S3.out).mono ?_
 rintro e w4 ⟨b, F, rfl, hp4, hF4, hb4⟩
 have P4 := zh hp4; have B4 : Hid (Below w.heap.size w w4) := zh (B3.out.trans (hb4.mono B3.out.size))
 have FL : Hid (∀ k, F k → k < w4.heap.size) := zh (pst_lt hp4)
 clear hp4 hF4 hb4
 have AY : Hid (At ((w4.alloc (.cells Y 48)).alloc (.cells Z 31)) w4.heap.size Y 48) := zh ((at_new w4 Y _).alloc _)
 have AZ : Hid (At ((w4.alloc (.cells Y 48)).alloc (.cells Z 31)) (w4.heap.size + 1) Z 31) := zh (by
  have h := at_new (w4.alloc (.cells Y 48)) Z 31
  simpa using h)
 have B5 : Hid (Below w4.heap.size w4 ((w4.alloc (.cells Y 48)).alloc (.cells Z 31))) := zh (((Below.refl _ _).alloc (Nat.le_refl _) _).alloc (by simp) _)
 go_upto_region 2 with (first
  | (refine wpList_store_all zr 48 _ _ zr zr w4.heap.size C zr zr (by rw [CS.out]; exact infoPS) Y 48 AY.out (by rw [CS.out, YS.out]) CO.out ?_)
  | (refine wpList_store_all zr 31 _ _ zr zr (w4.heap.size + 1) M zr zr (by rw [RS.out]; exact infoRfP) Z 31 (AZ.out.row_other C (by omega)) (by rw [RS.out, ZS.out]) RO.out ?_))
 clear hx hxr
 have C6 : Hid (At ((((w4.alloc (.cells Y 48)).alloc (.cells Z 31)).setRow w4.heap.size C).setRow (w4.heap.size + 1) M) w4.heap.size C 48) := zh ((AY.out.row C).row_other M (by omega))
 have M6 : Hid (At ((((w4.alloc (.cells Y 48)).alloc (.cells Z 31)).setRow w4.heap.size C).setRow (w4.heap.size + 1) M) (w4.heap.size + 1) M 31) := zh ((AZ.out.row_other C (by omega)).row M)
 have D6 : Hid (Below w4.heap.size w4 ((((w4.alloc (.cells Y 48)).alloc (.cells Z 31)).setRow w4.heap.size C).setRow (w4.heap.size + 1) M)) := zh (below_row (below_row B5.out (Nat.le_refl _) _) (by omega) _)
 have P6 := zh (pst_below P4.out D6.out)
 have B6 := zh (B4.out.trans (D6.out.mono B4.out.size))
 clear AY AZ B5 D6
 obtain ⟨s4, hs4⟩ : ∃ s, s = w4.heap.size := ⟨_, rfl⟩
 rw [← hs4] at C6 M6 P6 B6 ⊢
 clear hs4
 generalize (((w4.alloc (.cells Y 48)).alloc (.cells Z 31)).setRow s4 C).setRow (s4 + 1) M = w6 at *
 go_wp2_with (first
  | (refine Mem.wpList_build zr 22 _ #[(0, .int .u8 1)] (.agg KC) zr (by simp [Act.eval]) BKK.out ?_)
  | (refine wpList_load_all zr 48 _ zr s4 zr _ Tryz.underlying48 zr C _ C6.out (by rw [CS.out]; exact infoPS) ?_)
  | (refine wpList_load_all zr 31 _ zr (s4 + 1) zr _ Tryz.underlying31 zr M _ M6.out (by rw [RS.out]; exact infoRfP) ?_))
 refine (WY.out F b _ (HT.out.below B6.out) P6.out).mono ?_
 rintro e w7 ⟨vr, vq, rfl, hr7, hq7, hb7⟩
 obtain ⟨gr, orf, cr, rfl, hgl, hgr⟩ := slrf_lit hr7
 obtain ⟨gp, op_, cp, rfl, _, hpl7, hcell⟩ := sl_some hq7 (by rw [PL.out]; decide)
 have hc0 := hcell 0 (by rw [PL.out]; decide)
 have RG : Hid (w7.rangeAt gr (orf + 1 * 34) M.toList) := zh (by rw [← RL.out]; exact hgr)
 have RL7 := zh hgl; have PLT := zh hpl7
 have CP : Hid (w7.cell? ⟨gp, op_ + 0, none⟩ = some (.int .u8 7)) := zh (by
  rw [hc0, List.getD_eq_getElem?_getD, P0.out]; rfl)
 have P7 := zh (pst_below P6.out hb7); have B7 : Hid (Below w.heap.size w w7) := zh (B6.out.trans (hb7.mono B6.out.size))
 have M7 := zh (M6.out.below hb7 M6.out.lt)
 rw [PL.out]
 clear hr7 hq7 hb7 hgl hgr hcell hc0 hpl7 C6 M6 P6 B6
 go_upto_region 5 with fail
 have D0 : Hid (Below w7.heap.size w7 w7.drew) := zh (Below.refl _ _).drew
 refine wp_region_plan_in (fun x' => Below w7.heap.size w7 x') (.take 0 (.take 1 (.take 2 (.take 3 (.take 4 (.take 5 (.take 6 (.take 7 (.take 8 (.take 9 (.take 10 (.take 11 (.take 12 (.take 13 (.take 14 (.take 15 (.take 16 (.take 17 (.take 18 (.take 19 (.take 20 (.take 21 (.take 22 (.take 23 (.take 24 (.take 25 (.take 26 (.sole 27 (.take 28 (.take 29 (.take 30 (.take 31 .done)))))))))))))))))))))))))))))))) (by kernel_rfl) (by kernel_rfl) (by kernel_rfl) D0.out ?_
 (first | refine Mem.pm1 ?_ | refine Mem.pm2 ?_ | refine Mem.pt ?_ | refine Mem.pf ?_)
 (simp only [Act.put, Mem.pa, Mem.pb, Mem.pc])
 refine plan_bin _ _ _ _ _ _ _ (.bool true) zr zr zr Mem.ev_a Mem.ev_a (fun wx => o_ieq _ _ _ _ _ wx) ?_
 (simp only [Act.put, Mem.pa, Mem.pb, Mem.pc])
 (first | refine Mem.pm1 ?_ | refine Mem.pm2 ?_ | refine Mem.pt ?_ | refine Mem.pf ?_)
 (simp only [Act.put, Mem.pa, Mem.pb, Mem.pc])
 (first | refine Mem.pm1 ?_ | refine Mem.pm2 ?_ | refine Mem.pt ?_ | refine Mem.pf ?_)
 (simp only [Act.put, Mem.pa, Mem.pb, Mem.pc])
 refine plan_len _ _ _ _ 2 _ zr zr zr zr Mem.ev_a (fun wx => by go_simp) ?_
 (simp only [Act.put, Mem.pa, Mem.pb, Mem.pc])
 refine plan_bin _ _ _ _ _ (.int .i64 ((2 : Nat) : Int)) (.int .i64 2) (.bool true) zr zr zr Mem.ev_a Mem.ev_a (fun wx => o_ieq 2 _ _ _ _ wx) ?_
 (simp only [Act.put, Mem.pa, Mem.pb, Mem.pc])
 (first | refine Mem.pm1 ?_ | refine Mem.pm2 ?_ | refine Mem.pt ?_ | refine Mem.pf ?_)
 (simp only [Act.put, Mem.pa, Mem.pb, Mem.pc])
 (first | refine Mem.pm1 ?_ | refine Mem.pm2 ?_ | refine Mem.pt ?_ | refine Mem.pf ?_)
 (simp only [Act.put, Mem.pa, Mem.pb, Mem.pc])
 (first | refine Mem.pm1 ?_ | refine Mem.pm2 ?_ | refine Mem.pt ?_ | refine Mem.pf ?_)
 (simp only [Act.put, Mem.pa, Mem.pb, Mem.pc])
 refine plan_index_z 64 31 _ _ gr orf 2 cr 34 1 zr zr zr Mem.ev_a zr (by decide) Tryz.underlying64 infoRfP ?_
 (simp only [Act.put, Mem.pa, Mem.pb, Mem.pc])
 refine plan_load_range 31 _ gr (orf + 1 * 34) _ M zr zr zr Mem.ev_a (fun w' hw' => range_block RG.out (hw'.block gr RL7.out)) Tryz.underlying31 zr (by rw [RS.out]; exact infoRfP) ?_
 (simp only [Act.put, Mem.pa, Mem.pb, Mem.pc])
 refine plan_row 31 _ (s4 + 1) _ M 31 zr zr zr Mem.ev_a (fun w' hw' => M7.out.below hw' M7.out.lt) Tryz.underlying31 zr (by rw [RS.out]; exact infoRfP) ?_
 (simp only [Act.put, Mem.pa, Mem.pb, Mem.pc])
 refine plan_bin _ _ _ _ _ _ _ (.bool true) zr zr zr Mem.ev_a Mem.ev_a (fun wx => EQR.out _ _ wx) ?_
 (simp only [Act.put, Mem.pa, Mem.pb, Mem.pc])
 (first | refine Mem.pm1 ?_ | refine Mem.pm2 ?_ | refine Mem.pt ?_ | refine Mem.pf ?_)
 (simp only [Act.put, Mem.pa, Mem.pb, Mem.pc])
 (first | refine Mem.pm1 ?_ | refine Mem.pm2 ?_ | refine Mem.pt ?_ | refine Mem.pf ?_)
 (simp only [Act.put, Mem.pa, Mem.pb, Mem.pc])
 (first | refine Mem.pm1 ?_ | refine Mem.pm2 ?_ | refine Mem.pt ?_ | refine Mem.pf ?_)
 (simp only [Act.put, Mem.pa, Mem.pb, Mem.pc])
 refine plan_len _ _ _ _ 256 _ zr zr zr zr Mem.ev_a (fun wx => by go_simp) ?_
 (simp only [Act.put, Mem.pa, Mem.pb, Mem.pc])
 refine plan_bin _ _ _ _ _ (.int .i64 ((256 : Nat) : Int)) (.int .i64 256) (.bool true) zr zr zr Mem.ev_a Mem.ev_a (fun wx => o_ieq 256 _ _ _ _ wx) ?_
 (simp only [Act.put, Mem.pa, Mem.pb, Mem.pc])
 (first | refine Mem.pm1 ?_ | refine Mem.pm2 ?_ | refine Mem.pt ?_ | refine Mem.pf ?_)
 (simp only [Act.put, Mem.pa, Mem.pb, Mem.pc])
 (first | refine Mem.pm1 ?_ | refine Mem.pm2 ?_ | refine Mem.pt ?_ | refine Mem.pf ?_)
 (simp only [Act.put, Mem.pa, Mem.pb, Mem.pc])
 (first | refine Mem.pm1 ?_ | refine Mem.pm2 ?_ | refine Mem.pt ?_ | refine Mem.pf ?_)
 (simp only [Act.put, Mem.pa, Mem.pb, Mem.pc])
 refine plan_index 39 5 _ _ gp op_ 256 cp 0 zr zr zr Mem.ev_a zr (by decide) Tryz.underlying39 infoB ?_
 (simp only [Act.put, Mem.pa, Mem.pb, Mem.pc])
 refine plan_cell 5 _ _ (.int .u8 7) _ zr zr zr Mem.ev_a (fun w' hw' => (hw'.cell (p := ⟨gp, op_ + 0, none⟩) PLT.out).trans CP.out) Tryz.underlying5 zr ?_
 (simp only [Act.put, Mem.pa, Mem.pb, Mem.pc])
 refine plan_bin _ _ _ _ _ _ _ (.bool true) zr zr zr Mem.ev_a Mem.ev_a (fun wx => o_beq8 _ _ _ _ _ wx) ?_
 (simp only [Act.put, Mem.pa, Mem.pb, Mem.pc])
 (first | refine Mem.pm1 ?_ | refine Mem.pm2 ?_ | refine Mem.pt ?_ | refine Mem.pf ?_)
 (simp only [Act.put, Mem.pa, Mem.pb, Mem.pc])
 (first | refine Mem.pm1 ?_ | refine Mem.pm2 ?_ | refine Mem.pt ?_ | refine Mem.pf ?_)
 (simp only [Act.put, Mem.pa, Mem.pb, Mem.pc])
 (first | refine Mem.pm1 ?_ | refine Mem.pm2 ?_ | refine Mem.pt ?_ | refine Mem.pf ?_)
 (simp only [Act.put, Mem.pa, Mem.pb, Mem.pc])
 refine plan_call 29 _ _ _ (by kernel_rfl) zr zr zr (by first | exact Mem.ev_none _ | (simp only [List.map_toArray, List.map_cons, List.map_nil, Mem.ev_tmp, List.getD_cons_succ, List.getD_cons_zero] <;> rfl)) ?_
 refine (TR.out F b w7.drew (pst_below P7.out (Below.refl _ _).drew)).mono ?_
 rintro e w8 ⟨vt, rfl, hot, hb8⟩
 obtain ⟨at8, ct8, rfl⟩ := rows_hd hot
 have B8 : Hid (Below w.heap.size w w8) := zh (B7.out.drew.trans (hb8.mono B7.out.drew.size))
 have D8 : Hid (Below w7.heap.size w7 w8) := zh ((Below.refl _ _).drew.trans hb8)
 clear hot hb8
 refine ⟨_, rfl, D8.out, ?_⟩
 (simp only [Act.put, Mem.pa, Mem.pb, Mem.pc])
 refine plan_len _ _ _ _ 3 _ zr zr zr zr Mem.ev_a (fun wx => by go_simp) ?_
 (simp only [Act.put, Mem.pa, Mem.pb, Mem.pc])
 refine plan_bin _ _ _ _ _ (.int .i64 ((3 : Nat) : Int)) (.int .i64 3) (.bool true) zr zr zr Mem.ev_a Mem.ev_a (fun wx => o_ieq 3 _ _ _ _ wx) ?_
 (simp only [Act.put, Mem.pa, Mem.pb, Mem.pc])
 (first | refine Mem.pm1 ?_ | refine Mem.pm2 ?_ | refine Mem.pt ?_ | refine Mem.pf ?_)
 (simp only [Act.put, Mem.pa, Mem.pb, Mem.pc])
 (first | refine Mem.pm1 ?_ | refine Mem.pm2 ?_ | refine Mem.pt ?_ | refine Mem.pf ?_)
 (simp only [Act.put, List.setIfInBounds_toArray, List.set_cons_zero])
 refine plan_nil ?_
 go_wp2_with fail
 go_ret
 exact ⟨rfl, B8.out⟩
def ptRow (q : Nat) (v : Value) : Array Value := #[.int .i64 (q : Int), v]
theorem ptRow_one (q : Nat) (a : Option Addr) (n c : Nat) : (ptRow q (.slice a n c)).all (·.oneCell') = true := by simp [ptRow, Value.oneCell']
theorem infoPt14 : (Tryz.prog.info? 41).map (·.size) = some 2 := by kernel_rfl
theorem lput_at {G : Foot} {w : World} {a : Option Addr} {cap n : Nat} {l : List (Nat × List (BitVec 8))} (h : WPut G w (.slice a n cap) l) {j : Nat} (hj : j < l.length) :
 ∃ b o vh, a = some ⟨b, o, none⟩ ∧ G b ∧ w.cell? ⟨b, o + j * 2, none⟩ = some (.int .i64 (((l.getD j (0, [])).1 : Nat) : Int)) ∧ w.cell? ⟨b, o + j * 2 + 1, none⟩ = some vh ∧ SlB G w vh (l.getD j (0, [])).2 := by
 obtain ⟨ws, he, hl, a', cap', e, hc, hr⟩ := h
 injection e with e1 e2 _
 obtain ⟨b, o, ea, hG, _, hcell⟩ := hr (by omega)
 obtain ⟨p, hp, hp1, hp2⟩ := he.at (List.getElem?_eq_getElem hj)
 have h2 := putC_at ws j p hp
 have hd : l.getD j (0, []) = l[j] := by rw [List.getD_eq_getElem?_getD, List.getElem?_eq_getElem hj]; rfl
 refine ⟨b, o, p.2, by rw [e1]; exact ea, hG, ?_, ?_, by rw [hd]; exact hp2⟩
 ·rw [hd, ← hp1, Nat.mul_comm]; exact hcell _ _ h2.1
 ·have := hcell _ _ h2.2
  rw [Nat.add_assoc, Nat.mul_comm]; exact this
set_option maxHeartbeats 2000000 in
theorem plays14_any {F G : Foot} {b : Nat} {s : St6} (L : List (Nat × List (BitVec 8))) (v : Value) (w : World) (hp : PSt F b w s) (hok : Ok6 500 s) (hv : WPut G w v L) (hG : ∀ k, G k → ¬ F k) (hn : L.length ≤ 400) (hL : ∀ q ∈ L, q.1 < s.n ∧ q.2.length = 256) :
 Calls Tryz.prog 42 #[rq b, v] w fun e w' => e = .returned (.int .i64 0) ∧ StEnd PSt F b w (layS s L) w' := by
 obtain ⟨av, cv, rfl⟩ := hv.hd
 have hq : ∀ j, j < L.length → (L.getD j (0, [])).1 < s.n ∧ (L.getD j (0, [])).2.length = 256 := fun j hj => by
  rw [List.getD_eq_getElem?_getD, List.getElem?_eq_getElem hj]
  exact hL _ (List.getElem_mem hj)
 have hok2 : ∀ j, j ≤ L.length → Ok6 1000 (layS s (L.take j)) := fun j hj => (ok_lay hok (L.take j) fun q h => hL q (List.mem_of_mem_take h)).mono (by rw [List.length_take]; omega)
 have hst : ∀ j, j < L.length → layS s (L.take (j + 1)) = dvWrite (layS s (L.take j)) (L.getD j (0, [])).1 (L.getD j (0, [])).2 := fun j hj => by
  rw [List.take_add_one, List.getElem?_eq_getElem hj, List.getD_eq_getElem?_getD, List.getElem?_eq_getElem hj]
  exact layS_snoc _ _ _
 have hsn : ∀ j, (layS s (L.take j)).n = s.n := fun _ => rfl
 have hend : layS s (L.take L.length) = layS s L := by rw [List.take_length]
 have h0 : layS s (L.take 0) = s := by rw [List.take_zero, layS_nil]
 have hlt := pst_lt hp
 obtain ⟨n, hnn⟩ : ∃ n, n = L.length := ⟨_, rfl⟩
 rw [← hnn] at hv hn hq hok2 hst hend ⊢
 have HV := zh hv; have HN := zh hnn; have HQ := zh hq; have OK2 := zh hok2; have ST := zh hst; have SN := zh hsn; have EN := zh hend; have H0 := zh h0; have HP := zh hp; have HG := zh hG; have FL := zh hlt
 clear hv hnn hq hok2 hst hsn hend h0 hp hG hL hok hlt
 go_enter Tryz.func42, Tryz.ntmps42
 go_wp2_with fail
 go_loopw [10] (fun vi wr => ∃ j : Nat, j ≤ n ∧ vi = .int .i64 (j : Int) ∧ ∃ F', PSt F' b wr (layS s (L.take j)) ∧ (∀ k, F' k → F k ∨ w.heap.size ≤ k) ∧ Chg F w wr ∧ WPut G wr (.slice av n cv) L ∧ ∀ k, G k → k < w.heap.size → ¬ F' k) (fun vi _ => n - (intOf vi).toNat)
 case atStart => exact ⟨0, by omega, rfl, F, by rw [H0.out]; exact HP.out, fun k h => .inl h, Chg.refl _ _, HV.out, fun k h _ => HG.out k h⟩
 case round =>
  obtain ⟨j, hj, rfl, F', hp', hF', hc', hv', hg'⟩ := hrel
  by_cases hlt : j < n
  ·have hlt' : (j : Int) < (n : Int) := by omega
   obtain ⟨q1, q2⟩ := HQ.out j hlt
   obtain ⟨b1, o1, vh, e1, hGb, cn0, ch0, hsh0⟩ := lput_at hv' (j := j) (by rw [← HN.out]; exact hlt)
   have hs1 := ST.out j hlt
   obtain ⟨x, hx⟩ : ∃ x, x = (L.getD j (0, [])).2 := ⟨_, rfl⟩
   obtain ⟨q, hq⟩ : ∃ q, q = (L.getD j (0, [])).1 := ⟨_, rfl⟩
   have cn : wr.cell? ⟨b1, o1 + j * 2, none⟩ = some (.int .i64 (q : Int)) := by rw [hq]; exact cn0
   have hsh : SlB G wr vh x := by rw [hx]; exact hsh0
   clear cn0 hsh0
   rw [← hx] at q2 hs1
   rw [← hq] at q1 hs1
   obtain ⟨a3, cap3, rfl⟩ := hsh.hd
   rw [q2] at ch0
   have ch : wr.cell? ⟨b1, o1 + j * 2 + 1, none⟩ = some (.slice a3 256 cap3) := ch0
   have b3 : Below wr.heap.size wr (wr.alloc (.cells (ptRow q (.slice a3 256 cap3)) 41)) := (Below.refl _ _).alloc (Nat.le_refl _) _
   have A3 := zh (at_new wr (ptRow q (.slice a3 256 cap3)) 41)
   have P3 := zh (pst_below hp' b3)
   have V3 := zh (WPut.keep hv' b3.size fun k _ hlt => b3.block k hlt)
   have S3 : Hid (Sl (wr.alloc (.cells (ptRow q (.slice a3 256 cap3)) 41)) (.slice a3 256 cap3) x) := by have h := hsh.sl.below b3; rw [q2] at h; exact h
   have C3 := zh (hc'.trans (F1 := fun _ => False) (Chg.of_below b3) fun _ h => h.elim)
   have S1 := zh hs1; have Q1 := zh q1; have Q2 := zh q2; have HF := zh hF'; have HG2 := zh hg'
   subst e1
   clear hp' hc' hv' hsh hs1 q1 q2 hF' hg' hx hq b3 ch0 hGb
   go_upto_region 4 with (refine wpList_store_new zr 41 _ _ zr zr (ptRow q (.slice a3 256 cap3)) _ _ zr zr (by exact infoPt14) zr (ptRow_one _ _ _ _) ?_)
   clear cn ch
   obtain ⟨bx, hbx⟩ : ∃ bx, bx = wr.heap.size := ⟨_, rfl⟩
   rw [← hbx] at A3 ⊢
   clear hbx
   generalize wr.alloc (.cells (ptRow q (.slice a3 256 cap3)) 41) = w3 at *
   have c0 : w3.cell? ⟨bx, 0, none⟩ = some (.int .i64 (q : Int)) := (A3.out.cell 0).trans rfl
   have c1 : w3.cell? ⟨bx, 1, none⟩ = some (.slice a3 256 cap3) := (A3.out.cell 1).trans rfl
   go_wp2_with fail
   refine (pwrite_good q x _ w3 P3.out (OK2.out j (by omega)) S3.out (by rw [SN.out]; exact Q1.out) Q2.out).mono ?_
   rintro o w4 ⟨rfl, ⟨F4, hp4, hF4⟩, hc4⟩
   have P4 : Hid (PSt F4 b w4 (layS s (L.take (j + 1)))) := zh (by rw [S1.out]; exact hp4)
   have C4 := zh (C3.out.trans hc4 HF.out)
   have F4' : Hid (∀ k, F4 k → F k ∨ w.heap.size ≤ k) := zh fun k hk => by
    rcases hF4 k hk with h | h
    ·exact HF.out k h
    ·have := C3.out.size; exact .inr (by omega)
   have G4 : Hid (∀ k, G k → k < w.heap.size → ¬ F4 k) := zh fun k hg hl hk => by
    rcases hF4 k hk with h | h
    ·exact HG2.out k hg hl h
    ·have := C3.out.size; omega
   have V4 := zh (WPut.keep HV.out C4.out.size fun k hg hl => C4.out.block k hl (HG.out k hg))
   clear hp4 hF4 hc4 c0 c1
   go_wp2_with fail
   go_roundw
   case rel => exact ⟨j + 1, by omega, by go_num, F4, P4.out, F4'.out, C4.out, V4.out, G4.out⟩
   case measure => simp [intOf]; omega
  ·have hge : ¬ (j : Int) < (n : Int) := by omega
   have hjm : j = n := by omega
   subst hjm
   rw [EN.out] at hp'
   have PE := zh hp'; have FE := zh hF'; have CE := zh hc'
   clear hp' hF' hc' hv' hg' hlt
   go_wp2_with fail
   go_ret
   exact ⟨rfl, ⟨F', PE.out, FE.out⟩, CE.out⟩
end Sha
end Go.Proofs.YtajdpbbbocnfiaaGreatDoor
namespace Go.Proofs.YtajdpbbbocnfiaaGreatDoor
namespace Sha
open Go.RowKit Mem
set_option maxRecDepth 100000
theorem at_ne {w : World} {a b : Nat} {C D : Array Value} {s t : TypeId} (h : At w a C s) (k : At w b D t) (hne : s ≠ t) : a ≠ b := by
 rintro rfl
 unfold At at h k
 rw [h] at k
 injection k with k
 injection k with _ k2
 exact hne k2
structure MkI (w1 w : World) (bp br : Nat) (vp vr : Value) (D : Foot) (ws : List (Nat × Value)) (L : List (Nat × List (BitVec 8))) (R : List RefV) : Prop where
 b : Below w1.heap.size w1 w
 gp : w1.heap.size ≤ bp
 gr : w1.heap.size ≤ br
 pb : At w bp #[vp] 29
 rb : At w br #[vr] 64
 e : Each2 (fun p q => p.1 = q.1 ∧ SlB D w p.2 q.2) ws L
 po : w.ownsRow w1.heap.size 41 2 vp L.length (putC ws)
 ro : w.ownsRow w1.heap.size 31 34 vr R.length (refCs R)
 d : ∀ k, D k → w1.heap.size ≤ k ∧ k < w.heap.size ∧ k ≠ bp ∧ k ≠ br ∧ vp.ownBlock ≠ some k ∧ vr.ownBlock ≠ some k
section
variable {w1 w w2 w3 w5 w6 : World} {bp br : Nat} {vp vr vp' vr' v2 : Value} {D G : Foot} {ws : List (Nat × Value)} {L : List (Nat × List (BitVec 8))} {R : List RefV}
theorem MkI.below (h : MkI w1 w bp br vp vr D ws L R) (hb : Below w.heap.size w w2) : MkI w1 w2 bp br vp vr D ws L R :=
 ⟨h.b.trans (hb.mono h.b.size), h.gp, h.gr, h.pb.below hb h.pb.lt, h.rb.below hb h.rb.lt, h.e.mono fun _ _ x => ⟨x.1, x.2.keep hb.size fun k _ hl => hb.block k hl⟩, ownsRow_below h.po hb, ownsRow_below h.ro hb,
  fun k hk => let ⟨a, b, c⟩ := h.d k hk; ⟨a, Nat.lt_of_lt_of_le b hb.size, c⟩⟩
theorem MkI.put {q : Nat} {x : List (BitVec 8)} (h : MkI w1 w bp br vp vr D ws L R) (hb : Below w.heap.size w w2) (hs : SlB G w2 v2 x) (hG : ∀ k, G k → w.heap.size ≤ k ∧ k < w2.heap.size) (hb3 : Below w2.heap.size w2 w3) (ha : App w3 w5 vp vp') (hb5 : Below w1.heap.size w3 w5)
 (ho : w5.ownsRow w1.heap.size 41 2 vp' (L.length + 1) (putC ws ++ [.int .i64 (q : Int), v2])) (hA : At w6 bp #[vp'] 29) (hk : ∀ k, k ≠ bp → w6.heap[k]? = w5.heap[k]?) (hB : ∀ B a, Below B a w5 → B ≤ bp → Below B a w6) :
 MkI w1 w6 bp br vp' vr (fun k => D k ∨ G k) (ws ++ [(q, v2)]) (L ++ [(q, x)]) R := by
 have hb13 : Below w.heap.size w w3 := hb.trans (hb3.mono hb.size)
 have z1 := h.b.size; have z2 := hb.size; have z3 := hb3.size; have z5 := ha.size
 have z6 : w5.heap.size ≤ w6.heap.size := (hB 0 w5 (Below.refl _ _) (Nat.zero_le _)).size
 have hbp := h.pb.lt; have hbr := h.rb.lt
 have nep : vp.ownBlock ≠ some bp := own_ne_at h.po h.pb (by decide)
 have ner : vp.ownBlock ≠ some br := own_ne_at h.po h.rb (by decide)
 have nrp : vr.ownBlock ≠ some bp := own_ne_at h.ro h.pb (by decide)
 have nbr : bp ≠ br := at_ne h.pb h.rb (by decide)
 have hlp := fun k hk => (World.ownsRow.lt h.po k hk).2
 have hlr := fun k hk => (World.ownsRow.lt h.ro k hk).2
 have keep : ∀ k, k < w.heap.size → k ≠ bp → vp.ownBlock ≠ some k → w6.heap[k]? = w.heap[k]? := fun k hl h1 h2 => by
  rw [hk k h1, ha.k k (by omega) h2, hb13.block k hl]
 have keep2 : ∀ k, w.heap.size ≤ k → k < w2.heap.size → w6.heap[k]? = w2.heap[k]? := fun k h1 hl => by
  rw [hk k (by omega), ha.k k (by omega) (fun e => by have := hlp k e; omega), hb3.block k hl]
 have hp5 : At w5 bp #[vp] 29 := at_appd (h.pb.below hb13 hbp) ha nep
 have nep5 : vp'.ownBlock ≠ some bp := own_ne_at ho hp5 (by decide)
 refine ⟨hB _ _ (((h.b.trans (hb.mono z1)).trans (hb3.mono (by omega))).trans hb5) h.gp, h.gp, h.gr, hA, ?_, ?_, ?_, ?_, ?_⟩
 ·have := h.rb
  unfold At at *
  rw [keep br hbr (fun e => nbr e.symm) ner]; exact this
 ·refine Each2.snoc ⟨rfl, ?_⟩ (h.e.mono fun p r hx => ⟨hx.1, ?_⟩)
  ·exact ((hs.keep (by omega) fun k hg hl => keep2 k (hG k hg).1 hl).mono fun k hg _ => .inr hg)
  ·refine ((hx.2.keep (by omega) fun k hd hl => ?_).mono fun k hd _ => .inl hd)
   obtain ⟨_, _, d3, _, d5, _⟩ := h.d k hd
   exact keep k hl d3 d5
 ·rw [putC_snoc, List.length_append]
  exact ownsRow_keep ho fun g hg => hk g (fun e => nep5 (by rw [← e]; exact hg))
 ·refine ownsRow_keep h.ro fun g hg => keep g (hlr g hg) (fun e => nrp (by rw [← e]; exact hg)) ?_
  exact fun e => ownsRow_ne h.po h.ro (by decide) g e hg
 ·intro k hk2
  have hnew : ∀ k, k < w2.heap.size → vp.ownBlock ≠ some k → vp'.ownBlock ≠ some k := fun k hl hne => by
   rcases ha.b with e | ⟨g, e, hge⟩
   ·rw [e]; exact hne
   ·rw [e]; intro c; injection c with c; omega
  rcases hk2 with hd | hg
  ·obtain ⟨d1, d2, d3, d4, d5, d6⟩ := h.d k hd
   exact ⟨d1, by omega, d3, d4, hnew k (by omega) d5, d6⟩
  ·obtain ⟨g1, g2⟩ := hG k hg
   exact ⟨by omega, by omega, by omega, by omega, hnew k g2 (fun e => by have := hlp k e; omega), fun e => by have := hlr k e; omega⟩
theorem MkI.ref {r : RefV} (h : MkI w1 w bp br vp vr D ws L R) (hb13 : Below w.heap.size w w3) (ha : App w3 w5 vr vr') (hb5 : Below w1.heap.size w3 w5)
 (ho : w5.ownsRow w1.heap.size 31 34 vr' (R.length + 1) (refCs R ++ refL r)) (hA : At w6 br #[vr'] 64) (hk : ∀ k, k ≠ br → w6.heap[k]? = w5.heap[k]?) (hB : ∀ B a, Below B a w5 → B ≤ br → Below B a w6) :
 MkI w1 w6 bp br vp vr' D ws L (R ++ [r]) := by
 have z1 := h.b.size; have z3 := hb13.size; have z5 := ha.size
 have z6 : w5.heap.size ≤ w6.heap.size := (hB 0 w5 (Below.refl _ _) (Nat.zero_le _)).size
 have hbp := h.pb.lt; have hbr := h.rb.lt
 have nep : vr.ownBlock ≠ some bp := own_ne_at h.ro h.pb (by decide)
 have ner : vr.ownBlock ≠ some br := own_ne_at h.ro h.rb (by decide)
 have npr : vp.ownBlock ≠ some br := own_ne_at h.po h.rb (by decide)
 have nbr : bp ≠ br := at_ne h.pb h.rb (by decide)
 have hlp := fun k hk => (World.ownsRow.lt h.po k hk).2
 have hlr := fun k hk => (World.ownsRow.lt h.ro k hk).2
 have keep : ∀ k, k < w.heap.size → k ≠ br → vr.ownBlock ≠ some k → w6.heap[k]? = w.heap[k]? := fun k hl h1 h2 => by
  rw [hk k h1, ha.k k (by omega) h2, hb13.block k hl]
 have hr5 : At w5 br #[vr] 64 := at_appd (h.rb.below hb13 hbr) ha ner
 have ner5 : vr'.ownBlock ≠ some br := own_ne_at ho hr5 (by decide)
 refine ⟨hB _ _ ((h.b.trans (hb13.mono z1)).trans hb5) h.gr, h.gp, h.gr, ?_, hA, ?_, ?_, ?_, ?_⟩
 ·have := h.pb
  unfold At at *
  rw [keep bp hbp nbr nep]; exact this
 ·refine h.e.mono fun p q hx => ⟨hx.1, hx.2.keep (by omega) fun k hd hl => ?_⟩
  obtain ⟨_, _, _, d4, _, d6⟩ := h.d k hd
  exact keep k hl d4 d6
 ·refine ownsRow_keep h.po fun g hg => keep g (hlp g hg) (fun e => npr (by rw [← e]; exact hg)) ?_
  exact fun e => ownsRow_ne h.po h.ro (by decide) g hg e
 ·rw [refCs_snoc, List.length_append]
  exact ownsRow_keep ho fun g hg => hk g (fun e => ner5 (by rw [← e]; exact hg))
 ·intro k hd
  obtain ⟨d1, d2, d3, d4, d5, d6⟩ := h.d k hd
  refine ⟨d1, by omega, d3, d4, d5, ?_⟩
  rcases ha.b with e | ⟨g, e, hge⟩
  ·rw [e]; exact d6
  ·rw [e]; intro c; injection c with c; omega
end
theorem elemPt : elemR Tryz.prog 29 41 (.agg #[.int .i64 0, .slice none 0 0]) 2 32 := ⟨Tryz.underlying29, by kernel_rfl⟩
theorem infoPts : (Tryz.prog.info? 29).map (·.size) = some 1 := by kernel_rfl
theorem infoRfs : (Tryz.prog.info? 64).map (·.size) = some 1 := by kernel_rfl
theorem buildPt (q : Nat) (a2 : Option Addr) (l c : Nat) (wx : World) : (Instr.build 41 #[(0, .int .i64 (q : Int)), (1, .slice a2 l c)]).run Tryz.prog wx = .ok (.agg (ptRow q (.slice a2 l c))) wx := by
 unfold ptRow
 kernel_rfl
theorem builtPt (q : Nat) (a2 : Option Addr) (l c : Nat) : Tryz.prog.builtSlice 41 1 [(0, .agg (ptRow q (.slice a2 l c)))] = some (ptRow q (.slice a2 l c)) := by
 unfold ptRow
 kernel_rfl
set_option maxHeartbeats 4000000 in
theorem pput_any {w1 w : World} {bb bk be bs bp br p i : Nat} {ep : BitVec 32} {vp vr : Value} {D : Foot} {ws : List (Nat × Value)} {L : List (Nat × List (BitVec 8))} {R : List RefV} (key : List (BitVec 8)) (pg : List (BitVec 8)) (v : Value) (lk : key.length = 32) (hT : TT w1) (h1 : p ≤ 216) (hi : i < itn p)
 (h : MkI w1 w bp br vp vr D ws L R) (hbb : At w1 bb #[.pointer none] 86) (hbk : At w1 bk (u8s key).toArray 22) (hbe : At w1 be #[.int .u32 (V ep)] 23) (hbs : At w1 bs (psC p) 48)
 (hv : Sl w v pg) (hp : pg.length = 256) (hL : L.length ≤ 1000) (hR : R.length ≤ 1000) :
 Calls Tryz.prog 32 #[.int .i64 (i : Int), v, .pointer (some ⟨bs, 0, none⟩), .pointer (some ⟨bb, 0, none⟩), .pointer (some ⟨bk, 0, none⟩), .pointer (some ⟨be, 0, none⟩), .pointer (some ⟨bp, 0, none⟩), .pointer (some ⟨br, 0, none⟩)] w
  fun e w' => e = .returned (.int .i64 0) ∧ ∃ vp' vr' D' ws', MkI w1 w' bp br vp' vr' D' ws' (L ++ [(2 + 2 * i, (hideR key ep 0 (2 + 2 * (i : Int)) pg).1)]) (R ++ [(hideR key ep 0 (2 + 2 * (i : Int)) pg).2.1]) := by
 have bk0 := fun wx => pblock_any p (i : Int) 0 wx h1
 have hbz : BZ p (i : Int) 0 = ((2 + 2 * i : Nat) : Int) := by rw [show (0 : Int) = ((0 : Nat) : Int) from rfl, BZ_at p i 0 hi (by decide)]; omega
 rw [hbz] at bk0
 have hit := itn_le259 p h1
 have e0 : (2 : Int) + 2 * (i : Int) = ((2 + 2 * i : Nat) : Int) := by omega
 rw [e0]
 have hgd := hideR_good key ep 0 ((2 + 2 * i : Nat) : Int) pg hp (by omega) (by omega) (by omega)
 have hd := fun wx (hb : Below w1.heap.size w1 wx) (hs : Sl wx v pg) => phide_any (F := fun _ => False) (bp := .pointer none) (ts := []) key lk ep 0 ((2 + 2 * i : Nat) : Int) (by omega) pg v wx w1 (.inl ⟨rfl, fun _ h => h⟩) (by simp) hs (by omega) hT.1 hT.2 hb (fun _ h => h.elim)
 have hrw : (hideR key ep 0 ((2 + 2 * i : Nat) : Int) pg).2.1.Wf := hideR_wf _ _ _ _ _
 have hlen : (hideR key ep 0 ((2 + 2 * i : Nat) : Int) pg).1.length = 256 := by rw [hgd]; exact (sealL_length ..).trans hp
 have h3 : (hideR key ep 0 ((2 + 2 * i : Nat) : Int) pg).2.2 = 0 := by rw [hgd]
 rw [h3] at hd
 obtain ⟨q, hq⟩ : ∃ q, q = 2 + 2 * i := ⟨_, rfl⟩
 rw [← hq] at hd hrw hlen bk0 ⊢
 obtain ⟨x, hx⟩ : ∃ x, x = (hideR key ep 0 (q : Int) pg).1 := ⟨_, rfl⟩
 obtain ⟨r, hr⟩ : ∃ r, r = (hideR key ep 0 (q : Int) pg).2.1 := ⟨_, rfl⟩
 rw [← hx, ← hr] at hd ⊢
 rw [← hx] at hlen
 rw [← hr] at hrw
 have hd : ∀ wx : World, Below w1.heap.size w1 wx → Sl wx v pg → Calls Tryz.prog 34 #[.pointer none, .agg (u8s key).toArray, .int .u32 (V ep), .int .i64 0, .int .i64 (q : Int), v] wx fun e w' => ∃ v', e = .returned (.tuple #[v', .agg (refC r), .int .i64 0]) ∧ SlB (fun k => wx.heap.size ≤ k ∧ k < w'.heap.size) w' v' x ∧ Below wx.heap.size wx w' := fun wx hb hs => by
  refine (hd wx hb hs).mono ?_
  rintro e w' ⟨v', F', h4, h5, _, _, h6⟩
  exact ⟨v', h4, h5.mono fun k hk hl => ⟨hk.1, hl⟩, chg_none h6⟩
 have rs := refC_size hrw; have ro := refC_one r
 have rbt := built_rp r hrw
 have rdf := fun wx => rd_rf (w := wx) (e := 31) hrw
 have rl := refL_one r
 obtain ⟨M, hM⟩ : ∃ M, M = refC r := ⟨_, rfl⟩
 have kc : (u8s key).toArray.size = 32 := by simp [u8s_length, lk]
 obtain ⟨KC, hKC⟩ : ∃ K, K = (u8s key).toArray := ⟨_, rfl⟩
 have cs : (psC p).size = 1 := rfl
 obtain ⟨C, hC⟩ : ∃ C, C = psC p := ⟨_, rfl⟩
 have hxr := zeroRfP
 obtain ⟨Z, hZ⟩ : ∃ Z, Z = refC zref := ⟨_, rfl⟩
 have zs : Z.size = 34 := by rw [hZ]; exact refC_size zref_wf
 rw [← hZ] at hxr
 rw [← hM] at rs ro rbt rdf hd
 rw [← hKC] at kc hd hbk
 rw [← hC] at bk0 cs hbs
 obtain ⟨nL, hnL⟩ : ∃ n, n = L.length := ⟨_, rfl⟩
 obtain ⟨nR, hnR⟩ : ∃ n, n = R.length := ⟨_, rfl⟩
 rw [← hnL] at hL
 rw [← hnR] at hR
 have hbld := buildPt q
 have hbt := builtPt q
 have cb : w.cell? ⟨bb, 0, none⟩ = some (.pointer none) := (h.b.cell (p := ⟨bb, 0, none⟩) hbb.lt).trans ((hbb.cell 0).trans rfl)
 have ce : w.cell? ⟨be, 0, none⟩ = some (.int .u32 (V ep)) := (h.b.cell (p := ⟨be, 0, none⟩) hbe.lt).trans ((hbe.cell 0).trans rfl)
 have CB := zh cb; have CE := zh ce; have LBB := zh (Nat.lt_of_lt_of_le hbb.lt h.b.size); have LBE := zh (Nat.lt_of_lt_of_le hbe.lt h.b.size)
 have BK := zh bk0; have HD := zh hd; have RS := zh rs; have RO := zh ro; have RB := zh rbt; have RDF := zh rdf; have RLO := zh rl; have KS := zh kc; have CS := zh cs; have ZS := zh zs; have BLD := zh hbld; have BT := zh hbt; have XL := zh hlen; have NL := zh hnL; have NR := zh hnR
 have AK := zh (hbk.below h.b hbk.lt); have AS := zh (hbs.below h.b hbs.lt); have I := zh h; have HV := zh hv; have HRL : Hid (refL r = M.toList) := zh (by rw [hM]; rfl)
 obtain ⟨av, cv, rfl⟩ := sl_inv hv
 rw [hp] at HD HV ⊢
 clear bk0 hd rs ro rbt rdf rl kc cs zs hbld hbt hlen hbk hbs h hv cb ce hM hKC hC hZ hx hr hgd h3 hrw hbb hbe hq e0 hbz hit hT hnL hnR hp
 go_enter Tryz.func32, Tryz.ntmps32
 go_wp2_with (refine wpList_load_all zr 48 _ zr bs zr _ Tryz.underlying48 zr C _ AS.out (by rw [CS.out]; exact infoPS) ?_)
 refine (BK.out _).mono ?_
 rintro e w2 ⟨rfl, hb2⟩
 have cb : w2.cell? ⟨bb, 0, none⟩ = some (.pointer none) := (hb2.cell (p := ⟨bb, 0, none⟩) LBB.out).trans CB.out
 have ce : w2.cell? ⟨be, 0, none⟩ = some (.int .u32 (V ep)) := (hb2.cell (p := ⟨be, 0, none⟩) LBE.out).trans CE.out
 have I2 := zh (I.out.below hb2); have AK2 := zh (AK.out.below hb2 AK.out.lt); have V2 := zh (HV.out.below hb2)
 clear hb2
 go_wp2_with (refine wpList_load_all zr 22 _ zr bk zr _ Tryz.underlying22 zr KC _ AK2.out (by rw [KS.out]; kernel_rfl) ?_)
 refine (HD.out _ I2.out.b V2.out).mono ?_
 rintro e w3 ⟨v3, rfl, hs3, hb3⟩
 obtain ⟨a3, c3, e3⟩ := sl_inv hs3.sl
 rw [XL.out] at e3
 subst e3
 clear cb ce
 have hb4 : Below w2.heap.size w2 (w3.alloc (.cells M 31)) := hb3.alloc hb3.size _
 have B4 := zh hb4
 have S4 : Hid (SlB (fun k => w2.heap.size ≤ k ∧ k < (w3.alloc (.cells M 31)).heap.size) (w3.alloc (.cells M 31)) (.slice a3 256 c3) x) := zh ((hs3.keep (by simp) fun k _ hl => ((Below.refl w3.heap.size w3).alloc (Nat.le_refl _) _).block k hl).mono fun k hk hl => ⟨hk.1, hl⟩)
 have A4 := zh (at_new w3 M 31)
 clear hs3 hb3 hb4
 go_upto_region 3 with (refine wpList_store_new zr 31 _ _ zr zr M _ _ zr zr (by rw [RS.out]; exact infoRfP) (by rw [RS.out, ZS.out]) RO.out ?_)
 clear hxr
 obtain ⟨bm, hbm⟩ : ∃ bm, bm = w3.heap.size := ⟨_, rfl⟩
 rw [← hbm] at A4 ⊢
 clear hbm
 generalize (w3.alloc (.cells M 31)) = w4 at *
 have I4 := zh (I2.out.below B4.out)
 obtain ⟨ap, cp, rfl⟩ := rows_hd I4.out.po
 obtain ⟨ar, cr, rfl⟩ := rows_hd I4.out.ro
 have O5 : Hid ((w4.alloc (.cells (ptRow q (.slice a3 256 c3)) 41)).ownsRow w1.heap.size 41 2 (.slice ap nL cp) nL (putC ws)) := zh (by
  have h := World.ownsRow.alloc I4.out.po (.cells (ptRow q (.slice a3 256 c3)) 41)
  rw [← NL.out] at h
  exact h)
 have P5 : Hid (At (w4.alloc (.cells (ptRow q (.slice a3 256 c3)) 41)) bp #[.slice ap nL cp] 29) := zh (by rw [NL.out]; exact I4.out.pb.alloc _)
 have cp0 : w4.cell? ⟨bp, 0, none⟩ = some (.slice ap nL cp) := by rw [NL.out]; exact (I4.out.pb.cell 0).trans rfl
 have B5 : Hid (w1.heap.size ≤ (w4.alloc (.cells (ptRow q (.slice a3 256 c3)) 41)).heap.size) := zh (by have := I4.out.b.size; simp; omega)
 have Q5 : Hid (Below w4.heap.size w4 (w4.alloc (.cells (ptRow q (.slice a3 256 c3)) 41))) := zh ((Below.refl _ _).alloc (Nat.le_refl _) _)
 go_upto_region 4 with (first
  | (refine Mem.wpList_build zr 41 _ #[(0, .int .i64 (q : Int)), (1, .slice a3 256 c3)] (.agg (ptRow q (.slice a3 256 c3))) zr (by first | rfl | simp [Act.eval]) (fun wx => BLD.out _ _ _ wx) ?_)
  | ((refine Go.Great.wpList_buildSliceTo zr 29 41 1 _ zr _ zr _ zr Tryz.underlying29 (ptRow q (.slice a3 256 c3)) (by first | (simp [Act.eval, Act.put]; exact BT.out _ _ _) | (go_simp; exact BT.out _ _ _) | (simp only [List.map_toArray, List.map_cons, List.map_nil]; exact BT.out _ _ _)) ?_))
  | (at_builtin; go_loud (refine wpList_append_app zr _ _ 29 zr (.slice (some ⟨w4.heap.size, 0, none⟩) 1 1) nL 1 2 [.int .i64 (q : Int), .slice a3 256 c3] (.agg #[.int .i64 0, .slice none 0 0]) 32 elemPt zr (by decide) zr O5.out zr (by exact rdR_new (e := 41) (C := ptRow q (.slice a3 256 c3))) (by simp [Value.oneCell']) (by omega) (by omega) B5.out ?_); intro v6 w6 ho6 ha6 hb6; obtain ⟨a6, c6, rfl⟩ := rows_hd ho6; have O6 := zh ho6; have A6 := zh ha6; have B6 := zh hb6; have P6 := zh (at_appd P5.out ha6 (own_ne_at O5.out P5.out (by decide))); clear ho6 ha6 hb6)
  | (refine Mem.wpList_store_one zr 29 _ _ zr zr bp 0 (.slice a6 (nL + 1) c6) zr zr zr infoPts _ 29 P6.out (by simp) ?_; intro w7 ha7 ho7 hb7; have A7 := zh ha7; have H7 := zh ho7; have B7 := zh hb7; clear ha7 ho7 hb7))
 clear cp0
 have I7 : Hid (MkI w1 w7 bp br (.slice a6 (nL + 1) c6) (.slice ar R.length cr) (fun k => D k ∨ (w2.heap.size ≤ k ∧ k < w4.heap.size)) (ws ++ [(q, .slice a3 256 c3)]) (L ++ [(q, x)]) R) := zh (by
  have hn := NL.out
  subst hn
  exact MkI.put I2.out B4.out S4.out (fun k hk => hk) Q5.out A6.out B6.out O6.out A7.out (fun k hk => H7.out k hk) (fun B a hb hle => B7.out B a hb hle))
 have M7 : Hid (At w7 bm M 31) := zh (by
  have hn1 : bm ≠ bp := at_ne A4.out I4.out.pb (by decide)
  have h5 := at_appd (A4.out.alloc (.cells (ptRow q (.slice a3 256 c3)) 41)) A6.out (own_ne_at O5.out (A4.out.alloc _) (by decide))
  unfold At at *
  rw [H7.out bm hn1]; exact h5)
 clear I4 O5 P5 B5 Q5 O6 A6 B6 P6 A7 H7 B7 A4 S4 B4
 have O8 : Hid ((w7.alloc (.cells M 31)).ownsRow w1.heap.size 31 34 (.slice ar nR cr) nR (refCs R)) := zh (by
  have h := World.ownsRow.alloc I7.out.ro (.cells M 31)
  rw [← NR.out] at h
  exact h)
 have P8 : Hid (At (w7.alloc (.cells M 31)) br #[.slice ar nR cr] 64) := zh (by rw [NR.out]; exact I7.out.rb.alloc _)
 have cr0 : w7.cell? ⟨br, 0, none⟩ = some (.slice ar nR cr) := by rw [NR.out]; exact (I7.out.rb.cell 0).trans rfl
 have B8 : Hid (w1.heap.size ≤ (w7.alloc (.cells M 31)).heap.size) := zh (by have := I7.out.b.size; simp; omega)
 have Q8 : Hid (Below w7.heap.size w7 (w7.alloc (.cells M 31))) := zh ((Below.refl _ _).alloc (Nat.le_refl _) _)
 go_upto_region 5 with (first
  | (refine wpList_load_all zr 31 _ zr bm zr _ Tryz.underlying31 zr M _ M7.out (by rw [RS.out]; exact infoRfP) ?_)
  | ((refine Go.Great.wpList_buildSliceTo zr 64 31 1 _ zr _ zr _ zr Tryz.underlying64 M (by first | (simp [Act.eval, Act.put]; exact RB.out) | (go_simp; exact RB.out) | (simp only [List.map_toArray, List.map_cons, List.map_nil]; exact RB.out)) ?_))
  | (at_builtin; go_loud (refine wpList_append_app zr _ _ 64 zr (.slice (some ⟨w7.heap.size, 0, none⟩) 1 1) nR 1 34 (refL r) (.agg (refC zref)) 48 elemRP (refC_size zref_wf) (by decide) zr O8.out zr (RDF.out w7) RLO.out (by omega) (by omega) B8.out ?_); intro v9 w9 ho9 ha9 hb9; obtain ⟨a9, c9, rfl⟩ := rows_hd ho9; have O9 := zh ho9; have A9 := zh ha9; have B9 := zh hb9; have P9 := zh (at_appd P8.out ha9 (own_ne_at O8.out P8.out (by decide))); clear ho9 ha9 hb9)
  | (refine Mem.wpList_store_one zr 64 _ _ zr zr br 0 (.slice a9 (nR + 1) c9) zr zr zr infoRfs _ 64 P9.out (by simp) ?_; intro w10 ha10 ho10 hb10; have A10 := zh ha10; have H10 := zh ho10; have B10 := zh hb10; clear ha10 ho10 hb10))
 clear cr0
 have I10 : Hid (MkI w1 w10 bp br (.slice a6 (nL + 1) c6) (.slice a9 (nR + 1) c9) (fun k => D k ∨ (w2.heap.size ≤ k ∧ k < w4.heap.size)) (ws ++ [(q, .slice a3 256 c3)]) (L ++ [(q, x)]) (R ++ [r])) := zh (by
  have hn := NR.out
  subst hn
  exact MkI.ref (r := r) I7.out Q8.out A9.out B9.out O9.out A10.out (fun k hk => H10.out k hk) (fun B a hb hle => B10.out B a hb hle))
 go_wp2_with fail
 go_ret
 exact ⟨rfl, _, _, _, _, I10.out⟩
end Sha
end Go.Proofs.YtajdpbbbocnfiaaGreatDoor
namespace Go.Proofs.YtajdpbbbocnfiaaGreatDoor
namespace Sha
open Go.RowKit Mem
set_option maxRecDepth 100000
theorem kidsZ_node {p i : Nat} (hi : p ≤ i) (hit : i < itn p) : KZ p (i : Int) = kz p i (many p i) := by
 unfold KZ
 rw [if_pos ⟨by omega, by omega⟩, Int.toNat_natCast]
set_option maxHeartbeats 1000000 in
theorem pcontent_page (p i : Nat) (P : List (List (BitVec 8))) (R : List RefV) (v vr : Value) (w : World) (hs : Sls w v P) (hp : P.length = p) (_h1 : p ≤ 216) (hi : i < p) : Calls Tryz.prog 35 #[.agg (psC p), .int .i64 (i : Int), v, vr] w (SealEnd w (pageI P R i) 0) := by
 have hy : pageI P R i = P.getD i [] := by unfold pageI; rw [if_pos (by omega)]
 rw [hy]
 have hs0 := hs
 obtain ⟨av, cv, rfl, _, _⟩ := hs0
 rw [hp] at hs ⊢
 obtain ⟨pb, po, vi, rfl, hpb, hcell, hsl⟩ := sls_at hs (i := i) (by omega)
 obtain ⟨a1, c1, rfl⟩ := sl_inv hsl
 obtain ⟨x, hx⟩ : ∃ x, x = P.getD i [] := ⟨_, rfl⟩
 rw [← hx] at hcell hsl ⊢
 obtain ⟨m, hm⟩ : ∃ m, m = x.length := ⟨_, rfl⟩
 rw [← hm] at hcell hsl
 have hb := (Below.refl w.heap.size w).alloc (Nat.le_refl _) (.cells (psC p) 48)
 have hc1 : (w.alloc (.cells (psC p) 48)).cell? ⟨pb, po + i, none⟩ = some (.slice a1 m c1) := (hb.cell (p := ⟨pb, po + i, none⟩) hpb).trans hcell
 have hs2 := hsl.below hb
 have hlt : (i : Int) < (p : Int) := by omega
 have HB := zh hb; have HS := zh hs2
 clear hb hs2 hsl hcell hs hx hm hy hpb hp _h1
 go_enter Tryz.func35, Tryz.ntmps35
 go_upto_region 1 with fail
 generalize w.alloc (.cells (psC p) 48) = w1 at *
 go_wp2_with fail
 go_ret2
 exact ⟨_, rfl, HS.out, HB.out⟩
set_option maxHeartbeats 2000000 in
theorem pcontent_node (p i : Nat) (P : List (List (BitVec 8))) (R : List RefV) (v vr : Value) (w : World) (hs : Sls w v P) (hr : SlRf w vr R) (hwf : ∀ r ∈ R, r.Wf) (hp : P.length = p) (h0 : 1 ≤ p) (h1 : p ≤ 216) (hi : p ≤ i) (hit : i < itn p) (hR : R.length = i) : Calls Tryz.prog 35 #[.agg (psC p), .int .i64 (i : Int), v, vr] w (SealEnd w (pageI P R i) (layN (kidR p R i)).2) := by
 have hy : pageI P R i = (layN (kidR p R i)).1 := by unfold pageI; rw [if_neg (by omega), hp]
 rw [hy]
 obtain ⟨hk1, hk2⟩ := node_kids p i h0 h1 hi hit
 have h6 := many_le p i
 have hlen := kidR_length p R i (by omega)
 have hget := fun t (ht : t < many p i) => kidR_get p R i t ht
 have hkw := kidR_wf p hwf i
 have kd := fun wx => pkids_any p (i : Int) wx h1
 rw [kidsZ_node hi hit] at kd
 have kl := kz_length p i (many p i)
 have kg := fun t (ht : t < many p i) => kz_get p i (many p i) t ht
 obtain ⟨K, hK⟩ : ∃ K, K = kz p i (many p i) := ⟨_, rfl⟩
 obtain ⟨L, hL⟩ : ∃ L, L = kidR p R i := ⟨_, rfl⟩
 rw [← hL] at hlen hget hkw ⊢
 rw [← hK] at kd kl kg
 have hts := fun t (ht : t < L.length) => refCs_take L t ht
 have hall : L.take L.length = L := List.take_of_length_le (Nat.le_refl _)
 have hz : refCs (L.take 0) = [] := by rw [List.take_zero]; rfl
 have ly := fun vx wx h => play13_any L vx wx h hkw
 have hgw := fun t => getD_wf hkw t
 obtain ⟨f, hf⟩ : ∃ f, f = fst p i := ⟨_, rfl⟩
 obtain ⟨n, hn⟩ : ∃ n, n = many p i := ⟨_, rfl⟩
 rw [← hn] at hk1 hk2 h6 hlen hget kl kg
 rw [← hf] at hk2 hget kg
 obtain ⟨Y, hY⟩ : ∃ Y, Y = layN L := ⟨_, rfl⟩
 rw [← hY] at ly ⊢
 rw [hlen] at hts hall
 obtain ⟨av, cv, rfl, _, _⟩ := hs
 obtain ⟨ar, cr, rfl⟩ := hr.hd
 rw [hp]
 rw [hR] at hr ⊢
 have hb := (Below.refl w.heap.size w).alloc (Nat.le_refl _) (.cells (psC p) 48)
 have ha := at_new w (psC p) 48
 have cs : (psC p).size = 1 := rfl
 obtain ⟨C, hC⟩ : ∃ C, C = psC p := ⟨_, rfl⟩
 rw [← hC] at kd hb ha cs ⊢
 have hnl : ¬ (i : Int) < (p : Int) := by omega
 have KD := zh kd; have KL := zh kl; have KG := zh kg; have LY := zh ly; have TS := zh hts; have ALL := zh hall; have HZ := zh hz; have GW := zh hgw; have GT := zh hget; have LN := zh hlen; have KW := zh hkw; have HB := zh hb; have HA := zh ha; have CS := zh cs; have HR := zh (hr.below hb); have HRL := zh hR; have BS := zh hb.size
 clear kd kl kg ly hts hall hz hgw hget hlen hkw hb ha cs hr hR hy hL hK hf hn hY hC hwf hp
 go_enter Tryz.func35, Tryz.ntmps35
 go_upto_region 1 with fail
 generalize w.alloc (.cells C 48) = w1 at *
 go_wp2_with (refine wpList_load_all zr 48 _ zr w.heap.size zr _ Tryz.underlying48 zr C _ HA.out (by rw [CS.out]; exact infoPS) ?_)
 refine (KD.out _).mono ?_
 rintro e w2 ⟨vk, rfl, hk, hb2⟩
 obtain ⟨ak, ck, rfl⟩ := hk.hdn KL.out
 have HK := zh hk; have B2 := zh (HB.out.trans (hb2.mono HB.out.size)); have R2 := zh (HR.out.below hb2)
 clear hk hb2
 go_wp2_with fail
 go_loopw [10, 25] (fun vo vi wr => ∃ t : Nat, t ≤ n ∧ vi = .int .i64 (t : Int) ∧ wr.ownsRow w2.heap.size 31 34 vo t (refCs (L.take t)) ∧ Below w2.heap.size w2 wr) (fun _ vi _ => n - (intOf vi).toNat)
 case atStart => exact ⟨0, by omega, rfl, by rw [HZ.out]; exact World.ownsRow_nil _ _ _ _, Below.refl _ _⟩
 case round =>
  obtain ⟨t, ht, rfl, ho, hbw⟩ := hrel
  have OW := zh ho; have BW := zh hbw; have RW := zh (R2.out.below hbw); have KW2 := zh (HK.out.below hbw)
  clear ho hbw
  by_cases hlt : t < n
  ·have hlt2 : (t : Int) < (n : Int) := by omega
   obtain ⟨b, o, ea, _, hkc⟩ := sli_at (i := t) KW2.out KL.out.symm hlt
   rw [KG.out t hlt] at hkc
   subst ea
   obtain ⟨q, hq⟩ : ∃ q, q = f + t := ⟨_, rfl⟩
   have hqi : q < i := by omega
   obtain ⟨rb, ro, ea, _, hrr⟩ := slrf_at (i := q) RW.out HRL.out.symm hqi
   subst ea
   have hgt := GT.out t hlt
   rw [← hq] at hkc hgt
   rw [← hgt] at hrr
   have hwi := GW.out t
   have hts := TS.out t hlt
   obtain ⟨r, hr0⟩ : ∃ r, r = L.getD t zref := ⟨_, rfl⟩
   rw [← hr0] at hrr hwi hts
   have rbt := built_rp r hwi
   have rdf := fun wx => rd_rf (w := wx) (e := 31) hwi
   have rl := refL_one r
   obtain ⟨M, hM⟩ : ∃ M, M = refC r := ⟨_, rfl⟩
   have ms : M.size = 34 := by rw [hM]; exact refC_size hwi
   have mo : M.all (·.oneCell') = true := by rw [hM]; exact refC_one r
   have hrg : ∀ wx : World, wx.rangeAt rb (ro + q * 34) (refL r) → wx.rangeAt rb (ro + q * 34) M.toList := fun wx h => by rw [hM]; exact h
   rw [← hM] at rbt rdf
   have MS := zh ms; have MO := zh mo; have RB := zh rbt; have RDF := zh rdf; have RLO := zh rl; have RGM := zh (hrg wr hrr); have HTS := zh hts
   have B4 : Hid (Below w2.heap.size w2 (wr.alloc (.cells M 31))) := zh (BW.out.alloc BW.out.size _)
   have O4 : Hid ((wr.alloc (.cells M 31)).ownsRow w2.heap.size 31 34 u10 t (refCs (L.take t))) := zh (World.ownsRow.alloc OW.out _)
   clear hrr hwi hts hr0 rbt rdf rl hM ms mo hrg hgt hq
   go_wp2_with (first
    | (refine wpList_load_mid zr 31 _ zr rb (ro + q * 34) zr M.toList _ RGM.out Tryz.underlying31 zr (by rw [infoRfP, Array.length_toList, MS.out]) ?_; rw [Array.toArray_toList])
    | ((refine Go.Great.wpList_buildSliceTo zr 64 31 1 _ zr _ zr _ zr Tryz.underlying64 M (by first | (simp [Act.eval, Act.put]; exact RB.out) | (go_simp; exact RB.out) | (simp only [List.map_toArray, List.map_cons, List.map_nil]; exact RB.out)) ?_))
    | (at_builtin; go_loud (refine wpList_append_app zr _ _ 64 zr (.slice (some ⟨wr.heap.size, 0, none⟩) 1 1) t 1 34 (refL r) (.agg (refC zref)) 48 elemRP (refC_size zref_wf) (by decide) zr O4.out zr (RDF.out wr) RLO.out (by omega) (by omega) B4.out.size ?_); intro v5 w5 ho5 ha5 hb5; have O5 : Hid (w5.ownsRow w2.heap.size 31 34 v5 (t + 1) (refCs (L.take (t + 1)))) := zh (by rw [HTS.out]; exact ho5); have B5 := zh (B4.out.trans hb5); clear ho5 ha5 hb5))
   go_roundw
   case rel => exact ⟨t + 1, by omega, by go_num, O5.out, B5.out⟩
   case measure => simp [intOf]; omega
  ·have hin : t = n := by omega
   subst hin
   have hge : ¬ (t : Int) < (t : Int) := by omega
   have ho := OW.out
   rw [ALL.out] at ho
   have hov : OwnRf wr w2.heap.size 31 u10 L := by
    show wr.ownsRow _ _ _ _ L.length _
    rw [LN.out]; exact ho
   have SV := zh (own_slrf hov KW.out)
   clear hov
   clear ho OW
   go_wp2_with fail
   refine (LY.out _ _ SV.out).mono ?_
   rintro e w6 ⟨v6, rfl, hs6, hb6⟩
   have S6 := zh hs6; have B6 := zh ((B2.out.trans (BW.out.mono B2.out.size)).trans (hb6.mono (Nat.le_trans B2.out.size BW.out.size)))
   clear hs6 hb6
   go_wp2_with fail
   go_ret2
   exact ⟨_, rfl, S6.out, B6.out⟩
end Sha
end Go.Proofs.YtajdpbbbocnfiaaGreatDoor
namespace Go.Proofs.YtajdpbbbocnfiaaGreatDoor
namespace Sha
open Go.ChangeShapes Go.WideShapes Go.ChangeAt Go.WideMaps Go.WideElems Go.RowKit Mem
set_option maxRecDepth 100000
theorem open_ep14 {H : Type} {enc : TypeId × Value → H} {W : World} {base : Nat} {v : Value} {d : DataW H} {p : List MemPlace} (hval : Value.okWide Tryz.prog W .any base 23 v) (h : DataW.Trod enc Tryz.prog W 0 (fun _ => true) true 23 v d p) :
 ∃ n : BitVec 32, v = .int .u32 (V n) := by
 obtain ⟨c, rfl, _, _, wc⟩ := open_int Tryz.underlying23 hval h
 simp [Lit.wf, IntKind.min, IntKind.max, IntKind.signed, IntKind.bits] at wc
 refine ⟨BitVec.ofNat 32 c.toNat, ?_⟩
 unfold V
 rw [BitVec.toNat_ofNat]
 congr 1
 omega
end Sha
end Go.Proofs.YtajdpbbbocnfiaaGreatDoor
