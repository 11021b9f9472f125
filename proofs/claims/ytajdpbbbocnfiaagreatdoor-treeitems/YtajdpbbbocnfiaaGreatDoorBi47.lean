/- Layer 14's law TreeItems, over the contracts (written by mkitm.py). Layer 14's law TreeItems, over the contracts: all cases. -/
import Derived.Test.YtajdpbbbocnfiaaGreatDoorBi44
import Derived.Test.YtajdpbbbocnfiaaGreatDoorBi19
import Derived.Test.YtajdpbbbocnfiaaGreatDoorBi46
import Derived.Test.YtajdpbbbocnfiaaGreatDoorBi45
import Derived.Test.YtajdpbbbocnfiaaGreatDoorBi35
import Derived.Test.YtajdpbbbocnfiaaGreatDoorBi04
namespace Go.Proofs.YtajdpbbbocnfiaaGreatDoor
namespace Sha
open Go.RowKit Mem
set_option maxRecDepth 100000
theorem built_rp2 (r q : RefV) (hr : r.Wf) (hq : q.Wf) : Tryz.prog.builtSlice 31 2 [(0, .agg (refC r)), (1, .agg (refC q))] = some (refC r ++ refC q) := by
 obtain ⟨p, e, dg⟩ := r
 obtain ⟨p2, e2, dg2⟩ := q
 have h : dg.length = 32 := hr.dg
 have h2 : dg2.length = 32 := hq.dg
 match dg, h with
 | [a0, a1, a2, a3, a4, a5, a6, a7, a8, a9, a10, a11, a12, a13, a14, a15, a16, a17, a18, a19, a20, a21, a22, a23, a24, a25, a26, a27, a28, a29, a30, a31], _ =>
  match dg2, h2 with
  | [c0, c1, c2, c3, c4, c5, c6, c7, c8, c9, c10, c11, c12, c13, c14, c15, c16, c17, c18, c19, c20, c21, c22, c23, c24, c25, c26, c27, c28, c29, c30, c31], _ => show Program.builtSlice _ _ _ _ = some _; kernel_rfl
theorem own_lit_rf2 {w : World} {B : Nat} {r q : RefV} {e : TypeId} (hr : r.Wf) (hq : q.Wf) (hB : B ≤ w.heap.size) : OwnRf (w.alloc (.cells (refC r ++ refC q) e)) B e (.slice (some ⟨w.heap.size, 0, none⟩) 2 2) [r, q] := by
 have h := World.ownsRow_lit (size := 34) (e := e) w (refC r ++ refC q) 2 hB (by decide) (by rw [Array.size_append, refC_size hr, refC_size hq])
 show World.ownsRow _ _ _ _ _ 2 (refCs [r, q])
 rw [show refCs [r, q] = (refC r ++ refC q).toList by simp [refCs]; rfl]
 exact h
set_option maxHeartbeats 8000000 in
theorem items14_good (T : TreeP) (l : List (List (BitVec 8))) (z : Int) (r : RefV) (v : Value) (w : World) (hT : TT w) (hr : r.Wf) (hs : Sls w v l) (hf : farP l = false) (h0 : l.length ≠ 0) (h216 : l.length ≤ 216) :
 Calls Tryz.prog 5 #[v, .int .i64 z, .agg (refC r)] w (fun e w' => e = .returned (.bool true) ∧ Below w.heap.size w w') := by
 have hP := pages_good14 h0 h216
 have fr := fun wx (h : Below w.heap.size w wx) => far14_any l v wx (hs.below h)
 rw [hf] at fr
 have pg := fun wx (h : Below w.heap.size w wx) => pages_any l v wx (hs.below h) (by omega)
 have hlen : (l.map pageL).length = l.length := List.length_map ..
 obtain ⟨P, hPe⟩ : ∃ P, P = l.map pageL := ⟨_, rfl⟩
 rw [← hPe] at hP pg hlen
 have hk32 : (List.replicate 32 (0 : BitVec 8)).length = 32 := List.length_replicate ..
 obtain ⟨key, hkey⟩ : ∃ k, k = List.replicate 32 (0 : BitVec 8) := ⟨_, rfl⟩
 rw [← hkey] at hk32
 have bk0 := build_K014
 rw [← hkey] at bk0
 have ld : ∀ v wx, Below w.heap.size w wx → Sls wx v P → Calls Tryz.prog 12 #[.pointer none, .agg (u8s key).toArray, .int .u32 4, v] wx (LdEnd key 4 P wx) := fun v wx h hs => laid_any T key 4 P v wx (hT.below h) hk32 hP hs
 have hB := img_b (key := key) (ep := 4) hP
 have hK := img_blks (key := key) (ep := 4) hP
 have hok := (img_ok (key := key) (ep := 4) hP).mono (m' := 1000) (by have := itn_big P.length hP.p0 hP.p1; omega)
 have hit := itn_big P.length hP.p0 hP.p1
 have wh := fun (F : Foot) (b : Nat) wx (h : Below w.heap.size w wx) (hp : PSt F b wx (stImg key 4 P)) => T.whole key P.length (refT key 4 P (itn P.length - 1)) wx (hT.below h) hk32 hp hok rfl hP.p0 hP.p1 (refT_wf _)
 rw [backT hP hB hK] at wh
 have ft := fun (F : Foot) (b : Nat) (q : RefV) (hq : q.Wf) wx (h : Below w.heap.size w wx) (hp : PSt F b wx (stImg key 4 P)) => T.fetch key P.length z q wx (hT.below h) hk32 hp hok rfl hP.p0 hP.p1 hq
 have kd := fun (pg : List (BitVec 8)) v wx (h : Sl wx v pg) (hl : pg.length ≤ 1000) => T.kids P.length z pg v wx h hl hP.p0 hP.p1
 have rft := fun (q : RefV) (hq : q.Wf) vb vL vF wx (hv : Sl wx vb (stImg key 4 P).b) (hR : RS wx P.length vL vF) => (rfetch14_own (stImg key 4 P).b key P.length z q vb vL vF wx hk32 hv (by rw [hB]; omega) hR hP.p1 hq).mono fun _ _ h => h.seal
 have rkd := fun (pg : List (BitVec 8)) v vL vF wx (h : Sl wx v pg) (hl : pg.length ≤ 1000) (hR : RS wx P.length vL vF) => rkids14_own P.length z pg v vL vF wx h hl hR hP.p0 hP.p1
 have rnw := fun wx => rnew_any P.length wx hP.p0 hP.p1
 have byt := fun (F : Foot) (b : Nat) wx (hp : PSt F b wx (stImg key 4 P)) => dvbytes_any wx hp (by show 1 ≤ 2 + 2 * itn P.length; omega) (by show 2 + 2 * itn P.length ≤ 1024; omega)
 have live := fun wx (h : Below w.heap.size w wx) => alive14_any T wx (hT.below h)
 have hrlen := refsT_length key 4 P (itn P.length)
 have hrwf := refsT_wf (key := key) (ep := 4) (P := P) (itn P.length)
 have itm := fun wx => pitems_any P.length wx hP.p1
 have hrw : (refT key 4 P (itn P.length - 1)).Wf := refT_wf _
 have hp1 := hP.p1
 have hp0 := hP.p0
 obtain ⟨p, hp⟩ : ∃ p, p = P.length := ⟨_, rfl⟩
 have hpl : p = l.length := by omega
 obtain ⟨root, hroot⟩ : ∃ r, r = refT key 4 P (itn P.length - 1) := ⟨_, rfl⟩
 obtain ⟨I, hI⟩ : ∃ I, I = stImg key 4 P := ⟨_, rfl⟩
 obtain ⟨RA, hRA⟩ : ∃ R, R = refsT key 4 P (itn P.length) := ⟨_, rfl⟩
 replace ld : ∀ v wx, Below w.heap.size w wx → Sls wx v P → Calls Tryz.prog 12 #[.pointer none, .agg (u8s key).toArray, .int .u32 4, v] wx (fun e w' => ∃ b F, e = .returned (.tuple #[rq b, .agg (psC p), .agg (refC root), .bool true]) ∧ PSt F b w' I ∧ (∀ k, F k → wx.heap.size ≤ k) ∧ Below wx.heap.size wx w') := fun v wx h hs => by
  have g := ld v wx h hs
  unfold LdEnd at g
  rw [← hroot, ← hp, ← hI] at g
  exact g
 rw [← hRA] at wh hrlen hrwf
 rw [← hI, ← hroot] at wh
 rw [← hI, ← hp] at ft rft
 rw [← hp] at wh kd rkd rnw hit itm hrlen hp1 hp0
 rw [← hI] at byt
 rw [← hroot] at hrw
 obtain ⟨m, hm⟩ : ∃ m, m = itn p := ⟨_, rfl⟩
 rw [← hm] at hit itm hrlen
 have hpm : p < m := hit.1
 obtain ⟨FT, hFT⟩ : ∃ f : RefV → List (BitVec 8) × Int, f = fun q => fetchT I.b key p z q := ⟨_, rfl⟩
 have ftl : ∀ q, (FT q).1.length ≤ 1000 := fun q => by rw [hFT]; exact fetchT_le _ _ _ _ _
 replace ft : ∀ (F : Foot) (b : Nat) (q : RefV), q.Wf → ∀ wx, Below w.heap.size w wx → PSt F b wx I → Calls Tryz.prog 25 #[.pointer none, rq b, .agg (u8s key).toArray, .agg (psC p), .int .i64 z, .agg (refC q)] wx (SealEnd wx (FT q).1 (FT q).2) := by rw [hFT]; exact ft
 replace rft : ∀ (q : RefV), q.Wf → ∀ vb vL vF wx, Sl wx vb I.b → RS wx p vL vF → Calls Tryz.prog 26 #[vb, .agg (u8s key).toArray, .agg (rsC p vL vF), .int .i64 z, .agg (refC q)] wx (SealEnd wx (FT q).1 (FT q).2) := by rw [hFT]; exact rft
 obtain ⟨KD, hKD⟩ : ∃ f : List (BitVec 8) → List RefV × Int, f = fun q => kidsT p z q := ⟨_, rfl⟩
 have kdw : ∀ q, ∀ x ∈ (KD q).1, x.Wf := fun q => by rw [hKD]; exact kidsT_wf p z q
 have kdl : ∀ q, (KD q).1.length ≤ 1000 := fun q => by rw [hKD]; exact kidsT_le p z q
 replace kd : ∀ (pg : List (BitVec 8)) v wx, Sl wx v pg → pg.length ≤ 1000 → Calls Tryz.prog 27 #[.agg (psC p), .int .i64 z, v] wx (RfEnd wx (KD pg).1 (KD pg).2) := by rw [hKD]; exact kd
 replace rkd : ∀ (pg : List (BitVec 8)) v vL vF wx, Sl wx v pg → pg.length ≤ 1000 → RS wx p vL vF → Calls Tryz.prog 28 #[.agg (rsC p vL vF), .int .i64 z, v] wx (RfEnd wx (KD pg).1 (KD pg).2) := fun pg v vL vF wx h hl hR => (rkd pg v vL vF wx h hl hR).mono fun e w' h => by
  obtain ⟨v', e1, ho, hb⟩ := h
  rw [hKD]
  exact ⟨v', e1, own_slrf ho (by have := kdw pg; rw [hKD] at this; exact this), hb⟩
 obtain ⟨asx, cap, rfl, _, _⟩ := hs
 rw [← hpl] at fr pg h0 h216 ⊢
 have ro := refC_one root; have rs := refC_size hrw; have rro := refC_one r; have rrs := refC_size hr
 have bt2 := built_rp2 r root hr hrw
 have ol2 := fun (wx : World) (B : Nat) (h : B ≤ wx.heap.size) => own_lit_rf2 (w := wx) (e := 31) hr hrw h
 obtain ⟨M, hM⟩ : ∃ M, M = refC root := ⟨_, rfl⟩
 obtain ⟨R, hR⟩ : ∃ R, R = refC r := ⟨_, rfl⟩
 obtain ⟨Z, hZ⟩ : ∃ Z, Z = refC zref := ⟨_, rfl⟩
 have zs : Z.size = 34 := by rw [hZ]; exact refC_size zref_wf
 rw [← hM] at ro rs ld wh bt2 ol2
 rw [← hR] at rro rrs bt2 ol2 ⊢
 obtain ⟨M2, hM2⟩ : ∃ M2, M2 = R ++ M := ⟨_, rfl⟩
 rw [← hM2] at bt2 ol2
 obtain ⟨C, hC⟩ : ∃ C, C = psC p := ⟨_, rfl⟩
 obtain ⟨Y, hYs⟩ : ∃ C, C = psC 0 := ⟨_, rfl⟩
 have cs : C.size = 1 := by rw [hC]; rfl
 have co : C.all (·.oneCell') = true := by rw [hC]; exact psC_one p
 have ys : Y.size = 1 := by rw [hYs]; rfl
 obtain ⟨ZS, hZS⟩ : ∃ Z, Z = rsC 0 (.slice none 0 0) (.slice none 0 0) := ⟨_, rfl⟩
 have zss : ZS.size = 3 := by rw [hZS]; rfl
 have hx := zeroPS
 have hxr := zeroRfP
 have hxs := zeroShR
 obtain ⟨KC, hKC⟩ : ∃ K, K = (u8s key).toArray := ⟨_, rfl⟩
 rw [← hYs] at hx
 rw [← hZ] at hxr
 rw [← hZS] at hxs
 rw [← hC] at ld wh ft kd itm
 rw [← hKC] at ld wh ft rft bk0
 have kb : Below w.heap.size w (w.alloc (.cells R 36)) := (Below.refl _ _).alloc (Nat.le_refl _) _
 have ka := at_new w R 36
 have g0 : ((p : Int) == 0) = false := beq_eq_false_iff_ne.mpr (by omega)
 have g1 : ¬ (p : Int) = 0 := by omega
 have g2 : ¬ (216 : Int) < (p : Int) := by omega
 have FR := zh fr; have PGG := zh pg; have LD := zh ld; have WH := zh wh; have FT1 := zh ft; have RFT := zh rft; have KD1 := zh kd; have RKD := zh rkd; have RNW := zh rnw; have BYT := zh byt; have LIVE := zh live; have HRL := zh hrlen; have HRW := zh hrwf; have ITM := zh itm; have FTL := zh ftl; have KDW := zh kdw; have KDL := zh kdl; have RO := zh ro; have RS0 := zh rs; have RRO := zh rro; have RRS := zh rrs; have BT2 := zh bt2; have OL2 := zh ol2; have ZS0 := zh zs; have CS := zh cs; have CO := zh co; have YS := zh ys; have ZSS := zh zss; have BKK := zh bk0; have KB := zh kb; have KA := zh ka; have HP := zh hp; have HR := zh hr; have HROOT := zh hrw
 clear fr pg ld wh ft rft kd rkd rnw byt live hrlen hrwf itm ftl kdw kdl ro rs rro rrs bt2 ol2 zs cs co ys zss bk0 kb ka hp hr hrw hM hR hZ hM2 hC hYs hZS hKC hKD hFT hm hroot hI hRA hPe hlen hkey hk32 hB hK hok hpl hP hT hf
 go_enter Tryz.func5, Tryz.ntmps5
 go_upto_region 1 with fail
 obtain ⟨w0, hw0⟩ : ∃ w0, w0 = w.alloc (.cells R 36) := ⟨_, rfl⟩
 rw [← hw0] at KB KA ⊢
 clear hw0
 go_wp2_with fail
 refine (FR.out _ KB.out).mono ?_
 rintro e w1 ⟨rfl, rfl⟩
 go_wp2_with (refine Mem.wpList_build zr 22 _ #[] (.agg KC) zr (by simp) BKK.out ?_)
 refine (PGG.out _ KB.out).mono ?_
 rintro e w3 ⟨vp, rfl, hs3, hb3⟩
 have S3 := zh hs3; have B3 : Hid (Below w.heap.size w w3) := zh (KB.out.trans (hb3.mono KB.out.size)); have K3 := zh (KA.out.below hb3 KA.out.lt)
 clear hs3 hb3
 go_wp2_with fail
 refine (LD.out _ _ B3.out S3.out).mono ?_
 rintro e w4 ⟨b, F, rfl, hp4, hF4, hb4⟩
 have P4 := zh hp4; have B4 : Hid (Below w.heap.size w w4) := zh (B3.out.trans (hb4.mono B3.out.size)); have K4 := zh (K3.out.below hb4 K3.out.lt)
 clear hp4 hF4 hb4
 have AY : Hid (At ((w4.alloc (.cells Y 48)).alloc (.cells Z 31)) w4.heap.size Y 48) := zh ((at_new w4 Y _).alloc _)
 have AZ : Hid (At ((w4.alloc (.cells Y 48)).alloc (.cells Z 31)) (w4.heap.size + 1) Z 31) := zh (by
  have h := at_new (w4.alloc (.cells Y 48)) Z 31
  simpa using h)
 have B5 : Hid (Below w4.heap.size w4 ((w4.alloc (.cells Y 48)).alloc (.cells Z 31))) := zh (((Below.refl _ _).alloc (Nat.le_refl _) _).alloc (by simp) _)
 go_upto_region 4 with (first
  | (refine wpList_store_all zr 48 _ _ zr zr w4.heap.size C zr zr (by rw [CS.out]; exact infoPS) Y 48 AY.out (by rw [CS.out, YS.out]) CO.out ?_)
  | (refine wpList_store_all zr 31 _ _ zr zr (w4.heap.size + 1) M zr zr (by rw [RS0.out]; exact infoRfP) Z 31 (AZ.out.row_other C (by omega)) (by rw [RS0.out, ZS0.out]) RO.out ?_))
 clear hx
 have C6 : Hid (At ((((w4.alloc (.cells Y 48)).alloc (.cells Z 31)).setRow w4.heap.size C).setRow (w4.heap.size + 1) M) w4.heap.size C 48) := zh ((AY.out.row C).row_other M (by omega))
 have M6 : Hid (At ((((w4.alloc (.cells Y 48)).alloc (.cells Z 31)).setRow w4.heap.size C).setRow (w4.heap.size + 1) M) (w4.heap.size + 1) M 31) := zh ((AZ.out.row_other C (by omega)).row M)
 have D6 : Hid (Below w4.heap.size w4 ((((w4.alloc (.cells Y 48)).alloc (.cells Z 31)).setRow w4.heap.size C).setRow (w4.heap.size + 1) M)) := zh (below_row (below_row B5.out (Nat.le_refl _) _) (by omega) _)
 have P6 := zh (pst_below P4.out D6.out)
 have B6 := zh (B4.out.trans (D6.out.mono B4.out.size)); have K6 := zh (K4.out.below D6.out K4.out.lt)
 clear AY AZ B5 D6 P4 K4
 obtain ⟨s4, hs4⟩ : ∃ s, s = w4.heap.size := ⟨_, rfl⟩
 rw [← hs4] at C6 M6 P6 B6 K6 ⊢
 clear hs4
 generalize (((w4.alloc (.cells Y 48)).alloc (.cells Z 31)).setRow s4 C).setRow (s4 + 1) M = w6 at *
 go_wp2_with fail
 refine (RNW.out _).mono ?_
 rintro e w7 ⟨vL, vF, rfl, hR7, hb7⟩
 obtain ⟨H, hH⟩ : ∃ H, H = rsC p vL vF := ⟨_, rfl⟩
 have HS := zh (show H.size = 3 by rw [hH]; rfl)
 have HO : Hid (H.all (·.oneCell') = true) := zh (by rw [hH]; exact hR7.oneC)
 have rft := fun q hq vb wx hv h => RFT.out q hq vb vL vF wx hv h
 have rkd := fun pg v wx hv hl h => RKD.out pg v vL vF wx hv hl h
 rw [← hH] at rft rkd ⊢
 have RFT2 := zh rft; have RKD2 := zh rkd
 have R7 := zh hR7; have C7 := zh (C6.out.below hb7 C6.out.lt); have M7 := zh (M6.out.below hb7 M6.out.lt); have P7 := zh (pst_below P6.out hb7); have B7 : Hid (Below w.heap.size w w7) := zh (B6.out.trans (hb7.mono B6.out.size)); have K7 := zh (K6.out.below hb7 K6.out.lt)
 clear rft rkd hH hR7 hb7 C6 M6 P6 B6 K6 RFT RKD
 have E8 : Below w7.heap.size w7 (w7.alloc (.cells H 60)) := (Below.refl _ _).alloc (Nat.le_refl _) _
 have H8 := zh (at_new w7 H 60)
 have R8 := zh (R7.out.below E8); have C8 := zh (C7.out.below E8 C7.out.lt); have M8 := zh (M7.out.below E8 M7.out.lt); have P8 := zh (pst_below P7.out E8); have B8 : Hid (Below w.heap.size w (w7.alloc (.cells H 60))) := zh (B7.out.trans (E8.mono B7.out.size)); have K8 := zh (K7.out.below E8 K7.out.lt)
 clear E8 R7 C7 M7 P7 B7 K7
 go_upto_region 7 with (refine wpList_store_new zr 60 _ _ zr zr H _ _ zr zr (by rw [HS.out]; exact infoRS) (by rw [HS.out, ZSS.out]) HO.out ?_)
 clear hxs
 obtain ⟨s7, hs7⟩ : ∃ s, s = w7.heap.size := ⟨_, rfl⟩
 rw [← hs7] at H8 ⊢
 clear hs7
 generalize w7.alloc (.cells H 60) = w8 at *
 go_wp2_with fail
 refine (BYT.out F b _ P8.out).mono ?_
 rintro e w9 ⟨vb, rfl, hv9, hb9⟩
 have V9 := zh (OwnB.sl hv9); have H9 := zh (H8.out.below hb9 H8.out.lt); have R9 := zh (R8.out.below hb9); have C9 := zh (C8.out.below hb9 C8.out.lt); have M9 := zh (M8.out.below hb9 M8.out.lt); have P9 := zh (pst_below P8.out hb9); have B9 : Hid (Below w.heap.size w w9) := zh (B8.out.trans (hb9.mono B8.out.size)); have K9 := zh (K8.out.below hb9 K8.out.lt)
 clear hv9 hb9 H8 R8 C8 M8 P8 B8 K8
 go_wp2_with (first
  | (refine Mem.wpList_build zr 22 _ #[] (.agg KC) zr (by simp) BKK.out ?_)
  | (refine wpList_load_all zr 48 _ zr s4 zr _ Tryz.underlying48 zr C _ C9.out (by rw [CS.out]; exact infoPS) ?_)
  | (refine wpList_load_all zr 31 _ zr (s4 + 1) zr _ Tryz.underlying31 zr M _ M9.out (by rw [RS0.out]; exact infoRfP) ?_))
 refine (WH.out F b _ B9.out P9.out).mono ?_
 rintro e wa ⟨vr, vq, rfl, hra, _, hba⟩
 obtain ⟨aw, cw, rfl⟩ := hra.hdn HRL.out
 have RA6 := zh hra; have VA := zh (V9.out.below hba); have HA := zh (H9.out.below hba H9.out.lt); have RA9 := zh (R9.out.below hba); have CA := zh (C9.out.below hba C9.out.lt); have MA := zh (M9.out.below hba M9.out.lt); have PA := zh (pst_below P9.out hba); have BA : Hid (Below w.heap.size w wa) := zh (B9.out.trans (hba.mono B9.out.size)); have KAa := zh (K9.out.below hba K9.out.lt)
 clear hra hba V9 H9 R9 C9 M9 P9 B9 K9
 go_wp2_with (refine wpList_load_is_wanted zr 48 _ zr s4 0 1 zr _ Tryz.underlying48 zr infoPS C _ CA.out (by rw [CS.out]; decide) C (by simp [CS.out]) ?_)
 refine (ITM.out _).mono ?_
 rintro e wk ⟨rfl, hbc⟩
 have RC := zh (RA6.out.below hbc); have VC := zh (VA.out.below hbc); have HC := zh (HA.out.below hbc HA.out.lt); have RC9 := zh (RA9.out.below hbc); have CC := zh (CA.out.below hbc CA.out.lt); have MC := zh (MA.out.below hbc MA.out.lt); have PC := zh (pst_below PA.out hbc); have BC : Hid (Below w.heap.size w wk) := zh (BA.out.trans (hbc.mono BA.out.size)); have KCc := zh (KAa.out.below hbc KAa.out.lt)
 clear hbc RA6 VA HA RA9 CA MA PA BA KAa
 go_upto_region 12 with (first
  | (refine wpList_load_all zr 36 _ zr w.heap.size zr _ Tryz.underlying36 zr R _ KCc.out (by rw [RRS.out]; exact infoRfR) ?_)
  | (refine wpList_load_all zr 31 _ zr (s4 + 1) zr _ Tryz.underlying31 zr M _ MC.out (by rw [RS0.out]; exact infoRfP) ?_)
  | (refine Go.Great.wpList_buildSliceTo zr 64 31 2 _ zr _ zr _ zr Tryz.underlying64 M2 (by first | (simp [Act.eval, Act.put]; exact BT2.out) | (go_simp; exact BT2.out) | (simp only [List.map_toArray, List.map_cons, List.map_nil]; exact BT2.out)) ?_))
 have OD := zh (OL2.out wk wk.heap.size (Nat.le_refl _))
 have BD : Hid (Below wk.heap.size wk (wk.alloc (.cells M2 31))) := zh ((Below.refl _ _).alloc (Nat.le_refl _) _)
 have RD := zh (RC.out.below BD.out)
 obtain ⟨sd, hsd⟩ : ∃ s, s = wk.heap.size := ⟨_, rfl⟩
 rw [← hsd] at OD ⊢
 have HSD := zh hsd
 clear hsd RC KCc
 generalize wk.alloc (.cells M2 31) = wd at *
 obtain ⟨q, hq⟩ : ∃ q : Bool, q = decide (0 ≤ z ∧ z < (m : Int)) := ⟨_, rfl⟩
 have HQ := zh hq
 clear hq
 go_cut [88] (fun x wx => x = .bool q ∧ wx = wd)
 case first =>
  by_cases hz0 : z < 0
  ·have hz1 : ¬ 0 ≤ z := by omega
   have hz2 : decide (0 ≤ z) = false := decide_eq_false hz1
   go_wp2_with fail
   go_meet
   exact ⟨by rw [HQ.out, decide_eq_false (fun h => by omega)], rfl⟩
  ·have hz1 : 0 ≤ z := by omega
   by_cases hz3 : z < (m : Int)
   ·go_wp2_with fail
    go_meet
    exact ⟨by rw [HQ.out, decide_eq_true ⟨by omega, by omega⟩], rfl⟩
   ·have hz4 : decide (z < (m : Int)) = false := decide_eq_false hz3
    go_wp2_with fail
    go_meet
    exact ⟨by rw [HQ.out, decide_eq_false (fun h => by omega)], rfl⟩
 case rest =>
  obtain ⟨rfl, hw8⟩ := hcut
  have hw9 := hw8.symm
  subst hw9
  clear hw8
  go_upto_if 88 with fail
  go_cut [17] (fun x wx => ∃ (L : List RefV) (vx : Value), vx = x ∧ SlRf wx vx L ∧ (∀ q ∈ L, q.Wf) ∧ L.length ≤ 3 ∧ Below wk.heap.size wk wx)
  case first =>
   cases hqq : q
   ·clear hqq
    go_wp2_with fail
    go_meet
    exact ⟨[r, root], _, rfl, own_slrf OD.out (fun q h => by rcases List.mem_cons.1 h with rfl | h2; exact HR.out; rw [List.mem_singleton.1 h2]; exact HROOT.out), (fun q h => by rcases List.mem_cons.1 h with rfl | h2; exact HR.out; rw [List.mem_singleton.1 h2]; exact HROOT.out), by simp, BD.out⟩
   ·have hzz : 0 ≤ z ∧ z < (m : Int) := of_decide_eq_true (by rw [← HQ.out, hqq])
    clear hqq
    obtain ⟨i, hiz⟩ : ∃ i : Nat, z = (i : Int) := ⟨z.toNat, by omega⟩
    have hi : i < m := by omega
    have hi2 : (i : Int) < (m : Int) := by omega
    obtain ⟨gw, ow, eaw, hgl, hgw⟩ := slrf_get14 RD.out HRL.out.symm (by omega)
    have hgi := hgw i hi
    have hwx := getD_wf HRW.out i
    obtain ⟨x, hx⟩ : ∃ x, x = RA.getD i zref := ⟨_, rfl⟩
    rw [← hx] at hgi hwx
    have rb := built_rp x hwx
    have rdf := fun wx => rd_rf (w := wx) (e := 31) hwx
    have rl := refL_one x
    have xs := refC_size hwx
    obtain ⟨X, hX⟩ : ∃ X, X = refC x := ⟨_, rfl⟩
    have hgx : wd.rangeAt gw (ow + i * 34) X.toList := by rw [hX]; exact hgi
    rw [← hX] at rb rdf xs
    have RGX := zh hgx; have RB := zh rb; have RDF := zh rdf; have RLO := zh rl; have XS := zh xs; have HWX := zh hwx; have HIZ := zh hiz; have EAW := zh eaw
    have O4 : Hid ((wd.alloc (.cells X 31)).ownsRow sd 31 34 (.slice (some ⟨sd, 0, none⟩) 2 2) 2 (refCs [r, root])) := zh (World.ownsRow.alloc OD.out _)
    have B4 : Hid (Below wk.heap.size wk (wd.alloc (.cells X 31))) := zh (BD.out.alloc BD.out.size _)
    have S4 : Hid (sd ≤ (wd.alloc (.cells X 31)).heap.size) := zh (by rw [HSD.out]; exact B4.out.size)
    clear hgx hgi hgw hgl hwx rb rdf rl xs hX hx hzz hiz eaw
    rw [HIZ.out, EAW.out]
    go_wp2_with (first
     | (refine wpList_load_mid zr 31 _ zr gw (ow + i * 34) zr X.toList _ RGX.out Tryz.underlying31 zr (by rw [infoRfP, Array.length_toList, XS.out]) ?_; rw [Array.toArray_toList])
     | (refine Go.Great.wpList_buildSliceTo zr 64 31 1 _ zr _ zr _ zr Tryz.underlying64 X (by first | (simp [Act.eval, Act.put]; exact RB.out) | (go_simp; exact RB.out) | (simp only [List.map_toArray, List.map_cons, List.map_nil]; exact RB.out)) ?_)
     | (at_builtin; go_loud (refine wpList_append_app zr _ _ 64 zr (.slice (some ⟨wd.heap.size, 0, none⟩) 1 1) 2 1 34 (refL x) (.agg (refC zref)) 48 elemRP (refC_size zref_wf) (by decide) zr O4.out zr (RDF.out wd) RLO.out (by omega) (by omega) S4.out ?_); intro v5 w5 ho5 ha5 hb5; have O5 : Hid (OwnRf w5 sd 31 v5 [r, root, x]) := zh (by have h := ho5; rw [← refCs_snoc] at h; exact h); have B5 : Hid (Below wk.heap.size wk w5) := zh (B4.out.trans (by have h := hb5; rw [HSD.out] at h; exact h)); clear ho5 ha5 hb5))
    rw [← HIZ.out, ← EAW.out]
    go_meet
    have hw3 : ∀ q ∈ [r, root, x], q.Wf := fun q h => by
     rcases List.mem_cons.1 h with rfl | h2
     ·exact HR.out
     ·rcases List.mem_cons.1 h2 with rfl | h3
      ·exact HROOT.out
      ·rw [List.mem_singleton.1 h3]; exact HWX.out
    exact ⟨[r, root, x], _, rfl, own_slrf O5.out hw3, hw3, by simp, B5.out⟩
  case rest =>
   obtain ⟨L, vx, rfl, hsl, hwf, hl3, hbl⟩ := hcut
   obtain ⟨n, hn⟩ : ∃ n, n = L.length := ⟨_, rfl⟩
   obtain ⟨ax, cx, rfl⟩ := hsl.hdn hn.symm
   have hn3 : n ≤ 3 := by omega
   have SL := zh hsl; have WF := zh hwf; have HN := zh hn; have BL := zh (BC.out.trans (hbl.mono BC.out.size)); have VL := zh (VC.out.below hbl); have HL := zh (HC.out.below hbl HC.out.lt); have RL9 := zh (RC9.out.below hbl); have CL := zh (CC.out.below hbl CC.out.lt); have PL := zh (pst_below PC.out hbl)
   clear hsl hwf hn hl3 hbl VC HC RC9 CC PC MC BC OD BD RD HSD HQ
   go_upto_region 15 with fail
   go_loopw [98] (fun vi wr => ∃ i : Nat, i ≤ n ∧ vi = .int .i64 (i : Int) ∧ Below wc.heap.size wc wr) (fun vi _ => n - (intOf vi).toNat)
   case atStart => exact ⟨0, by omega, rfl, Below.refl _ _⟩
   case round =>
    obtain ⟨i, hi, rfl, hbw⟩ := hrel
    have BW := zh hbw
    clear hbw
    by_cases hlt : i < n
    ·have hlt2 : (i : Int) < (n : Int) := by omega
     obtain ⟨gb, go_, e1, l1, r1⟩ := slrf_at (i := i) (SL.out.below BW.out) HN.out hlt
     subst e1
     have hwx := getD_wf WF.out i
     obtain ⟨x, hx⟩ : ∃ x, x = L.getD i zref := ⟨_, rfl⟩
     rw [← hx] at r1 hwx
     have ft := FT1.out F b x hwx; have rft := RFT2.out x hwx
     have fl := FTL.out x
     obtain ⟨y, hy⟩ : ∃ y, y = FT x := ⟨_, rfl⟩
     rw [← hy] at ft rft fl
     obtain ⟨pa, pe⟩ := y
     simp only at ft rft fl
     have kd := fun v wx h => KD1.out pa v wx h fl; have rkd := fun v wx h hR => RKD2.out pa v wx h fl hR
     have kw := KDW.out pa; have kl := KDL.out pa
     obtain ⟨y, hy2⟩ : ∃ y, y = KD pa := ⟨_, rfl⟩
     rw [← hy2] at kd rkd kw kl
     obtain ⟨ka, ke⟩ := y
     simp only at kd rkd kw kl
     have sm := fun va vb wx (ha : Sl wx va pa) (hb : Sl wx vb pa) => same_any pa pa va vb wx ha hb (by omega) (by omega)
     rw [show sameB pa pa = true by simp [sameB]] at sm
     have sr := fun va vb wx (ha : SlRf wx va ka) (hb : SlRf wx vb ka) => same14_any ka ka va vb wx ha hb kw kw kl kl
     rw [sameRf14_self] at sr
     have xs := refC_size hwx; have xo := refC_one x
     obtain ⟨X, hX⟩ : ∃ X, X = refC x := ⟨_, rfl⟩
     have hgx : wr.rangeAt gb (go_ + i * 34) X.toList := by rw [hX]; exact r1
     rw [← hX] at ft rft xs xo
     have FTX := zh ft; have RFX := zh rft; have KDX := zh kd; have RKX := zh rkd; have SM := zh sm; have SR := zh sr; have XS := zh xs; have XO := zh xo; have RG := zh hgx
     clear ft rft kd rkd sm sr xs xo hgx kw kl fl hy hy2 hX hx hwx r1 l1
     have XA := zh (at_new wr X 31)
     have D9 : Hid (Below wc.heap.size wc (wr.alloc (.cells X 31))) := zh (BW.out.alloc BW.out.size _)
     go_upto_region 17 with (first
      | (refine wpList_load_mid zr 31 _ zr gb (go_ + i * 34) zr X.toList _ RG.out Tryz.underlying31 zr (by rw [infoRfP, Array.length_toList, XS.out]) ?_; rw [Array.toArray_toList])
      | (refine wpList_store_new zr 31 _ _ zr zr X _ _ zr zr (by rw [XS.out]; exact infoRfP) (by rw [XS.out, ZS0.out]) XO.out ?_))
     obtain ⟨l9, hl9⟩ : ∃ l, l = wr.heap.size := ⟨_, rfl⟩
     rw [← hl9] at XA ⊢
     clear hl9 RG BW
     generalize wr.alloc (.cells X 31) = wq at *
     go_wp2_with (first
      | (refine Mem.wpList_build zr 22 _ #[] (.agg KC) zr (by simp) BKK.out ?_)
      | (refine wpList_load_all zr 48 _ zr s4 zr _ Tryz.underlying48 zr C _ (CL.out.below D9.out CL.out.lt) (by rw [CS.out]; exact infoPS) ?_)
      | (refine wpList_load_all zr 31 _ zr l9 zr _ Tryz.underlying31 zr X _ XA.out (by rw [XS.out]; exact infoRfP) ?_))
     refine (FTX.out _ (BL.out.trans (D9.out.mono BL.out.size)) (pst_below PL.out D9.out)).mono ?_
     rintro e y1 ⟨va, rfl, hsa, hb1⟩
     have D1 : Hid (Below wc.heap.size wc y1) := zh (D9.out.trans (hb1.mono D9.out.size)); have XA1 := zh (XA.out.below hb1 XA.out.lt); have A1 := zh hsa
     clear hsa hb1 XA D9
     go_wp2_with (first
      | (refine Mem.wpList_build zr 22 _ #[] (.agg KC) zr (by simp) BKK.out ?_)
      | (refine wpList_load_all zr 60 _ zr s7 zr _ Tryz.underlying60 zr H _ (HL.out.below D1.out HL.out.lt) (by rw [HS.out]; exact infoRS) ?_)
      | (refine wpList_load_all zr 31 _ zr l9 zr _ Tryz.underlying31 zr X _ XA1.out (by rw [XS.out]; exact infoRfP) ?_))
     refine (RFX.out _ _ (VL.out.below D1.out) (RL9.out.below D1.out)).mono ?_
     rintro e y2 ⟨vb2, rfl, hsb, hb2⟩
     have D2 : Hid (Below wc.heap.size wc y2) := zh (D1.out.trans (hb2.mono D1.out.size)); have A2 := zh (A1.out.below hb2); have E2 := zh hsb
     clear hsb hb2 XA1 D1 A1
     go_wp2_with (refine wpList_load_all zr 48 _ zr s4 zr _ Tryz.underlying48 zr C _ (CL.out.below D2.out CL.out.lt) (by rw [CS.out]; exact infoPS) ?_)
     refine (KDX.out _ _ A2.out).mono ?_
     rintro e y3 ⟨vc, rfl, hsc, hb3⟩
     have D3 : Hid (Below wc.heap.size wc y3) := zh (D2.out.trans (hb3.mono D2.out.size)); have A3 := zh (A2.out.below hb3); have E3 := zh (E2.out.below hb3); have G3 := zh hsc
     clear hsc hb3 D2 A2 E2
     go_wp2_with (refine wpList_load_all zr 60 _ zr s7 zr _ Tryz.underlying60 zr H _ (HL.out.below D3.out HL.out.lt) (by rw [HS.out]; exact infoRS) ?_)
     refine (RKX.out _ _ E3.out (RL9.out.below D3.out)).mono ?_
     rintro e y4 ⟨vd, rfl, hsd, hb4⟩
     have D4 : Hid (Below wc.heap.size wc y4) := zh (D3.out.trans (hb4.mono D3.out.size)); have A4 := zh (A3.out.below hb4); have E4 := zh (E3.out.below hb4); have G4 := zh (G3.out.below hb4); have J4 := zh hsd
     clear hsd hb4 D3 A3 E3 G3
     go_wp2_with fail
     refine (SM.out _ _ _ A4.out E4.out).mono ?_
     rintro e y5 ⟨rfl, hb5⟩
     have D5 : Hid (Below wc.heap.size wc y5) := zh (D4.out.trans (hb5.mono D4.out.size)); have G5 := zh (G4.out.below hb5); have J5 := zh (J4.out.below hb5)
     clear hb5 D4 A4 E4 G4 J4
     go_wp2_with fail
     refine (SR.out _ _ _ G5.out J5.out).mono ?_
     rintro e y6 ⟨rfl, hb6⟩
     have D6 : Hid (Below wc.heap.size wc y6) := zh (D5.out.trans (hb6.mono D5.out.size))
     clear hb6 D5 G5 J5
     go_wp2_with fail
     go_roundw
     case rel => exact ⟨i + 1, by omega, by go_num, D6.out⟩
     case measure => simp [intOf]; omega
    ·have hin : i = n := by omega
     have hge : ¬ (i : Int) < (n : Int) := by omega
     have B0W : Hid (Below w.heap.size w wr) := zh (BL.out.trans (BW.out.mono BL.out.size))
     go_wp2_with fail
     refine (LIVE.out _ B0W.out).mono ?_
     rintro e wz ⟨rfl, hbz⟩
     have BZ : Hid (Below w.heap.size w wz) := zh (B0W.out.trans (hbz.mono B0W.out.size))
     clear hbz
     go_wp2_with fail
     go_ret
     exact ⟨rfl, BZ.out⟩
set_option maxHeartbeats 2000000 in
theorem items14_core (T : TreeP) (l : List (List (BitVec 8))) (z : Int) (r : RefV) (v : Value) (w : World) (hT : TT w) (hr : r.Wf) (hs : Sls w v l) :
 Calls Tryz.prog 5 #[v, .int .i64 z, .agg (refC r)] w (fun e w' => e = .returned (.bool true) ∧ Below w.heap.size w w') := by
 by_cases hg : farP l = false ∧ l.length ≠ 0 ∧ l.length ≤ 216
 ·exact items14_good T l z r v w hT hr hs hg.1 hg.2.1 hg.2.2
 ·have fr := fun wx (h : Below w.heap.size w wx) => far14_any l v wx (hs.below h)
  have live := fun wx (h : Below w.heap.size w wx) => alive14_any T wx (hT.below h)
  have hc : farP l = true ∨ (farP l = false ∧ l.length = 0) ∨ (farP l = false ∧ 216 < l.length) := by
   cases h : farP l
   ·by_cases h0 : l.length = 0
    ·exact .inr (.inl ⟨rfl, h0⟩)
    ·exact .inr (.inr ⟨rfl, by by_cases h1 : l.length ≤ 216; exact absurd ⟨h, h0, h1⟩ hg; omega⟩)
   ·exact .inl rfl
  obtain ⟨KC, hKC⟩ : ∃ K, K = refC r := ⟨_, rfl⟩
  rw [← hKC]
  have kb : Below w.heap.size w (w.alloc (.cells KC 36)) := (Below.refl _ _).alloc (Nat.le_refl _) _
  obtain ⟨asx, cap, rfl, _, _⟩ := hs
  obtain ⟨n, hn⟩ : ∃ n, n = l.length := ⟨_, rfl⟩
  obtain ⟨q, hq⟩ : ∃ q, q = farP l := ⟨_, rfl⟩
  rw [← hn, ← hq] at fr hc
  rw [← hn]
  have FR := zh fr; have LIVE := zh live; have KB := zh kb
  clear fr live kb hg hn hq hKC hT hr
  rcases hc with rfl | ⟨rfl, h0⟩ | ⟨rfl, h0⟩
  ·go_enter Tryz.func5, Tryz.ntmps5
   go_wp2_with fail
   refine (FR.out _ KB.out).mono ?_
   rintro e w1 ⟨rfl, rfl⟩
   go_wp2_with fail
   refine (LIVE.out _ KB.out).mono ?_
   rintro e wz ⟨rfl, hbz⟩
   have BZ : Hid (Below w.heap.size w wz) := zh (KB.out.trans (hbz.mono KB.out.size))
   clear hbz
   go_wp2_with fail
   go_ret
   exact ⟨rfl, BZ.out⟩
  ·subst h0
   go_enter Tryz.func5, Tryz.ntmps5
   go_wp2_with fail
   refine (FR.out _ KB.out).mono ?_
   rintro e w1 ⟨rfl, rfl⟩
   go_wp2_with fail
   refine (LIVE.out _ KB.out).mono ?_
   rintro e wz ⟨rfl, hbz⟩
   have BZ : Hid (Below w.heap.size w wz) := zh (KB.out.trans (hbz.mono KB.out.size))
   clear hbz
   go_wp2_with fail
   go_ret
   exact ⟨rfl, BZ.out⟩
  ·have g0 : ((n : Int) == 0) = false := beq_eq_false_iff_ne.mpr (by omega)
   have g1 : ¬ (n : Int) = 0 := by omega
   have g2 : (216 : Int) < (n : Int) := by omega
   go_enter Tryz.func5, Tryz.ntmps5
   go_wp2_with fail
   refine (FR.out _ KB.out).mono ?_
   rintro e w1 ⟨rfl, rfl⟩
   go_wp2_with fail
   refine (LIVE.out _ KB.out).mono ?_
   rintro e wz ⟨rfl, hbz⟩
   have BZ : Hid (Below w.heap.size w wz) := zh (KB.out.trans (hbz.mono KB.out.size))
   clear hbz
   go_wp2_with fail
   go_ret
   exact ⟨rfl, BZ.out⟩
end Sha
end Go.Proofs.YtajdpbbbocnfiaaGreatDoor
