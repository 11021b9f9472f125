/- Layer 14's law TreeAgree, over the contracts (written by treagree.py). Layer 14's law TreeAgree, over the contracts: all cases. -/
import Derived.Test.YtajdpbbbocnfiaaDoorBx42
import Derived.Test.YtajdpbbbocnfiaaDoorBx35
namespace Go.Proofs.YtajdpbbbocnfiaaDoor
namespace Sha
open Go.RowKit Mem
set_option maxRecDepth 100000
set_option maxHeartbeats 8000000 in
theorem agree14_good (T : TreeP) (l : List (List (BitVec 8))) (ts : List Tn14) (v vt : Value) (w : World) (hT : TT w) (hs : Sls w v l) (ht : SlTn w vt ts) (hf : farP l = false) (h0 : l.length ≠ 0) (h216 : l.length ≤ 216) (h20 : ts.length ≤ 20) :
    Calls Tryd.prog 4 #[v, vt] w (fun e w' => e = .returned (.bool true) ∧ Below w.heap.size w w') := by
  have hP := pages_good h0 h216
  have fr := far14_any l v w hs
  rw [hf] at fr
  have pg := pages_any l v w hs (by omega)
  have hlen : (l.map pageL).length = l.length := List.length_map ..
  obtain ⟨P, hPe⟩ : ∃ P, P = l.map pageL := ⟨_, rfl⟩
  rw [← hPe] at hP pg hlen
  have hk32 : (List.replicate 32 (0 : BitVec 8)).length = 32 := List.length_replicate ..
  obtain ⟨key, hkey⟩ : ∃ k, k = List.replicate 32 (0 : BitVec 8) := ⟨_, rfl⟩
  rw [← hkey] at hk32
  have bk0 := build_K0
  rw [← hkey] at bk0
  have ld : ∀ v wx, Below w.heap.size w wx → Sls wx v P → Calls Tryd.prog 8 #[.pointer none, .agg (u8s key).toArray, .int .u32 1, v] wx (LdEnd key 1 P wx) := fun v wx h hs => laid_any T key 1 P v wx (hT.below h) hk32 hP hs
  have hok := (img_ok (key := key) (ep := 1) hP).mono (m' := 1000) (by have := itn_big P.length hP.p0 hP.p1; omega)
  have hit := itn_big P.length hP.p0 hP.p1
  have hrw : (refT key 1 P (itn P.length - 1)).Wf := refT_wf _
  have hrp : plOk (refT key 1 P (itn P.length - 1)) = true := by unfold plOk; rw [refT_pl]; rfl
  have wh := fun (F : Foot) (b : Nat) (s : St6) wx (h : Below w.heap.size w wx) (hp : PSt F b wx s) (ho : Ok6 1000 s) (hw : s.w = []) => T.whole key P.length (refT key 1 P (itn P.length - 1)) wx (hT.below h) hk32 hp ho hw hP.p0 hP.p1 hrw
  have wy := fun (F : Foot) (b : Nat) (s : St6) (x : Nat) wx (h : Below w.heap.size w wx) (hp : PSt F b wx s) (ho : Ok6 1000 s) (hw : s.w = []) => T.way key P.length (refT key 1 P (itn P.length - 1)) (x : Int) wx (hT.below h) hk32 hp ho hw hP.p0 hP.p1 hrw
  have live := fun wx (h : Below w.heap.size w wx) => alive14_any T wx (hT.below h)
  have agr := fun B => agreeT (B := B) (key := key) (p := P.length) (root := refT key 1 P (itn P.length - 1)) hP.p0 hP.p1
  have werr := fun (B : List (BitVec 8)) (x : Nat) (hx : x < P.length) (hB : B.length = (2 + 2 * itn P.length) * 256) => way_err (key := key) (root := refT key 1 P (itn P.length - 1)) hP.p0 hP.p1 hx hB hrp
  have wlen := fun (B : List (BitVec 8)) (x : Nat) (hx : x < P.length) (hB : B.length = (2 + 2 * itn P.length) * 256) h => way_len (key := key) (root := refT key 1 P (itn P.length - 1)) hP.p0 hP.p1 hx hB hrp h
  have hbk := fun wx => pblocks_any P.length wx hP.p1
  have hbz : blksP P.length = ((2 + 2 * itn P.length : Nat) : Int) := by unfold blksP; rw [if_neg (by have := hP.p0; omega)]; omega
  rw [hbz] at hbk
  have hp1 := hP.p1
  have hp0 := hP.p0
  obtain ⟨p, hp⟩ : ∃ p, p = P.length := ⟨_, rfl⟩
  have hpl : p = l.length := by omega
  obtain ⟨root, hroot⟩ : ∃ r, r = refT key 1 P (itn P.length - 1) := ⟨_, rfl⟩
  have ld : ∀ v wx, Below w.heap.size w wx → Sls wx v P → Calls Tryd.prog 8 #[.pointer none, .agg (u8s key).toArray, .int .u32 1, v] wx (fun e w' => ∃ b F, e = .returned (.tuple #[rq b, .agg (psC p), .agg (refC root), .bool true]) ∧ PSt F b w' (stImg key 1 P) ∧ (∀ k, F k → wx.heap.size ≤ k) ∧ Below wx.heap.size wx w') := fun v wx h hs => by
    have g := ld v wx h hs
    unfold LdEnd at g
    rw [← hroot, ← hp] at g
    exact g
  rw [← hroot] at wh wy agr werr wlen hrw
  have hn0 : (stImg key 1 P).n = 2 + 2 * itn P.length := rfl
  have hw0 : (stImg key 1 P).w = [] := rfl
  rw [← hp] at wh wy agr werr wlen hbk hn0 hit
  obtain ⟨I, hI⟩ : ∃ I, I = stImg key 1 P := ⟨_, rfl⟩
  rw [← hI] at ld hok hn0 hw0
  obtain ⟨N, hN⟩ : ∃ N, N = 2 + 2 * itn p := ⟨_, rfl⟩
  rw [← hN] at werr wlen hbk hn0
  have hN0 : 0 < N := by omega
  obtain ⟨asx, cap, rfl, _, _⟩ := id hs
  obtain ⟨at_, ct, rfl, _⟩ := id ht
  obtain ⟨nt, hnt⟩ : ∃ n, n = ts.length := ⟨_, rfl⟩
  rw [← hpl] at fr pg h0 h216 ⊢
  rw [← hnt] at ht h20 ⊢
  have rs := refC_size hrw; have ro := refC_one root
  obtain ⟨M, hM⟩ : ∃ M, M = refC root := ⟨_, rfl⟩
  rw [← hM] at rs ro ld wh wy
  obtain ⟨Z, hZ⟩ : ∃ Z, Z = refC zref := ⟨_, rfl⟩
  have zs : Z.size = 34 := by rw [hZ]; exact refC_size zref_wf
  obtain ⟨C, hC⟩ : ∃ C, C = psC p := ⟨_, rfl⟩
  obtain ⟨Y, hYs⟩ : ∃ C, C = psC 0 := ⟨_, rfl⟩
  have cs : C.size = 1 := by rw [hC]; rfl
  have co : C.all (·.oneCell') = true := by rw [hC]; exact psC_one p
  have ys : Y.size = 1 := by rw [hYs]; rfl
  have hx := zeroPS
  have hxr := zeroRfP
  obtain ⟨KC, hKC⟩ : ∃ K, K = (u8s key).toArray := ⟨_, rfl⟩
  rw [← hYs] at hx
  rw [← hZ] at hxr
  rw [← hC] at ld wh wy hbk
  rw [← hKC] at ld wh wy bk0
  have g0 : ((p : Int) == 0) = false := beq_eq_false_iff_ne.mpr (by omega)
  have g1 : ¬ (p : Int) = 0 := by omega
  have g2 : ¬ (216 : Int) < (p : Int) := by omega
  have g3 : ¬ (20 : Int) < (nt : Int) := by omega
  have g4 : decide ((20 : Int) < (nt : Int)) = false := decide_eq_false g3
  have FR := Lib.hid fr; have PGG := Lib.hid pg; have LD := Lib.hid ld; have WH := Lib.hid wh; have WY := Lib.hid wy; have LIVE := Lib.hid live; have AGR := Lib.hid agr; have WERR := Lib.hid werr; have WLEN := Lib.hid wlen; have BK := Lib.hid hbk; have OKI := Lib.hid hok; have WI := Lib.hid hw0; have NI := Lib.hid hn0; have RO := Lib.hid ro; have RS := Lib.hid rs; have ZS := Lib.hid zs; have CS := Lib.hid cs; have CO := Lib.hid co; have YS := Lib.hid ys; have BKK := Lib.hid bk0; have HTN := Lib.hid ht; have HNT := Lib.hid hnt; have HP := Lib.hid hp
  clear fr pg ld wh wy live agr werr wlen hbk hok hw0 hn0 ro rs zs cs co ys bk0 ht hnt hp hit hN hI hM hZ hC hYs hKC hroot hrw hrp hP hlen hPe hkey hk32 hbz hs hT hf hpl hp0
  go_enter Tryd.func4, Tryd.ntmps4
  go_wp2_with fail
  refine (FR.out).mono ?_
  rintro e w1 ⟨rfl, hw1⟩
  have hw2 := hw1.symm
  subst hw2
  clear hw1
  go_wp2_with (refine Mem.wpList_build (by rfl) 22 _ #[] (.agg KC) (by rfl) (by simp) BKK.out ?_)
  refine (PGG.out).mono ?_
  rintro e w3 ⟨vp, rfl, hs3, hb3⟩
  have S3 := Lib.hid hs3; have B3 : Hid (Below w.heap.size w w3) := Lib.hid hb3
  clear hs3 hb3
  go_wp2_with fail
  refine (LD.out _ _ B3.out S3.out).mono ?_
  rintro e w4 ⟨b, F0, rfl, hp4, hF4, hb4⟩
  have P4 := Lib.hid hp4; have B4 : Hid (Below w.heap.size w w4) := Lib.hid (B3.out.trans (hb4.mono B3.out.size))
  have FL : Hid (∀ k, F0 k → k < w4.heap.size ∧ w.heap.size ≤ k) := Lib.hid (fun k h => ⟨pst_lt hp4 k h, Nat.le_trans B3.out.size (hF4 k h)⟩)
  clear hp4 hF4 hb4
  have AY : Hid (At ((w4.alloc (.cells Y 30)).alloc (.cells Z 32)) w4.heap.size Y 30) := Lib.hid ((at_new w4 Y _).alloc _)
  have AZ : Hid (At ((w4.alloc (.cells Y 30)).alloc (.cells Z 32)) (w4.heap.size + 1) Z 32) := Lib.hid (by
    have h := at_new (w4.alloc (.cells Y 30)) Z 32
    simpa using h)
  have B5 : Hid (Below w4.heap.size w4 ((w4.alloc (.cells Y 30)).alloc (.cells Z 32))) := Lib.hid (((Below.refl _ _).alloc (Nat.le_refl _) _).alloc (by simp) _)
  go_upto_region 4 with (first
    | (refine wpList_store_all (by rfl) 30 _ _ (by rfl) (by rfl) w4.heap.size C (by rfl) (by rfl) (by rw [CS.out]; exact infoPS) Y 30 AY.out (by rw [CS.out, YS.out]) CO.out ?_)
    | (refine wpList_store_all (by rfl) 32 _ _ (by rfl) (by rfl) (w4.heap.size + 1) M (by rfl) (by rfl) (by rw [RS.out]; exact infoRfP) Z 32 (AZ.out.row_other C (by omega)) (by rw [RS.out, ZS.out]) RO.out ?_))
  clear hx hxr
  have C6 : Hid (At ((((w4.alloc (.cells Y 30)).alloc (.cells Z 32)).setRow w4.heap.size C).setRow (w4.heap.size + 1) M) w4.heap.size C 30) := Lib.hid ((AY.out.row C).row_other M (by omega))
  have M6 : Hid (At ((((w4.alloc (.cells Y 30)).alloc (.cells Z 32)).setRow w4.heap.size C).setRow (w4.heap.size + 1) M) (w4.heap.size + 1) M 32) := Lib.hid ((AZ.out.row_other C (by omega)).row M)
  have D6 : Hid (Below w4.heap.size w4 ((((w4.alloc (.cells Y 30)).alloc (.cells Z 32)).setRow w4.heap.size C).setRow (w4.heap.size + 1) M)) := Lib.hid (below_row (below_row B5.out (Nat.le_refl _) _) (by omega) _)
  have P6 := Lib.hid (pst_below P4.out D6.out)
  have B6 := Lib.hid (B4.out.trans (D6.out.mono B4.out.size))
  have F6 : Hid (∀ k, F0 k → (k ≠ w4.heap.size ∧ k ≠ w4.heap.size + 1) ∧ w.heap.size ≤ k) := Lib.hid (fun k h => by have := FL.out k h; omega)
  clear AY AZ B5 D6 P4 FL
  obtain ⟨s4, hs4⟩ : ∃ s, s = w4.heap.size := ⟨_, rfl⟩
  rw [← hs4] at C6 M6 P6 B6 F6 ⊢
  clear hs4
  generalize (((w4.alloc (.cells Y 30)).alloc (.cells Z 32)).setRow s4 C).setRow (s4 + 1) M = w6 at *
  go_upto_region 7 with fail
  go_loopw [50] (fun vi wr => ∃ i : Nat, i ≤ nt ∧ vi = .int .i64 (i : Int) ∧ ∃ F s, PSt F b wr s ∧ Ok6 1000 s ∧ s.w = [] ∧ s.n = N ∧ (∀ k, F k → (k ≠ s4 ∧ k ≠ s4 + 1) ∧ w.heap.size ≤ k) ∧ At wr s4 C 30 ∧ At wr (s4 + 1) M 32 ∧ Below w.heap.size w wr) (fun vi _ => nt - (intOf vi).toNat)
  case atStart => exact ⟨0, by omega, rfl, F0, I, P6.out, OKI.out, WI.out, NI.out, F6.out, C6.out, M6.out, B6.out⟩
  case round =>
    obtain ⟨i, hi, rfl, F, s, hps, hok, hsw, hsn, hF, hC, hM, hbw⟩ := hrel
    have OKQ := Lib.hid hok; have SWN := Lib.hid hsw; have SN := Lib.hid hsn; have FQ := Lib.hid hF
    by_cases hlt : i < nt
    · have hlt2 : (i : Int) < (nt : Int) := by omega
      obtain ⟨tb, tof, rfl, htr⟩ := sltn_at (HTN.out.below hbw) HNT.out hlt
      obtain ⟨t, htt⟩ : ∃ t, t = ts.getD i ztn := ⟨_, rfl⟩
      rw [← htt] at htr
      clear htt
      obtain ⟨B, Aa, Yy⟩ := t
      obtain ⟨TC, hTC⟩ : ∃ T, T = tnC ⟨B, Aa, Yy⟩ := ⟨_, rfl⟩
      obtain ⟨ZT, hZT⟩ : ∃ T, T = tnC ztn := ⟨_, rfl⟩
      have tc0 : TC[0]? = some (.int .u16 (B.toNat : Int)) := by rw [hTC]; rfl
      have tc1 : TC[1]? = some (.int .u8 (Aa.toNat : Int)) := by rw [hTC]; rfl
      have tc2 : TC[2]? = some (.int .u8 (Yy.toNat : Int)) := by rw [hTC]; rfl
      have tcs : TC.size = 3 := by rw [hTC]; rfl
      have tco : TC.all (·.oneCell') = true := by rw [hTC]; exact tnC_one _
      have zts : ZT.size = 3 := by rw [hZT]; rfl
      have hx := zeroTn
      rw [← hTC] at htr
      rw [← hZT] at hx
      have TC0 := Lib.hid tc0; have TC1 := Lib.hid tc1; have TC2 := Lib.hid tc2; have TCS := Lib.hid tcs; have TCO := Lib.hid tco; have ZTS := Lib.hid zts; have HTR := Lib.hid htr
      have hb7 : Below wr.heap.size wr (wr.alloc (.cells TC 49)) := (Below.refl _ _).alloc (Nat.le_refl _) _
      have PQ := Lib.hid (pst_below hps hb7); have CA := Lib.hid (hC.below hb7 hC.lt); have MA := Lib.hid (hM.below hb7 hM.lt); have TCA := Lib.hid (at_new wr TC 49)
      have BQ : Hid (Below w.heap.size w (wr.alloc (.cells TC 49))) := Lib.hid (hbw.alloc hbw.size _)
      have NL : Hid (¬ F wr.heap.size) := Lib.hid (fun h => by have := pst_lt hps _ h; omega)
      clear tc0 tc1 tc2 tcs tco zts htr hb7 hps hok hsw hsn hF hC hM hbw hTC hZT
      go_upto_region 9 with (first
        | (refine wpList_load_mid (by rfl) 49 _ (by rfl) tb (tof + i * 3) (by rfl) TC.toList _ HTR.out Tryd.underlying49 (by rfl) (by rw [infoTn, Array.length_toList, TCS.out]) ?_; rw [Array.toArray_toList])
        | (refine wpList_store_new (by rfl) 49 _ _ (by rfl) (by rfl) TC _ _ (by rfl) (by rfl) (by rw [TCS.out]; exact infoTn) (by rw [TCS.out, ZTS.out]) TCO.out ?_))
      clear hx
      obtain ⟨l9, hl9⟩ : ∃ l, l = wr.heap.size := ⟨_, rfl⟩
      rw [← hl9] at TCA NL ⊢
      clear hl9
      generalize wr.alloc (.cells TC 49) = wq at *
      have D0 : Hid (Below wq.heap.size wq wq.drew) := Lib.hid (Below.refl _ _).drew
      refine wp_region_plan_in (fun x' => At x' l9 TC 49 ∧ At x' s4 C 30) (.take 0 (.take 1 (.take 2 (.take 3 (.take 4 (.take 7 (.take 8 (.take 9 (.take 10 (.take 11 (.two 5 12 (.take 6 (.sole 12 (.sole 13 .done))) (.sole 5 (.take 6 (.sole 13 .done)))))))))))))) (by kernel_rfl) (by kernel_rfl) (by kernel_rfl) ⟨TCA.out, CA.out⟩ ?_
      (first | (refine plan_move _ _ (by rfl) (by rfl) (.inl (by rfl)) Mem.ev_a ?_) | (refine plan_move _ _ (by rfl) (by rfl) (.inr (by rfl)) Mem.ev_a ?_) | (refine plan_pick_t _ _ _ _ (by rfl) (by rfl) (by rfl) Mem.ev_a Mem.ev_a ?_) | (refine plan_pick_f _ _ _ _ (by rfl) (by rfl) (by rfl) Mem.ev_a Mem.ev_a ?_))
      (simp only [Act.put, List.setIfInBounds_toArray, List.set_cons_zero, List.set_cons_succ])
      refine plan_field 49 _ 0 l9 0 ⟨l9, 0, none⟩ (by rfl) (by rfl) (by rfl) Mem.ev_a (fun wx => by go_simp) ?_
      (simp only [Act.put, List.setIfInBounds_toArray, List.set_cons_zero, List.set_cons_succ])
      refine plan_cell 47 _ _ (.int .u16 (B.toNat : Int)) _ (by rfl) (by rfl) (by rfl) Mem.ev_a (fun w' hw' => (hw'.1.cell 0).trans TC0.out) Tryd.underlying47 (by rfl) ?_
      (simp only [Act.put, List.setIfInBounds_toArray, List.set_cons_zero, List.set_cons_succ])
      refine plan_conv _ _ _ _ (.int .i64 (B.toNat : Int)) (by rfl) (by rfl) (by rfl) Mem.ev_a (fun wx => conv_tb B wx) ?_
      (simp only [Act.put, List.setIfInBounds_toArray, List.set_cons_zero, List.set_cons_succ])
      refine plan_row 30 _ s4 _ C 30 (by rfl) (by rfl) (by rfl) Mem.ev_a (fun w' hw' => hw'.2) Tryd.underlying30 (by rfl) (by rw [CS.out]; exact infoPS) ?_
      (simp only [Act.put, List.setIfInBounds_toArray, List.set_cons_zero, List.set_cons_succ])
      refine plan_field 49 _ 1 l9 0 ⟨l9, 1, none⟩ (by rfl) (by rfl) (by rfl) Mem.ev_a (fun wx => by go_simp) ?_
      (simp only [Act.put, List.setIfInBounds_toArray, List.set_cons_zero, List.set_cons_succ])
      refine plan_cell 5 _ _ (.int .u8 (Aa.toNat : Int)) _ (by rfl) (by rfl) (by rfl) Mem.ev_a (fun w' hw' => (hw'.1.cell 1).trans TC1.out) Tryd.underlying5 (by rfl) ?_
      (simp only [Act.put, List.setIfInBounds_toArray, List.set_cons_zero, List.set_cons_succ])
      refine plan_conv _ _ _ _ (.int .i64 (Aa.toNat : Int)) (by rfl) (by rfl) (by rfl) Mem.ev_a (fun wx => conv_ta Aa wx) ?_
      (simp only [Act.put, List.setIfInBounds_toArray, List.set_cons_zero, List.set_cons_succ])
      refine plan_field 49 _ 2 l9 0 ⟨l9, 2, none⟩ (by rfl) (by rfl) (by rfl) Mem.ev_a (fun wx => by go_simp) ?_
      (simp only [Act.put, List.setIfInBounds_toArray, List.set_cons_zero, List.set_cons_succ])
      refine plan_cell 5 _ _ (.int .u8 (Yy.toNat : Int)) _ (by rfl) (by rfl) (by rfl) Mem.ev_a (fun w' hw' => (hw'.1.cell 2).trans TC2.out) Tryd.underlying5 (by rfl) ?_
      (simp only [Act.put, List.setIfInBounds_toArray, List.set_cons_zero, List.set_cons_succ])
      refine plan_two ?_ ?_
      · refine plan_call 16 _ _ _ (by kernel_rfl) (by rfl) (by rfl) (by rfl) (by first | exact Mem.ev_none _ | (simp only [List.map_toArray, List.map_cons, List.map_nil, Mem.ev_tmp, List.getD_cons_succ, List.getD_cons_zero] <;> rfl)) ?_
        refine (BK.out _).mono ?_
        rintro e wx1 ⟨rfl, hb⟩
        have D1 : Hid (Below wq.heap.size wq wx1) := Lib.hid (D0.out.trans (hb.mono D0.out.size))
        clear hb
        refine ⟨_, rfl, ⟨TCA.out.below D1.out TCA.out.lt, CA.out.below D1.out CA.out.lt⟩, ?_⟩
        (simp only [Act.put, List.setIfInBounds_toArray, List.set_cons_zero, List.set_cons_succ])
        refine plan_bin _ _ _ _ _ _ _ (.int .i64 ((B.toNat % N : Nat) : Int)) (by rfl) (by rfl) (by rfl) Mem.ev_a Mem.ev_a (fun wx => o_rem _ _ _ _ _ hN0 (by have := B.isLt; omega) wx) ?_
        (simp only [Act.put, List.setIfInBounds_toArray, List.set_cons_zero, List.set_cons_succ])
        refine plan_slice 41 5 1 _ #[.int .u8 (Yy.toNat : Int)] (by rfl) (by rfl) (by rfl) Tryd.underlying41 (by kernel_rfl) ⟨(TCA.out.below D1.out TCA.out.lt).alloc _, (CA.out.below D1.out CA.out.lt).alloc _⟩ ?_
        have D2 : Hid (Below wq.heap.size wq (wx1.alloc (.cells #[.int .u8 (Yy.toNat : Int)] 5))) := Lib.hid (D1.out.alloc D1.out.size _)
        (simp only [Act.put, List.setIfInBounds_toArray, List.set_cons_zero, List.set_cons_succ])
        refine plan_call 15 _ _ _ (by kernel_rfl) (by rfl) (by rfl) (by rfl) (by first | exact Mem.ev_none _ | (simp only [List.map_toArray, List.map_cons, List.map_nil, Mem.ev_tmp, List.getD_cons_succ, List.getD_cons_zero] <;> rfl)) ?_
        refine (ptamper_good (B.toNat % N) Aa.toNat [Yy] _ _ (pst_below PQ.out D2.out) OKQ.out (at_sl (at_new wx1 #[.int .u8 (Yy.toNat : Int)] 5) rfl) (by rw [SN.out]; exact Nat.mod_lt _ hN0) (by have := Aa.isLt; simp only [List.length_singleton]; omega)).mono ?_
        rintro e we ⟨rfl, hse⟩
        obtain ⟨⟨F', hp', hF'⟩, hc⟩ := hse
        have hat : ∀ {k : Nat} {D : Array Value} {t : TypeId}, At wq k D t → ¬ F k → At we k D t := fun {k D t} h hn => by
          have hl := h.lt
          have h2 := h.below D2.out hl
          have hb := hc.block k h2.lt hn
          unfold At at *
          rw [hb]; exact h2
        have CE := Lib.hid (hat CA.out (fun h => (FQ.out _ h).1.1 rfl)); have ME := Lib.hid (hat MA.out (fun h => (FQ.out _ h).1.2 rfl)); have TE := Lib.hid (hat TCA.out (fun h => NL.out h))
        have PE := Lib.hid hp'; have BE : Hid (Below w.heap.size w we) := Lib.hid (Chg.below hc (BQ.out.trans (D2.out.mono BQ.out.size)) (fun k h => (FQ.out k h).2) (Nat.le_trans BQ.out.size D2.out.size))
        have OKE := Lib.hid (ok_tam OKQ.out (B.toNat % N) Aa.toNat [Yy] (by rw [SN.out]; exact Nat.mod_lt _ hN0) (by have := Aa.isLt; simp only [List.length_singleton]; omega))
        have FE : Hid (∀ k, F' k → (k ≠ s4 ∧ k ≠ s4 + 1) ∧ w.heap.size ≤ k) := Lib.hid (fun k h => by
          rcases hF' k h with g | g
          · exact FQ.out k g
          · have h1 := CA.out.lt
            have h2 := MA.out.lt
            have h3 := BQ.out.size
            have h4 := D2.out.size
            omega)
        clear hp' hF' hc hat
        refine ⟨_, rfl, ⟨TE.out, CE.out⟩, ?_⟩
        (simp only [Act.put, List.setIfInBounds_toArray, List.set_cons_zero, List.set_cons_succ])
        refine plan_nil ?_
        go_wp2_with fail
        go_roundw
        case rel => exact ⟨i + 1, by omega, by go_num, F', _, PE.out, OKE.out, SWN.out, SN.out, FE.out, CE.out, ME.out, BE.out⟩
        case measure => simp [intOf]; omega
      · refine plan_slice 41 5 1 _ #[.int .u8 (Yy.toNat : Int)] (by rfl) (by rfl) (by rfl) Tryd.underlying41 (by kernel_rfl) ⟨(TCA.out.below D0.out TCA.out.lt).alloc _, (CA.out.below D0.out CA.out.lt).alloc _⟩ ?_
        have D1 : Hid (Below wq.heap.size wq (wq.drew.alloc (.cells #[.int .u8 (Yy.toNat : Int)] 5))) := Lib.hid (D0.out.alloc D0.out.size _)
        (simp only [Act.put, List.setIfInBounds_toArray, List.set_cons_zero, List.set_cons_succ])
        have SY1 : Hid (Sl (wq.drew.alloc (.cells #[.int .u8 (Yy.toNat : Int)] 5)) (.slice (some ⟨wq.drew.heap.size, 0, none⟩) 1 1) [Yy]) := Lib.hid (at_sl (at_new wq.drew #[.int .u8 (Yy.toNat : Int)] 5) rfl)
        refine plan_call 16 _ _ _ (by kernel_rfl) (by rfl) (by rfl) (by rfl) (by first | exact Mem.ev_none _ | (simp only [List.map_toArray, List.map_cons, List.map_nil, Mem.ev_tmp, List.getD_cons_succ, List.getD_cons_zero] <;> rfl)) ?_
        refine (BK.out _).mono ?_
        rintro e wx2 ⟨rfl, hb⟩
        have D2 : Hid (Below wq.heap.size wq wx2) := Lib.hid (D1.out.trans (hb.mono D1.out.size))
        have SY2 := Lib.hid (SY1.out.below hb)
        clear hb
        refine ⟨_, rfl, ⟨TCA.out.below D2.out TCA.out.lt, CA.out.below D2.out CA.out.lt⟩, ?_⟩
        (simp only [Act.put, List.setIfInBounds_toArray, List.set_cons_zero, List.set_cons_succ])
        refine plan_bin _ _ _ _ _ _ _ (.int .i64 ((B.toNat % N : Nat) : Int)) (by rfl) (by rfl) (by rfl) Mem.ev_a Mem.ev_a (fun wx => o_rem _ _ _ _ _ hN0 (by have := B.isLt; omega) wx) ?_
        (simp only [Act.put, List.setIfInBounds_toArray, List.set_cons_zero, List.set_cons_succ])
        refine plan_call 15 _ _ _ (by kernel_rfl) (by rfl) (by rfl) (by rfl) (by first | exact Mem.ev_none _ | (simp only [List.map_toArray, List.map_cons, List.map_nil, Mem.ev_tmp, List.getD_cons_succ, List.getD_cons_zero] <;> rfl)) ?_
        refine (ptamper_good (B.toNat % N) Aa.toNat [Yy] _ _ (pst_below PQ.out D2.out) OKQ.out (SY2.out) (by rw [SN.out]; exact Nat.mod_lt _ hN0) (by have := Aa.isLt; simp only [List.length_singleton]; omega)).mono ?_
        rintro e we ⟨rfl, hse⟩
        obtain ⟨⟨F', hp', hF'⟩, hc⟩ := hse
        have hat : ∀ {k : Nat} {D : Array Value} {t : TypeId}, At wq k D t → ¬ F k → At we k D t := fun {k D t} h hn => by
          have hl := h.lt
          have h2 := h.below D2.out hl
          have hb := hc.block k h2.lt hn
          unfold At at *
          rw [hb]; exact h2
        have CE := Lib.hid (hat CA.out (fun h => (FQ.out _ h).1.1 rfl)); have ME := Lib.hid (hat MA.out (fun h => (FQ.out _ h).1.2 rfl)); have TE := Lib.hid (hat TCA.out (fun h => NL.out h))
        have PE := Lib.hid hp'; have BE : Hid (Below w.heap.size w we) := Lib.hid (Chg.below hc (BQ.out.trans (D2.out.mono BQ.out.size)) (fun k h => (FQ.out k h).2) (Nat.le_trans BQ.out.size D2.out.size))
        have OKE := Lib.hid (ok_tam OKQ.out (B.toNat % N) Aa.toNat [Yy] (by rw [SN.out]; exact Nat.mod_lt _ hN0) (by have := Aa.isLt; simp only [List.length_singleton]; omega))
        have FE : Hid (∀ k, F' k → (k ≠ s4 ∧ k ≠ s4 + 1) ∧ w.heap.size ≤ k) := Lib.hid (fun k h => by
          rcases hF' k h with g | g
          · exact FQ.out k g
          · have h1 := CA.out.lt
            have h2 := MA.out.lt
            have h3 := BQ.out.size
            have h4 := D2.out.size
            omega)
        clear hp' hF' hc hat
        refine ⟨_, rfl, ⟨TE.out, CE.out⟩, ?_⟩
        (simp only [Act.put, List.setIfInBounds_toArray, List.set_cons_zero, List.set_cons_succ])
        refine plan_nil ?_
        go_wp2_with fail
        go_roundw
        case rel => exact ⟨i + 1, by omega, by go_num, F', _, PE.out, OKE.out, SWN.out, SN.out, FE.out, CE.out, ME.out, BE.out⟩
        case measure => simp [intOf]; omega
    · have hin : i = nt := by omega
      have hge : ¬ (i : Int) < (nt : Int) := by omega
      have hBl : s.b.length = N * 256 := by have := hok.b; rw [hsn] at this; exact this
      have hag := AGR.out s.b
      have her := fun x hx => WERR.out s.b x hx hBl
      have hln := fun x hx => WLEN.out s.b x hx hBl
      have hwh := WH.out F b s wr hbw hps hok hsw
      have hwy := fun x wx h hp => WY.out F b s x wx h hp hok hsw
      obtain ⟨W, hW⟩ : ∃ W, W = wholeT s.b key p root := ⟨_, rfl⟩
      obtain ⟨wf, hwf⟩ : ∃ f : Nat → List RefV × List (BitVec 8) × Int, f = fun x : Nat => wayT s.b key p root (x : Int) := ⟨_, rfl⟩
      have hwfx : ∀ x : Nat, wayT s.b key p root (x : Int) = wf x := fun x => by rw [hwf]
      rw [← hW] at hag hwh
      have hag1 : W.2.2 = 0 → W.2.1.length = p ∧ ∀ x, x < p → (wf x).2.2 = 0 ∧ W.2.1.getD x [] = (wf x).2.1 := fun h => by
        obtain ⟨a, c⟩ := hag.1 h
        exact ⟨a, fun x hx => by rw [← hwfx]; exact c x hx⟩
      have hag2 : W.2.2 ≠ 0 → ∃ x, x < p ∧ (wf x).2.2 ≠ 0 := fun h => by
        obtain ⟨x, a, c⟩ := hag.2 h
        exact ⟨x, a, by rw [← hwfx]; exact c⟩
      have her2 : ∀ x, x < p → (wf x).2.2 = 0 ∨ (wf x).2.2 = 9 := fun x hx => by rw [← hwfx]; exact her x hx
      have hln2 : ∀ x, x < p → (wf x).2.2 = 0 → (wf x).2.1.length = 256 := fun x hx h => by rw [← hwfx] at h ⊢; exact hln x hx h
      have hwy2 : ∀ (x : Nat) wx, Below w.heap.size w wx → PSt F b wx s → Calls Tryd.prog 12 #[.pointer none, rq b, .agg KC, .agg C, .agg M, .int .i64 (x : Int)] wx (WyEnd wx (wf x)) := fun x wx h hp => by rw [← hwfx]; exact hwy x wx h hp
      obtain ⟨RW, GW, e0⟩ := W
      simp only at hag1 hag2
      obtain ⟨Q, hQ⟩ : ∃ Q : Nat → Bool, Q = fun j => decide (∀ x, x < j → (wf x).2.2 = 0) := ⟨_, rfl⟩
      have q0 : Q 0 = true := by rw [hQ]; exact decide_eq_true (fun x hx => by omega)
      have qt : ∀ j, (wf j).2.2 = 0 → Q (j + 1) = Q j := fun j h => by
        rw [hQ]
        simp only [decide_eq_decide]
        exact ⟨fun g x hx => g x (by omega), fun g x hx => by
          rcases Nat.lt_or_ge x j with a | a
          · exact g x a
          · rw [show x = j by omega]; exact h⟩
      have qf : ∀ j, (wf j).2.2 = 9 → Q (j + 1) = false := fun j h => by
        rw [hQ]
        exact decide_eq_false (fun g => by have := g j (by omega); rw [h] at this; cases this)
      have qp0 : e0 = 0 → Q p = true := fun h => by
        rw [hQ]
        exact decide_eq_true (fun x hx => ((hag1 h).2 x hx).1)
      have qp1 : e0 ≠ 0 → Q p = false := fun h => by
        obtain ⟨x, a, c⟩ := hag2 h
        rw [hQ]
        exact decide_eq_false (fun g => c (g x a))
      have PS0 := Lib.hid hps; have CA := Lib.hid hC; have MA := Lib.hid hM; have BW := Lib.hid hbw
      have WHH := Lib.hid hwh; have WYY := Lib.hid hwy2; have AG1 := Lib.hid hag1; have ER := Lib.hid her2; have LN := Lib.hid hln2; have Q0 := Lib.hid q0; have QT := Lib.hid qt; have QF := Lib.hid qf; have QP0 := Lib.hid qp0; have QP1 := Lib.hid qp1
      clear hwh hwy hwy2 hag hag1 hag2 her her2 hln hln2 q0 qt qf qp0 qp1 hQ hwf hwfx hW hBl hps hok hsw hsn hF hC hM hbw
      go_wp2_with (first
        | (refine Mem.wpList_build (by rfl) 22 _ #[] (.agg KC) (by rfl) (by simp) BKK.out ?_)
        | (refine wpList_load_all (by rfl) 30 _ (by rfl) s4 (by rfl) _ Tryd.underlying30 (by rfl) C _ CA.out (by rw [CS.out]; exact infoPS) ?_)
        | (refine wpList_load_all (by rfl) 32 _ (by rfl) (s4 + 1) (by rfl) _ Tryd.underlying32 (by rfl) M _ MA.out (by rw [RS.out]; exact infoRfP) ?_))
      refine (WHH.out).mono ?_
      rintro e wa ⟨vr, vq, rfl, _, hqa, hba⟩
      obtain ⟨aq, cq, rfl, _, _⟩ := id hqa
      obtain ⟨ng, hng⟩ : ∃ n, n = GW.length := ⟨_, rfl⟩
      have HNG := Lib.hid hng
      rw [← hng] at hqa ⊢
      clear hng
      have QA := Lib.hid hqa; have BA : Hid (Below w.heap.size w wa) := Lib.hid (BW.out.trans (hba.mono BW.out.size)); have PA := Lib.hid (pst_below PS0.out hba); have CB := Lib.hid (CA.out.below hba CA.out.lt); have MB := Lib.hid (MA.out.below hba MA.out.lt)
      clear hqa hba CA MA PS0 BW
      go_upto_region 14 with fail
      go_loopw [14, 80] (fun vb vi wx => ∃ j : Nat, j ≤ p ∧ vi = .int .i64 (j : Int) ∧ vb = .bool (Q j) ∧ Below wa.heap.size wa wx) (fun _ vi _ => p - (intOf vi).toNat)
      case atStart => exact ⟨0, by omega, rfl, by rw [Q0.out], Below.refl _ _⟩
      case round =>
        obtain ⟨j, hj, rfl, rfl, hbx⟩ := hrel
        have BX := Lib.hid hbx
        clear hbx
        by_cases hjt : j < p
        · have hjt2 : (j : Int) < (p : Int) := by omega
          have hjg : ¬ (p : Int) ≤ (j : Int) := by omega
          have B0 : Hid (Below w.heap.size w wr) := Lib.hid (BA.out.trans (BX.out.mono BA.out.size))
          have CX := Lib.hid (CB.out.below BX.out CB.out.lt); have MX := Lib.hid (MB.out.below BX.out MB.out.lt); have PX := Lib.hid (pst_below PA.out BX.out)
          go_wp2_with (first
            | (refine Mem.wpList_build (by rfl) 22 _ #[] (.agg KC) (by rfl) (by simp) BKK.out ?_)
            | (refine wpList_load_all (by rfl) 30 _ (by rfl) s4 (by rfl) _ Tryd.underlying30 (by rfl) C _ CX.out (by rw [CS.out]; exact infoPS) ?_)
            | (refine wpList_load_all (by rfl) 32 _ (by rfl) (s4 + 1) (by rfl) _ Tryd.underlying32 (by rfl) M _ MX.out (by rw [RS.out]; exact infoRfP) ?_))
          refine (WYY.out j _ B0.out PX.out).mono ?_
          rintro e wy ⟨vw, vg, rfl, _, hpgv, hby⟩
          have PV := Lib.hid hpgv
          have BY : Hid (Below wa.heap.size wa wy) := Lib.hid (BX.out.trans (hby.mono BX.out.size))
          clear hpgv hby CX MX PX
          have her := ER.out j hjt
          have hln := LN.out j hjt
          have hqt := QT.out j
          have hqf := QF.out j
          have hag := fun h => ((AG1.out h).2 j hjt)
          obtain ⟨X, hX⟩ : ∃ X, X = wf j := ⟨_, rfl⟩
          rw [← hX] at her hln hqt hqf hag PV ⊢
          clear hX
          obtain ⟨XR, XP, f⟩ := X
          simp only at her hln hqt hqf hag PV ⊢
          rcases her with rfl | rfl
          · have QJ := Lib.hid (hqt rfl); have XL := Lib.hid (hln rfl)
            clear hqt hqf hln
            by_cases he0 : e0 = 0
            · have hgl := (AG1.out he0).1
              have hge := (hag he0).2
              have hnp : ng = p := by rw [HNG.out]; exact hgl
              have hjd : decide ((ng : Int) ≤ (j : Int)) = false := decide_eq_false (by omega)
              have hjn : j < ng := by omega
              have hjn2 : (j : Int) < (ng : Int) := by omega
              subst he0
              obtain ⟨gb, go_, vgj, ea, hgb, hcell, hsl⟩ := sls_at (QA.out.below BY.out) (i := j) (by rw [hgl]; exact hjt)
              subst ea
              rw [hge] at hsl
              have hsm := fun wz (h : Below wy.heap.size wy wz) => same_any XP XP vgj vg wz (hsl.below h) (PV.out.below h) (by rw [XL.out]; decide) (by rw [XL.out]; decide)
              have hss : sameB XP XP = true := by simp [sameB]
              rw [hss] at hsm
              have SM := Lib.hid hsm
              clear hsm hss hsl hag hge hgl hgb hnp
              cases hq : Q j
              · have QN : Hid (Q (j + 1) = false) := Lib.hid (by rw [QJ.out]; exact hq)
                clear hq
                go_wp2_with fail
                refine (SM.out _ (Below.refl _ _)).mono ?_
                rintro e wz ⟨rfl, hbz⟩
                have BZ : Hid (Below wa.heap.size wa wz) := Lib.hid (BY.out.trans (hbz.mono BY.out.size))
                clear hbz hcell
                go_wp2_with fail
                go_roundw
                case rel => exact ⟨j + 1, by omega, by go_num, by rw [QN.out], BZ.out⟩
                case measure => simp [intOf]; omega
              · have QN : Hid (Q (j + 1) = true) := Lib.hid (by rw [QJ.out]; exact hq)
                clear hq
                go_wp2_with fail
                · exfalso
                  omega
                refine (SM.out _ (Below.refl _ _)).mono ?_
                rintro e wz ⟨rfl, hbz⟩
                have BZ : Hid (Below wa.heap.size wa wz) := Lib.hid (BY.out.trans (hbz.mono BY.out.size))
                clear hbz hcell
                go_wp2_with fail
                go_roundw
                case rel => exact ⟨j + 1, by omega, by go_num, by rw [QN.out], BZ.out⟩
                case measure => simp [intOf]; omega
            · have e1 : ((e0 : Int) == 0) = false := beq_eq_false_iff_ne.mpr he0
              clear hag
              cases hq : Q j
              · have QN : Hid (Q (j + 1) = false) := Lib.hid (by rw [QJ.out]; exact hq)
                clear hq
                go_wp2_with fail
                go_roundw
                case rel => exact ⟨j + 1, by omega, by go_num, by rw [QN.out], BY.out⟩
                case measure => simp [intOf]; omega
              · have QN : Hid (Q (j + 1) = true) := Lib.hid (by rw [QJ.out]; exact hq)
                clear hq
                go_wp2_with fail
                go_roundw
                case rel => exact ⟨j + 1, by omega, by go_num, by rw [QN.out], BY.out⟩
                case measure => simp [intOf]; omega
          · have QN := Lib.hid (hqf rfl)
            have he0 : ¬ e0 = 0 := fun h => by have := (hag h).1; cases this
            have e1 : ((e0 : Int) == 0) = false := beq_eq_false_iff_ne.mpr he0
            clear hqt hqf hln hag
            cases hq : Q j
            · clear hq
              go_wp2_with fail
              go_roundw
              case rel => exact ⟨j + 1, by omega, by go_num, by rw [QN.out], BY.out⟩
              case measure => simp [intOf]; omega
            · clear hq
              go_wp2_with fail
              go_roundw
              case rel => exact ⟨j + 1, by omega, by go_num, by rw [QN.out], BY.out⟩
              case measure => simp [intOf]; omega
        · have hjn : j = p := by omega
          have hjg : ¬ (j : Int) < (p : Int) := by omega
          have B0 : Hid (Below w.heap.size w wr) := Lib.hid (BA.out.trans (BX.out.mono BA.out.size))
          have hq0 := QP0.out
          have hq1 := QP1.out
          rw [← hjn] at hq0 hq1
          by_cases he0 : e0 = 0
          · have QV := Lib.hid (hq0 he0)
            subst he0
            rw [QV.out]
            clear hq0 hq1
            go_wp2_with fail
            refine (LIVE.out _ B0.out).mono ?_
            rintro e wz ⟨rfl, hbz⟩
            have BZ : Hid (Below w.heap.size w wz) := Lib.hid (B0.out.trans (hbz.mono B0.out.size))
            clear hbz
            go_wp2_with fail
            go_ret
            exact ⟨rfl, BZ.out⟩
          · have QV := Lib.hid (hq1 he0)
            have e1 : ((e0 : Int) == 0) = false := beq_eq_false_iff_ne.mpr he0
            rw [QV.out]
            clear hq0 hq1
            go_wp2_with fail
            refine (LIVE.out _ B0.out).mono ?_
            rintro e wz ⟨rfl, hbz⟩
            have BZ : Hid (Below w.heap.size w wz) := Lib.hid (B0.out.trans (hbz.mono B0.out.size))
            clear hbz
            go_wp2_with fail
            go_ret
            exact ⟨rfl, BZ.out⟩
end Sha
end Go.Proofs.YtajdpbbbocnfiaaDoor
namespace Go.Proofs.YtajdpbbbocnfiaaDoor
namespace Sha
open Go.RowKit Mem
set_option maxRecDepth 100000
set_option maxHeartbeats 2000000 in
theorem agree14_core (T : TreeP) (l : List (List (BitVec 8))) (ts : List Tn14) (v vt : Value) (w : World) (hT : TT w) (hs : Sls w v l) (ht : SlTn w vt ts) :
    Calls Tryd.prog 4 #[v, vt] w (fun e w' => e = .returned (.bool true) ∧ Below w.heap.size w w') := by
  by_cases hg : farP l = false ∧ l.length ≠ 0 ∧ l.length ≤ 216 ∧ ts.length ≤ 20
  · exact agree14_good T l ts v vt w hT hs ht hg.1 hg.2.1 hg.2.2.1 hg.2.2.2
  · have fr := far14_any l v w hs
    have live := alive14_any T w hT
    have hc : farP l = true ∨ (farP l = false ∧ l.length = 0) ∨ (farP l = false ∧ l.length ≠ 0 ∧ 216 < l.length) ∨ (farP l = false ∧ l.length ≠ 0 ∧ l.length ≤ 216 ∧ 20 < ts.length) := by
      cases h : farP l
      · by_cases h0 : l.length = 0
        · exact .inr (.inl ⟨rfl, h0⟩)
        · by_cases h1 : l.length ≤ 216
          · exact .inr (.inr (.inr ⟨rfl, h0, h1, by by_cases h2 : ts.length ≤ 20; exact absurd ⟨h, h0, h1, h2⟩ hg; omega⟩))
          · exact .inr (.inr (.inl ⟨rfl, h0, by omega⟩))
      · exact .inl rfl
    obtain ⟨asx, cap, rfl, _, _⟩ := hs
    obtain ⟨at_, ct, rfl, _⟩ := ht
    obtain ⟨n, hn⟩ : ∃ n, n = l.length := ⟨_, rfl⟩
    obtain ⟨m, hm⟩ : ∃ m, m = ts.length := ⟨_, rfl⟩
    obtain ⟨q, hq⟩ : ∃ q, q = farP l := ⟨_, rfl⟩
    rw [← hn, ← hq] at fr hc
    rw [← hm] at hc
    rw [← hn, ← hm]
    have FR := Lib.hid fr; have LIVE := Lib.hid live
    clear fr live hg hn hm hq hT
    rcases hc with rfl | ⟨rfl, h0⟩ | ⟨rfl, h0, h1⟩ | ⟨rfl, h0, h1, h2⟩
    · go_enter Tryd.func4, Tryd.ntmps4
      go_wp2_with fail
      refine (FR.out).mono ?_
      rintro e w1 ⟨rfl, rfl⟩
      go_wp2_with fail
      refine (LIVE.out).mono ?_
      rintro e wz ⟨rfl, hbz⟩
      have BZ := Lib.hid hbz
      clear hbz
      go_wp2_with fail
      go_ret
      exact ⟨rfl, BZ.out⟩
    · subst h0
      go_enter Tryd.func4, Tryd.ntmps4
      go_wp2_with fail
      refine (FR.out).mono ?_
      rintro e w1 ⟨rfl, rfl⟩
      go_wp2_with fail
      refine (LIVE.out).mono ?_
      rintro e wz ⟨rfl, hbz⟩
      have BZ := Lib.hid hbz
      clear hbz
      go_wp2_with fail
      go_ret
      exact ⟨rfl, BZ.out⟩
    · have g0 : ((n : Int) == 0) = false := beq_eq_false_iff_ne.mpr (by omega)
      have g1 : ¬ (n : Int) = 0 := by omega
      have g2 : (216 : Int) < (n : Int) := by omega
      go_enter Tryd.func4, Tryd.ntmps4
      go_wp2_with fail
      refine (FR.out).mono ?_
      rintro e w1 ⟨rfl, rfl⟩
      go_wp2_with fail
      refine (LIVE.out).mono ?_
      rintro e wz ⟨rfl, hbz⟩
      have BZ := Lib.hid hbz
      clear hbz
      go_wp2_with fail
      go_ret
      exact ⟨rfl, BZ.out⟩
    · have g0 : ((n : Int) == 0) = false := beq_eq_false_iff_ne.mpr (by omega)
      have g1 : ¬ (n : Int) = 0 := by omega
      have g2 : ¬ (216 : Int) < (n : Int) := by omega
      have g3 : (20 : Int) < (m : Int) := by omega
      go_enter Tryd.func4, Tryd.ntmps4
      go_wp2_with fail
      refine (FR.out).mono ?_
      rintro e w1 ⟨rfl, rfl⟩
      go_wp2_with fail
      refine (LIVE.out).mono ?_
      rintro e wz ⟨rfl, hbz⟩
      have BZ := Lib.hid hbz
      clear hbz
      go_wp2_with fail
      go_ret
      exact ⟨rfl, BZ.out⟩
end Sha
end Go.Proofs.YtajdpbbbocnfiaaDoor
