/- My own texts, merged. -/
import Derived.Test.YtajdpbbbocnfiaaGreatDoorBm45
import Derived.Deep.DeepCutAuto
import Derived.Test.YtajdpbbbocnfiaaGreatDoorBm46
import Derived.Test.YtajdpbbbocnfiaaGreatDoorBm44
namespace Go.Proofs.YtajdpbbbocnfiaaGreatDoor
namespace Sha
open Go.RowKit Mem
set_option maxRecDepth 100000
theorem allocRR14 (w : World) : (Instr.alloc 36 true (.tuple #[])).run Tryz.prog w = .ok (.pointer (some ⟨w.heap.size, 0, none⟩)) (w.alloc (.cells (refC zref) 36)) := by kernel_rfl
theorem hideR_bad (key : List (BitVec 8)) (ep : BitVec 32) (block : Int) (pg : List (BitVec 8)) (h : pg.length ≠ 256) : hideR key ep 0 block pg = ([], zref, 1) := by
 unfold hideR
 rw [if_pos]
 simp [sealBad, h]
theorem makeT_bad {key : List (BitVec 8)} {ep : BitVec 32} {P : List (List (BitVec 8))} {i : Nat} (hi : i < P.length) (h : (P.getD i []).length ≠ 256) : makeT key ep P = ([], zref, 1) := by
 refine makeT_no (fun g => h ?_)
 have a := List.all_eq_true.1 g.2.2 (P.getD i []) (by
  rw [List.getD_eq_getElem?_getD, List.getElem?_eq_getElem hi]
  exact List.getElem_mem hi)
 simpa using a
theorem o_plus14 (n c : Nat) (hn : n ≤ 1000000) (hc : c ≤ 1000) (t t2 : TypeId) (x y : Operand) (w : World) : (do eqGuard .add t x y (.int .i64 (n : Int)) (.int .i64 (c : Int)); binOp .add t2 (.int .i64 (n : Int)) (.int .i64 (c : Int)) : Sem Value).run Tryz.prog w = .ok (.int .i64 ((n + c : Nat) : Int)) w := by
 have e : IntKind.i64.wrap ((n : Int) + (c : Int)) = ((n + c : Nat) : Int) := by rw [i64_id _ (by omega) (by omega)]; omega
 go_simp
theorem good_of {P : List (List (BitVec 8))} (h0 : 1 ≤ P.length) (h1 : P.length ≤ 216) (h : ∀ k, k < P.length → (P.getD k []).length = 256) : GoodP P := by
 refine ⟨h0, h1, fun x hx => ?_⟩
 obtain ⟨j, hj, e⟩ := List.mem_iff_getElem.1 hx
 have := h j hj
 rw [List.getD_eq_getElem?_getD, List.getElem?_eq_getElem hj, Option.getD_some, e] at this
 exact this
set_option maxHeartbeats 2000000 in
theorem rmake_bad (key : List (BitVec 8)) (ep : BitVec 32) (P : List (List (BitVec 8))) (v : Value) (w : World) (hs : Sls w v P) (hn : P.length ≤ 1000) (h : P.length < 1 ∨ 216 < P.length) :
 Calls Tryz.prog 10 #[.agg (u8s key).toArray, .int .u32 (V ep), v] w (MkEnd w ([], zref, 1)) := by
 have nb := fun wx => rnew_bad (P.length : Int) wx (by omega)
 obtain ⟨KC, hKC⟩ : ∃ K, K = (u8s key).toArray := ⟨_, rfl⟩
 have hxr := zeroRfR
 have hbr := buildRR14
 unfold MkEnd
 show Calls _ _ _ _ (fun e w' => ∃ v, e = .returned (.tuple #[v, .agg (refC zref), .int .i64 1]) ∧ WPut (fun k => w.heap.size ≤ k) w' v [] ∧ Below w.heap.size w w')
 obtain ⟨Z, hZ⟩ : ∃ Z, Z = refC zref := ⟨_, rfl⟩
 have zs : Z.size = 34 := by rw [hZ]; exact refC_size zref_wf
 have zo : Z.all (·.oneCell') = true := by rw [hZ]; exact refC_one zref
 have hx := zeroShR
 obtain ⟨Y, hYs⟩ : ∃ C, C = rsC 0 (.slice none 0 0) (.slice none 0 0) := ⟨_, rfl⟩
 have ys : Y.size = 3 := by rw [hYs]; rfl
 have yo : Y.all (·.oneCell') = true := by rw [hYs]; exact rsC_one _ _ _ _ _ _ _
 obtain ⟨asx, cap, rfl, _, _⟩ := hs
 obtain ⟨n, hnn⟩ : ∃ n, n = P.length := ⟨_, rfl⟩
 rw [← hnn] at nb ⊢
 rw [← hZ] at hxr hbr ⊢
 rw [← hKC]
 rw [← hYs] at hx nb
 have az : At ((w.alloc (.cells KC 22)).alloc (.cells Z 36)) (w.heap.size + 1) Z 36 := by
  have h := at_new (w.alloc (.cells KC 22)) Z 36
  simpa using h
 have b4 : Below w.heap.size w ((w.alloc (.cells KC 22)).alloc (.cells Z 36)) := ((Below.refl _ _).alloc (Nat.le_refl _) _).alloc (by simp) _
 have NB := zh nb; have ZS := zh zs; have ZO := zh zo; have YS := zh ys; have YO := zh yo; have BR := zh hbr; have AZ := zh az; have B4 := zh b4
 clear nb zs zo ys yo hbr az b4 hZ hYs hnn hKC h hn
 go_enter Tryz.func10, Tryz.ntmps10
 go_upto_region 1 with fail
 generalize (w.alloc (.cells KC 22)).alloc (.cells Z 36) = w4 at *
 go_wp2_with fail
 refine (NB.out _).mono ?_
 rintro e w5 ⟨rfl, hb5⟩
 have B5 : Hid (Below w.heap.size w (w5.alloc (.cells Y 60))) := zh ((B4.out.trans (hb5.mono B4.out.size)).alloc (Nat.le_trans B4.out.size hb5.size) _)
 have A5 := zh ((AZ.out.below hb5 AZ.out.lt).alloc (.cells Y 60))
 clear hb5
 go_upto_region 2 with (refine wpList_store_new zr 60 _ _ zr zr Y _ _ zr zr (by rw [YS.out]; exact infoRS) zr YO.out ?_)
 clear hx
 generalize (w5.alloc (.cells Y 60)) = w6 at *
 go_wp2_with (first
  | (refine Mem.wpList_build zr 36 _ #[] (.agg Z) zr (by simp) BR.out ?_)
  | (refine wpList_store_all zr 36 _ _ zr zr (w.heap.size + 1) Z zr zr (by rw [ZS.out]; exact infoRfR) Z 36 A5.out zr ZO.out ?_))
 try simp only [Exit.inBlock, Exit.then]
 refine ret_tmp_row_tmp zr (w.heap.size + 1) 36 Z _ _ _ zr zr zr (A5.out.row Z) Tryz.underlying36 zr (by rw [ZS.out]; exact infoRfR) ?_
 exact ⟨_, rfl, ⟨[], trivial, SlR.nil _ _ _⟩, below_row B5.out (by omega) Z⟩
set_option maxHeartbeats 8000000 in
theorem rmake_some (key : List (BitVec 8)) (ep : BitVec 32) (P : List (List (BitVec 8))) (v : Value) (w : World) (lk : key.length = 32) (hs : Sls w v P) (hp0 : 1 ≤ P.length) (hp1 : P.length ≤ 216) (hl : ∀ x ∈ P, x.length ≤ 1000) :
 Calls Tryz.prog 10 #[.agg (u8s key).toArray, .int .u32 (V ep), v] w (MkEnd w (makeT key ep P)) := by
 have hit := itn_big P.length hp0 hp1
 have ng := fun wx => rnew_any P.length wx hp0 hp1
 have bk := fun (i : Nat) vL vF wx (h : RS wx P.length vL vF) (hi : i < itn P.length) => by
  have g := rblock_any P.length vL vF (i : Int) 0 wx h (itn_le259 _ hp1)
  rw [show (0 : Int) = ((0 : Nat) : Int) from rfl, BZ_at P.length i 0 hi (by decide), show (2 : Int) + 2 * (i : Int) + ((0 : Nat) : Int) = ((2 + 2 * i : Nat) : Int) by omega] at g
  exact g
 have kd := fun (i : Nat) vL vF wx (h : RS wx P.length vL vF) (hi : P.length ≤ i) (hl : i < itn P.length) => by
  have g := rkids_any P.length vL vF (i : Int) wx h hp0 hp1
  rw [kidsZ_node hi hl] at g
  exact g
 have hgl : ∀ i, (P.getD i []).length ≤ 1000 := fun i => by
  rw [List.getD_eq_getElem?_getD]
  by_cases hi : i < P.length
  ·rw [List.getElem?_eq_getElem hi]; exact hl _ (List.getElem_mem hi)
  ·rw [List.getElem?_eq_none (by omega)]; simp
 have hdg : ∀ (i : Nat) pg vx wx, pg.length = 256 → i < itn P.length → Sl wx vx pg → Calls Tryz.prog 39 #[.agg (u8s key).toArray, .int .u32 (V ep), .int .i64 0, .int .i64 ((2 + 2 * i : Nat) : Int), vx] wx (ThreeOwn wx (hideR key ep 0 ((2 + 2 * i : Nat) : Int) pg).1 (hideR key ep 0 ((2 + 2 * i : Nat) : Int) pg).2.1 0) := fun i pg vx wx h hi hx => by
  have g := rhide_own key lk ep 0 ((2 + 2 * i : Nat) : Int) (by omega) (by omega) (by omega) pg vx wx hx (by omega)
  have e : (hideR key ep 0 ((2 + 2 * i : Nat) : Int) pg).2.2 = 0 := by rw [hideR_good key ep 0 _ pg h (by omega) (by omega) (by omega)]
  rw [e] at g
  exact g
 have hdb : ∀ (i : Nat) pg vx wx, pg.length ≠ 256 → pg.length ≤ 1000 → i < itn P.length → Sl wx vx pg → Calls Tryz.prog 39 #[.agg (u8s key).toArray, .int .u32 (V ep), .int .i64 0, .int .i64 ((2 + 2 * i : Nat) : Int), vx] wx (ThreeOwn wx [] zref 1) := fun i pg vx wx h h2 hi hx => by
  have g := rhide_own key lk ep 0 ((2 + 2 * i : Nat) : Int) (by omega) (by omega) (by omega) pg vx wx hx (by omega)
  rw [hideR_bad _ _ _ _ h] at g
  exact g
 have hbad := fun i (hi : i < P.length) (h : (P.getD i []).length ≠ 256) => makeT_bad (key := key) (ep := ep) hi h
 have hgood := fun (h : ∀ k, k < P.length → (P.getD k []).length = 256) => good_of hp0 hp1 h
 have hfin := fun (h : ∀ k, k < P.length → (P.getD k []).length = 256) => makeT_ok key ep (good_of hp0 hp1 h)
 have hpgp := fun i (hi : i < P.length) => (show pgT key ep P i = P.getD i [] by unfold pgT pageI; rw [if_pos hi])
 have hpgn := fun i (hi : P.length ≤ i) => (show pgT key ep P i = (layN (kidR P.length (refsT key ep P i) i)).1 by unfold pgT pageI; rw [if_neg (by omega)])
 have hnok := fun i (h : ∀ k, k < P.length → (P.getD k []).length = 256) (hi : P.length ≤ i) (hl : i < itn P.length) => node_lay (key := key) (ep := ep) (hgood h) i i hi hl (Nat.le_refl _)
 have hpgl := fun i (h : ∀ k, k < P.length → (P.getD k []).length = 256) (hl : i < itn P.length) => pgT_length (key := key) (ep := ep) (hgood h) i hl
 have hsel := fun (i : Nat) => (show hideR key ep 0 ((2 + 2 * i : Nat) : Int) (pgT key ep P i) = (selT key ep P i, refT key ep P i, (hideR key ep 0 ((2 + 2 * i : Nat) : Int) (pgT key ep P i)).2.2) by
  have e0 : (2 : Int) + 2 * (i : Int) = ((2 + 2 * i : Nat) : Int) := by omega
  unfold selT refT hidI
  rw [e0]; rfl)
 have hkw := fun i => kidR_wf P.length (refsT_wf (key := key) (ep := ep) (P := P) i) i
 have ly := fun i vx wx (h : SlRf wx vx (kidR P.length (refsT key ep P i) i)) (hle : (kidR P.length (refsT key ep P i) i).length ≤ 1000) => rlayN_any (kidR P.length (refsT key ep P i) i) vx wx h (hkw i) hle
 have hkl := fun i (hi : P.length ≤ i) (hl : i < itn P.length) => kidR_length P.length (refsT key ep P i) i (by rw [refsT_length]; exact (node_kids P.length i hp0 hp1 hi hl).2)
 have hkn := fun i (hi : P.length ≤ i) (hl : i < itn P.length) => node_kids P.length i hp0 hp1 hi hl
 have hk6 := fun i => many_le P.length i
 have hrl := refsT_length key ep P
 have hrwf := fun i => refsT_wf (key := key) (ep := ep) (P := P) i
 have hrT := fun i => refT_wf (key := key) (ep := ep) (P := P) i
 have hsl := fun i (h : ∀ k, k < P.length → (P.getD k []).length = 256) (hl : i < itn P.length) => selT_length (key := key) (ep := ep) (hgood h) i hl
 obtain ⟨Y, hY⟩ : ∃ Y, Y = makeT key ep P := ⟨_, rfl⟩
 rw [← hY] at hbad hfin ⊢
 obtain ⟨PL, hPL⟩ : ∃ f, f = putL key ep P := ⟨_, rfl⟩
 obtain ⟨RF, hRF⟩ : ∃ f, f = refsT key ep P := ⟨_, rfl⟩
 obtain ⟨PG, hPG⟩ : ∃ f, f = pgT key ep P := ⟨_, rfl⟩
 obtain ⟨SE, hSE⟩ : ∃ f, f = selT key ep P := ⟨_, rfl⟩
 obtain ⟨RE, hRE⟩ : ∃ f, f = refT key ep P := ⟨_, rfl⟩
 obtain ⟨KR, hKR⟩ : ∃ f : Nat → List RefV, f = fun i => kidR P.length (refsT key ep P i) i := ⟨_, rfl⟩
 have hz1 : PL 0 = [] := by rw [hPL]; rfl
 have hz2 : RF 0 = [] := by rw [hRF]; rfl
 have hps : ∀ i, PL (i + 1) = PL i ++ [(2 + 2 * i, SE i)] := fun i => by rw [hPL, hSE]; exact putL_succ _ _ _ _
 have hrs : ∀ i, RF (i + 1) = RF i ++ [RE i] := fun i => by rw [hRF, hRE]; exact refsT_succ _ _ _ _
 have hpn : ∀ i, (PL i).length = i := fun i => by rw [hPL]; exact putL_length _ _ _ _
 have hlast : (RF (itn P.length)).getD (itn P.length - 1) zref = RE (itn P.length - 1) := by rw [hRF, hRE]; exact refsT_get key ep P _ _ (by omega)
 have hkr : ∀ i, KR i = ((RF i).drop (fst P.length i)).take (many P.length i) := fun i => by rw [hKR, hRF]; rfl
 have hfin : (∀ k, k < P.length → (P.getD k []).length = 256) → Y = (PL (itn P.length), RE (itn P.length - 1), 0) := fun h => by rw [hfin h, hPL, hRE]; rfl
 have hdg : ∀ (i : Nat) vx wx, (∀ k, k < i + 1 → k < P.length → (P.getD k []).length = 256) → (P.length ≤ i → ∀ k, k < P.length → (P.getD k []).length = 256) → i < itn P.length → Sl wx vx (PG i) → (PG i).length = 256 → Calls Tryz.prog 39 #[.agg (u8s key).toArray, .int .u32 (V ep), .int .i64 0, .int .i64 ((2 + 2 * i : Nat) : Int), vx] wx (ThreeOwn wx (SE i) (RE i) 0) := fun i vx wx _ _ hi hx h256 => by
  have g := hdg i (PG i) vx wx h256 hi hx
  rw [hPG, hsel i] at g
  rw [hSE, hRE]
  exact g
 rw [← hPG] at hpgp hpgn hpgl
 rw [← hSE] at hsl
 rw [← hRE] at hrT
 rw [← hRF] at hrl hrwf
 have hpgn : ∀ i, P.length ≤ i → PG i = (layN (KR i)).1 := fun i hi => by rw [hpgn i hi, hKR]
 have hnok : ∀ i, (∀ k, k < P.length → (P.getD k []).length = 256) → P.length ≤ i → i < itn P.length → (layN (KR i)).2 = 0 := fun i h hi hl => by rw [hKR]; exact hnok i h hi hl
 have ly : ∀ i vx wx, SlRf wx vx (KR i) → (KR i).length ≤ 1000 → Calls Tryz.prog 38 #[vx] wx (SealEnd wx (layN (KR i)).1 (layN (KR i)).2) := fun i vx wx h hle => by rw [hKR] at h hle ⊢; exact ly i vx wx h hle
 have hkl : ∀ i, P.length ≤ i → i < itn P.length → (KR i).length = many P.length i := fun i a c => by rw [hKR]; exact hkl i a c
 clear hsel hKR hPG hSE hRE hRF hPL hkw hY
 unfold MkEnd
 have hcp : ∃ a c, v = .slice a P.length c := by obtain ⟨a, c, e, _⟩ := hs; exact ⟨a, c, e⟩
 obtain ⟨av, cv, rfl⟩ := hcp
 obtain ⟨p, hp⟩ : ∃ p, p = P.length := ⟨_, rfl⟩
 rw [← hp] at hit ng bk kd hbad hgood hfin hdb hdg hpgp hpgn hnok hpgl hkl hkn hk6 hkr hlast hsl hp0 hp1 hs ⊢
 obtain ⟨m, hm⟩ : ∃ m, m = itn p := ⟨_, rfl⟩
 rw [← hm] at hit bk kd hfin hdb hdg hnok hpgl hkl hkn hlast hsl
 obtain ⟨mn, hmn⟩ : ∃ f, f = many p := ⟨_, rfl⟩
 obtain ⟨fs, hfs⟩ : ∃ f, f = fst p := ⟨_, rfl⟩
 rw [← hmn] at kd hkn hk6 hkl hkr
 rw [← hfs] at hkn hkr
 have kzl : ∀ i, (kz p i (mn i)).length = mn i := fun i => kz_length _ _ _
 have kzg : ∀ i t, t < mn i → (kz p i (mn i)).getD t 0 = ((fs i + t : Nat) : Int) := fun i t ht => by rw [hfs]; exact kz_get _ _ _ _ ht
 obtain ⟨KZ1, hKZ1⟩ : ∃ f : Nat → List Int, f = fun i => kz p i (mn i) := ⟨_, rfl⟩
 have kd : ∀ (i : Nat) vL vF wx, RS wx p vL vF → p ≤ i → i < m → Calls Tryz.prog 37 #[.agg (rsC p vL vF), .int .i64 (i : Int)] wx (IEnd wx (KZ1 i)) := fun i vL vF wx h a c => by rw [hKZ1]; exact kd i vL vF wx h a c
 have kzl : ∀ i, (KZ1 i).length = mn i := fun i => by rw [hKZ1]; exact kzl i
 have kzg : ∀ i t, t < mn i → (KZ1 i).getD t 0 = ((fs i + t : Nat) : Int) := fun i t ht => by rw [hKZ1]; exact kzg i t ht
 have zl : (zL p).length = m := by rw [zL_length, hm]
 obtain ⟨ZL, hZL⟩ : ∃ Z, Z = zL p := ⟨_, rfl⟩
 have kc : (u8s key).toArray.size = 32 := by simp [u8s_length, lk]
 obtain ⟨KC, hKC⟩ : ∃ K, K = (u8s key).toArray := ⟨_, rfl⟩
 rw [← hKC] at hdg hdb kc ⊢
 have hxr := zeroRfR
 have hbr := buildRR14
 have halr := allocRR14
 obtain ⟨Z, hZ⟩ : ∃ Z, Z = refC zref := ⟨_, rfl⟩
 have zs : Z.size = 34 := by rw [hZ]; exact refC_size zref_wf
 have zo : Z.all (·.oneCell') = true := by rw [hZ]; exact refC_one zref
 rw [← hZ] at hxr hbr halr
 have ALR := zh halr
 clear halr
 have hx := zeroShR
 obtain ⟨X, hX⟩ : ∃ C, C = rsC 0 (.slice none 0 0) (.slice none 0 0) := ⟨_, rfl⟩
 have xs : X.size = 3 := by rw [hX]; rfl
 rw [← hX] at hx
 have a0 : At ((w.alloc (.cells KC 22)).alloc (.cells Z 36)) w.heap.size KC 22 := (at_new w _ _).alloc _
 have az : At ((w.alloc (.cells KC 22)).alloc (.cells Z 36)) (w.heap.size + 1) Z 36 := by
  have h := at_new (w.alloc (.cells KC 22)) Z 36
  simpa using h
 have b4 : Below w.heap.size w ((w.alloc (.cells KC 22)).alloc (.cells Z 36)) := ((Below.refl _ _).alloc (Nat.le_refl _) _).alloc (by simp) _
 have NG := zh ng; have BK := zh bk; have KD := zh kd; have HDG := zh hdg; have HDB := zh hdb; have BAD := zh hbad; have FIN := zh hfin; have PGP := zh hpgp; have PGN := zh hpgn; have NOK := zh hnok; have PGL := zh hpgl; have LY := zh ly; have KL := zh hkl; have KN := zh hkn; have K6 := zh hk6; have RL := zh hrl; have RWF := zh hrwf; have RT := zh hrT; have SL1 := zh hsl; have Z1 := zh hz1; have Z2 := zh hz2; have PS := zh hps; have RSS := zh hrs; have PN := zh hpn; have LAST := zh hlast; have KR1 := zh hkr; have KZL := zh kzl; have KZG := zh kzg; have ZL1 := zh zl; have KS := zh kc; have ZS := zh zs; have ZO := zh zo; have XS := zh xs; have BR := zh hbr; have A0 := zh a0; have AZ := zh az; have B4 := zh b4; have HS := zh hs; have HP := zh hp; have GLE := zh hgl; have HZ := zh hZ
 clear ng bk kd hdg hdb hbad hfin hpgp hpgn hnok hpgl ly hkl hkn hk6 hrl hrwf hrT hsl hz1 hz2 hps hrs hpn hlast hkr kzl kzg zl kc zs zo xs hbr a0 az b4 hs hp hgl hgood hl hKC hZ hX hm hmn hfs hKZ1 hZL lk
 clear hdg hfin hpgn hnok ly hkl kd kzl kzg
 go_enter Tryz.func10, Tryz.ntmps10
 go_upto_region 1 with fail
 generalize (w.alloc (.cells KC 22)).alloc (.cells Z 36) = w4 at *
 go_wp2_with fail
 refine (NG.out _).mono ?_
 rintro e w5 ⟨vL, vF, rfl, hR, hb5⟩
 obtain ⟨aL, cL, eL⟩ := hR.l.hdn ZL1.out
 subst eL
 obtain ⟨C, hC⟩ : ∃ C, C = rsC p (.slice aL m cL) vF := ⟨_, rfl⟩
 have cs : C.size = 3 := by rw [hC]; rfl
 have co : C.all (·.oneCell') = true := by rw [hC]; exact RS.oneC hR
 have c1 : C[1]? = some (.slice aL m cL) := by rw [hC]; rfl
 have bC := fun i wx h hi => BK.out i (.slice aL m cL) vF wx h hi
 have kC := fun i wx h a c => KD.out i (.slice aL m cL) vF wx h a c
 rw [← hC] at bC kC ⊢
 have B5 : Hid (Below w.heap.size w (w5.alloc (.cells C 60))) := zh ((B4.out.trans (hb5.mono B4.out.size)).alloc (Nat.le_trans B4.out.size hb5.size) _)
 have A05 := zh ((A0.out.below hb5 A0.out.lt).alloc (.cells C 60)); have AZ5 := zh ((AZ.out.below hb5 AZ.out.lt).alloc (.cells C 60))
 have C5 := zh (at_new w5 C 60)
 have R5 := zh (hR.below ((Below.refl _ _).alloc (Nat.le_refl _) (.cells C 60)))
 have BC := zh bC; have KC1 := zh kC; have CS := zh cs; have CO := zh co; have C1 := zh c1
 clear hb5 hR bC kC cs co c1 hC
 go_upto_region 2 with (refine wpList_store_new zr 60 _ _ zr zr C _ _ zr zr (by rw [CS.out]; exact infoRS) (by rw [CS.out, XS.out]) CO.out ?_)
 clear hx A0 AZ B4
 obtain ⟨bs, hbs⟩ : ∃ bs, bs = w5.heap.size := ⟨_, rfl⟩
 rw [← hbs] at C5 ⊢
 clear hbs
 generalize (w5.alloc (.cells C 60)) = w6 at *
 have J6 : Hid (RkI w6 w6 (.slice none 0 0) (.slice none 0 0) (fun _ => False) [] (PL 0) (RF 0)) := zh (by
  rw [Z1.out, Z2.out]
  exact ⟨Below.refl _ _, trivial, ownsRow_nil0 _ _ _ _, ownsRow_nil0 _ _ _ _, fun k hk => hk.elim⟩)
 go_wp2_with fail
 go_loopw [11, 12, 13] (fun va vb vi wr => ∃ vp vr : Value, vp = va ∧ vr = vb ∧ ∃ i : Nat, i ≤ m ∧ vi = .int .i64 (i : Int) ∧ (∃ D ws, RkI w6 wr vp vr D ws (PL i) (RF i)) ∧ (∀ k, k < i → k < p → (P.getD k []).length = 256)) (fun _ _ vi _ => m - (intOf vi).toNat)
 case atStart => exact ⟨_, _, rfl, rfl, 0, by omega, rfl, ⟨_, _, J6.out⟩, fun k hk => by omega⟩
 case round =>
  clear J6
  obtain ⟨vp, vr, rfl, rfl, i, hi, rfl, ⟨D, ws, hI⟩, hal⟩ := hrel
  have IW := zh hI; have AL := zh hal
  have CW := zh (C5.out.below hI.b C5.out.lt); have RW := zh (R5.out.below hI.b); have AW := zh (A05.out.below hI.b A05.out.lt); have ZW := zh (AZ5.out.below hI.b AZ5.out.lt)
  have BW : Hid (Below w.heap.size w wr) := zh (B5.out.trans (hI.b.mono B5.out.size))
  have hown : OwnRf wr w6.heap.size 36 vr (RF i) := hI.ro
  have SW := zh (own_slrf hown (RWF.out i))
  obtain ⟨ar, cr, rfl⟩ := rows_hd hI.ro
  obtain ⟨ap, cp, rfl⟩ := rows_hd hI.po
  rw [RL.out] at SW IW ⊢
  rw [PN.out] at IW ⊢
  have cl0 : wr.cell? ⟨bs, 1, none⟩ = some (.slice aL m cL) := (CW.out.cell 1).trans C1.out
  clear hI hown hal
  by_cases hlt : i < m
  ·have hlt2 : (i : Int) < (m : Int) := by omega
   go_upto_if 38 with fail
   clear cl0
   go_cut [14, 15] (fun x _ wx => ∃ vg, vg = x ∧ Sl wx vg (PG i) ∧ (p ≤ i → ∀ k, k < p → (P.getD k []).length = 256) ∧ Below wr.heap.size wr wx)
   case first =>
    by_cases hip : i < p
    ·have hip2 : (i : Int) < (p : Int) := by omega
     obtain ⟨pb, po, vi, ea, hpb, hcell, hsl⟩ := sls_at (HS.out.below BW.out) (i := i) (by rw [← HP.out]; exact hip)
     subst ea
     obtain ⟨a1, c1, rfl⟩ := sl_inv hsl
     rw [← PGP.out i hip] at hcell hsl
     obtain ⟨nx, hnx⟩ : ∃ nx, nx = (PG i).length := ⟨_, rfl⟩
     rw [← hnx] at hcell hsl
     have S1 := zh hsl
     clear hsl hnx hpb
     go_wp2_with fail
     go_meet
     exact ⟨_, rfl, S1.out, fun h => absurd h (by omega), Below.refl _ _⟩
    ·have hip2 : ¬ (i : Int) < (p : Int) := by omega
     have hpi : p ≤ i := by omega
     have hall : ∀ k, k < p → (P.getD k []).length = 256 := fun k hk => AL.out k (by omega) hk
     have hno := NOK.out i hall hpi hlt
     have hly := LY.out i
     rw [hno] at hly
     rw [← PGN.out i hpi] at hly
     have hkl := KL.out i hpi hlt
     obtain ⟨k1, k2⟩ := KN.out i hpi hlt
     have k6 := K6.out i
     have hkr := KR1.out i
     have hzl := KZL.out i
     have hzg := KZG.out i
     obtain ⟨f, hf⟩ : ∃ f, f = fs i := ⟨_, rfl⟩
     obtain ⟨c, hc⟩ : ∃ c, c = mn i := ⟨_, rfl⟩
     obtain ⟨Kz, hKz⟩ : ∃ K, K = KZ1 i := ⟨_, rfl⟩
     rw [← hf] at k2 hkr hzg
     rw [← hc] at hkl k1 k2 k6 hkr hzl hzg
     rw [← hKz] at hzl hzg
     have kdi := KC1.out i wr RW.out hpi hlt
     rw [← hKz] at kdi
     have HALL := zh hall; have HLY := zh hly; have HKL := zh hkl; have HKR := zh hkr; have HZL := zh hzl; have HZG := zh hzg; have KDI := zh kdi
     clear hall hno hly hkl hkr hzl hzg kdi hf hc hKz
     go_wp2_with (refine wpList_load_all zr 60 _ zr bs zr _ Tryz.underlying60 zr C _ CW.out (by rw [CS.out]; exact infoRS) ?_)
     refine (KDI.out).mono ?_
     rintro e w7 ⟨vz, rfl, hz, hb7⟩
     obtain ⟨az, cz, ez⟩ := hz.hdn HZL.out
     subst ez
     obtain ⟨zb, zo, ea, hzl2, _⟩ := sli_at (i := 0) hz HZL.out.symm (by omega)
     subst ea
     have Q7 := zh hb7
     have ZC : Hid (∀ y, Below w7.heap.size w7 y → y.cell? ⟨zb, zo + 0, none⟩ = some (.int .i64 (f : Int))) := zh fun y hy => by
      have g := sli_cell (i := 0) (hz.below hy) HZL.out.symm (by omega)
      rw [HZG.out 0 (by omega), Nat.add_zero] at g
      exact g
     obtain ⟨rb, ro, ea, hrl, _⟩ := slrf_at (i := 0) SW.out (RL.out i).symm (by omega)
     subst ea
     have hcr : i ≤ cr := by
      obtain ⟨_, a', cap', e, hc', _⟩ := ownsRow_slR IW.out.ro
      injection e with _ _ e3
      have := RL.out i
      omega
     have hpv : SlRf w7.drew (.slice (some ⟨rb, ro + f * 34, none⟩) (f + c - f) (cr - f)) (KR i) := by
      have g := slrf_piece ((SW.out.below hb7).below (Below.refl _ _).drew) (RL.out i).symm (k := f) (m := f + c) (by omega) (by omega)
      rw [Nat.add_sub_cancel_left] at g ⊢
      rw [HKR.out]; exact g
     have PV := zh hpv
     clear hz hb7 hzl2 hrl hpv
     go_upto_region 13 with fail
     have D7 : Hid (Below w7.heap.size w7 w7.drew) := zh (Below.refl _ _).drew
     refine wp_region_plan_in (fun y => Below w7.heap.size w7 y) (.take 0 (.take 1 (.take 2 (.take 3 (.take 4 (.take 5 (.take 6 (.take 7 (.take 8 (.take 9 (.take 10 (.sole 11 (.take 12 (.take 13 (.take 14 (.take 15 .done)))))))))))))))) (by kernel_rfl) (by kernel_rfl) (by kernel_rfl) D7.out ?_
     (first | refine Mem.pm1 ?_ | refine Mem.pm2 ?_ | refine Mem.pt ?_ | refine Mem.pf ?_)
     (simp only [Act.put, Mem.pa, Mem.pb, Mem.pc])
     (first | refine Mem.pm1 ?_ | refine Mem.pm2 ?_ | refine Mem.pt ?_ | refine Mem.pf ?_)
     (simp only [Act.put, Mem.pa, Mem.pb, Mem.pc])
     refine plan_index 58 3 _ _ zb zo c cz 0 zr zr zr Mem.ev_a zr (by omega) Tryz.underlying58 infoInt ?_
     (simp only [Act.put, Mem.pa, Mem.pb, Mem.pc])
     refine plan_cell 3 _ _ (.int .i64 (f : Int)) _ zr zr zr Mem.ev_a (fun w' hw' => ZC.out w' hw') Tryz.underlying3 zr ?_
     (simp only [Act.put, Mem.pa, Mem.pb, Mem.pc])
     (first | refine Mem.pm1 ?_ | refine Mem.pm2 ?_ | refine Mem.pt ?_ | refine Mem.pf ?_)
     (simp only [Act.put, Mem.pa, Mem.pb, Mem.pc])
     refine plan_index 58 3 _ _ zb zo c cz 0 zr zr zr Mem.ev_a zr (by omega) Tryz.underlying58 infoInt ?_
     (simp only [Act.put, Mem.pa, Mem.pb, Mem.pc])
     refine plan_cell 3 _ _ (.int .i64 (f : Int)) _ zr zr zr Mem.ev_a (fun w' hw' => ZC.out w' hw') Tryz.underlying3 zr ?_
     (simp only [Act.put, Mem.pa, Mem.pb, Mem.pc])
     (first | refine Mem.pm1 ?_ | refine Mem.pm2 ?_ | refine Mem.pt ?_ | refine Mem.pf ?_)
     (simp only [Act.put, Mem.pa, Mem.pb, Mem.pc])
     refine plan_len _ _ _ _ c _ zr zr zr zr Mem.ev_a (fun wx => by go_simp) ?_
     (simp only [Act.put, Mem.pa, Mem.pb, Mem.pc])
     refine plan_bin _ _ _ _ _ (.int .i64 (f : Int)) (.int .i64 (c : Int)) (.int .i64 ((f + c : Nat) : Int)) zr zr zr Mem.ev_a Mem.ev_a (fun wx => o_plus14 f c (by omega) (by omega) _ _ _ _ wx) ?_
     (simp only [Act.put, Mem.pa, Mem.pb, Mem.pc])
     refine plan_piece_rf _ _ _ _ zr zr zr 36 Tryz.underlying67 infoRfR rb ro i cr f (f + c) Mem.ev_a Mem.ev_a Mem.ev_a (by omega) (by omega) (by omega) ?_
     (simp only [Act.put, Mem.pa, Mem.pb, Mem.pc])
     refine plan_call 38 _ _ _ (by kernel_rfl) zr zr zr (by first | exact Mem.ev_none _ | (simp only [List.map_toArray, List.map_cons, List.map_nil, Mem.ev_tmp, List.getD_cons_succ, List.getD_cons_zero] <;> rfl)) ?_
     refine (HLY.out _ _ PV.out (by rw [HKL.out]; omega)).mono ?_
     rintro o8 w8 ⟨vg, rfl, hg, hb8⟩
     have G8 := zh hg
     have Q8 : Hid (Below w7.heap.size w7 w8) := zh (D7.out.trans (hb8.mono (Nat.le_refl _)))
     clear hg hb8
     refine ⟨_, rfl, Q8.out, ?_⟩
     (simp only [Act.put, Mem.pa, Mem.pb, Mem.pc])
     (first | refine Mem.pm1 ?_ | refine Mem.pm2 ?_ | refine Mem.pt ?_ | refine Mem.pf ?_)
     (simp only [Act.put, Mem.pa, Mem.pb, Mem.pc])
     refine plan_extract _ 0 _ _ zr zr zr Mem.ev_a zr ?_
     (simp only [Act.put, Mem.pa, Mem.pb, Mem.pc])
     refine plan_extract _ 1 _ (.int .i64 0) zr zr zr Mem.ev_a zr ?_
     (simp only [Act.put, Mem.pa, Mem.pb, Mem.pc])
     (first | refine Mem.pm1 ?_ | refine Mem.pm2 ?_ | refine Mem.pt ?_ | refine Mem.pf ?_)
     (simp only [Act.put, Mem.pa, Mem.pb, Mem.pc])
     refine plan_nil ?_
     go_wp2_with fail
     go_meet
     exact ⟨_, rfl, G8.out, fun _ => HALL.out, Q7.out.trans (Q8.out.mono Q7.out.size)⟩
   case rest =>
    obtain ⟨vg, rfl, hg, hal2, hbc⟩ := hcut
    obtain ⟨wy, rfl⟩ : ∃ y, y = wc := ⟨_, rfl⟩
    have AC := zh (AW.out.below hbc AW.out.lt); have CC := zh (CW.out.below hbc CW.out.lt); have ZC := zh (ZW.out.below hbc ZW.out.lt); have RC := zh (RW.out.below hbc); have BCW : Hid (Below w.heap.size w wy) := zh (BW.out.trans (hbc.mono BW.out.size)); have IC := zh (IW.out.below hbc); have G0 := zh hg; have AL2 := zh hal2
    clear hg hal2 hbc
    obtain ⟨q, hq⟩ : ∃ q, q = 2 + 2 * i := ⟨_, rfl⟩
    have hdg := HDG.out i
    have hdb := HDB.out i (PG i) vg
    have hbk := BC.out i
    rw [← hq] at hdg hdb hbk
    have hps := PS.out i
    rw [← hq] at hps
    have hsize := PGL.out i
    by_cases h256 : (PG i).length = 256
    ·have hal3 : ∀ k, k < i + 1 → k < p → (P.getD k []).length = 256 := fun k hk hkp => by
      rcases Nat.lt_or_ge k i with a | a
      ·exact AL.out k a hkp
      ·have e : k = i := by omega
       rw [e, ← PGP.out i (by omega)]; exact h256
     have HD := zh (fun wx hx => hdg vg wx hal3 AL2.out hlt hx h256)
     have BKI := zh (fun wx h => hbk wx h hlt); have HPS := zh hps; have AL3 := zh hal3; have RE1 := zh (RT.out i)
     have rs := refC_size (RT.out i); have ro := refC_one (RE i)
     have hxr2 := hxr
     obtain ⟨M, hM⟩ : ∃ M, M = refC (RE i) := ⟨_, rfl⟩
     unfold ThreeOwn at HD
     rw [← hM] at HD rs ro
     have HM : Hid (refL (RE i) = M.toList) := zh (by rw [hM]; rfl)
     have MS := zh rs; have MO := zh ro
     clear hdg hdb hbk hps hsize h256 hal3 rs ro hM hq
     go_upto_region 14 with fail
     go_cut [16, 17, 18] (fun x y z wx => ∃ vh bq, vh = x ∧ y = .pointer (some ⟨bq, 0, none⟩) ∧ z = .int .i64 0 ∧ At wx bq M 36 ∧ wy.heap.size ≤ bq ∧ wx.ownsRow wy.heap.size 5 1 vh (SE i).length (u8s (SE i)) ∧ Below wy.heap.size wy wx)
     case first =>
      have D0 : Hid (Below wy.heap.size wy wy.drew) := zh (Below.refl _ _).drew
      refine wp_region_plan_in (fun y => Below wy.heap.size wy y) (.take 0 (.take 1 (.take 2 (.take 3 (.take 5 (.two 4 11 (.two 6 11 (.take 7 (.take 8 (.take 9 (.take 10 (.sole 11 (.take 12 (.sole 13 (.take 14 .done)))))))) (.sole 6 (.take 7 (.take 8 (.take 9 (.take 10 (.take 12 (.sole 13 (.take 14 .done))))))))) (.sole 4 (.sole 6 (.take 7 (.take 8 (.take 9 (.take 10 (.take 12 (.sole 13 (.take 14 .done))))))))))))))) (by kernel_rfl) (by kernel_rfl) (by kernel_rfl) D0.out ?_
      refine plan_row 22 _ w.heap.size _ KC 22 zr zr zr Mem.ev_a (fun w' hw' => AC.out.below hw' AC.out.lt) Tryz.underlying22 zr (by rw [KS.out]; kernel_rfl) ?_
      (simp only [Act.put, Mem.pa, Mem.pb, Mem.pc])
      (first | refine Mem.pm1 ?_ | refine Mem.pm2 ?_ | refine Mem.pt ?_ | refine Mem.pf ?_)
      (simp only [Act.put, Mem.pa, Mem.pb, Mem.pc])
      refine plan_row 60 _ bs _ C 60 zr zr zr Mem.ev_a (fun w' hw' => CC.out.below hw' CC.out.lt) Tryz.underlying60 zr (by rw [CS.out]; exact infoRS) ?_
      (simp only [Act.put, Mem.pa, Mem.pb, Mem.pc])
      (first | refine Mem.pm1 ?_ | refine Mem.pm2 ?_ | refine Mem.pt ?_ | refine Mem.pf ?_)
      (simp only [Act.put, Mem.pa, Mem.pb, Mem.pc])
      (first | refine Mem.pm1 ?_ | refine Mem.pm2 ?_ | refine Mem.pt ?_ | refine Mem.pf ?_)
      (simp only [Act.put, Mem.pa, Mem.pb, Mem.pc])
      refine plan_two ?_ ?_
      ·skip
       refine plan_call 40 _ _ _ (by kernel_rfl) zr zr zr (by first | exact Mem.ev_none _ | (simp only [List.map_toArray, List.map_cons, List.map_nil, Mem.ev_tmp, List.getD_cons_succ, List.getD_cons_zero] <;> rfl)) ?_
       refine (BKI.out wy.drew (RC.out.below D0.out)).mono ?_
       rintro e x1 ⟨rfl, hb⟩
       have Dx1 : Hid (Below wy.heap.size wy x1) := zh (D0.out.trans (hb.mono D0.out.size))
       clear hb
       refine ⟨_, rfl, Dx1.out, ?_⟩
       (simp only [Act.put, Mem.pa, Mem.pb, Mem.pc])
       refine plan_two ?_ ?_
       ·skip
        refine plan_call 39 _ _ _ (by kernel_rfl) zr zr zr (by first | exact Mem.ev_none _ | (simp only [List.map_toArray, List.map_cons, List.map_nil, Mem.ev_tmp, List.getD_cons_succ, List.getD_cons_zero] <;> rfl)) ?_
        refine (HD.out x1 (G0.out.below Dx1.out)).mono ?_
        rintro e x2 ⟨vh, rfl, ho, hb⟩
        have Dx2 : Hid (Below wy.heap.size wy x2) := zh (Dx1.out.trans (hb.mono Dx1.out.size))
        have Tx2 := zh (ownsRow_base ho Dx1.out.size)
        clear hb ho
        refine ⟨_, rfl, Dx2.out, ?_⟩
        (simp only [Act.put, Mem.pa, Mem.pb, Mem.pc])
        (first | refine Mem.pm1 ?_ | refine Mem.pm2 ?_ | refine Mem.pt ?_ | refine Mem.pf ?_)
        (simp only [Act.put, Mem.pa, Mem.pb, Mem.pc])
        refine plan_extract _ 0 _ vh zr zr zr Mem.ev_a zr ?_
        (simp only [Act.put, Mem.pa, Mem.pb, Mem.pc])
        refine plan_extract _ 1 _ (.agg M) zr zr zr Mem.ev_a zr ?_
        (simp only [Act.put, Mem.pa, Mem.pb, Mem.pc])
        refine plan_extract _ 2 _ (.int .i64 0) zr zr zr Mem.ev_a zr ?_
        (simp only [Act.put, Mem.pa, Mem.pb, Mem.pc])
        refine plan_alloc_any _ Z zr zr zr ALR.out (fun W' h => h _ _ Dx2.out Dx2.out.size) ?_
        intro bq x3 ha hge _ hk
        have Dx3 : Hid (Below wy.heap.size wy x3) := zh (hk _ _ Dx2.out Dx2.out.size)
        have Ax3 := zh ha; have GE : Hid (wy.heap.size ≤ bq) := zh (Nat.le_trans Dx2.out.size hge)
        have NB : Hid (∀ g, vh.ownBlock = some g → g ≠ bq) := zh fun g hg => by have := (World.ownsRow.lt Tx2.out g hg).2; omega
        have Tx3 := zh (ownsRow_below Tx2.out (hk _ _ (Below.refl _ _) (Nat.le_refl _)))
        clear ha hge hk
        (simp only [Act.put, Mem.pa, Mem.pb, Mem.pc])
        (first | refine Mem.pm1 ?_ | refine Mem.pm2 ?_ | refine Mem.pt ?_ | refine Mem.pf ?_)
        (simp only [Act.put, Mem.pa, Mem.pb, Mem.pc])
        refine plan_store _ _ _ bq M Z 36 zr zr zr zr Mem.ev_a Mem.ev_a (by rw [MS.out]; exact infoRfR) Ax3.out (by rw [MS.out, ZS.out]) MO.out (below_row Dx3.out GE.out M) ?_
        (first | refine Mem.pm1 ?_ | refine Mem.pm2 ?_ | refine Mem.pt ?_ | refine Mem.pf ?_)
        (simp only [Act.put, Mem.pa, Mem.pb, Mem.pc])
        refine plan_nil ?_
        go_wp2_with fail
        go_meet
        exact ⟨_, bq, rfl, rfl, rfl, Ax3.out.row M, GE.out, ownsRow_keep Tx3.out (fun g hg => setRow_other _ bq g M (NB.out g hg)), below_row Dx3.out GE.out M⟩
       ·skip
        refine plan_alloc_any _ Z zr zr zr ALR.out (fun W' h => h _ _ Dx1.out Dx1.out.size) ?_
        intro bq x4 ha hge _ hk
        have Dx4 : Hid (Below wy.heap.size wy x4) := zh (hk _ _ Dx1.out Dx1.out.size)
        have Ax4 := zh ha; have GE : Hid (wy.heap.size ≤ bq) := zh (Nat.le_trans Dx1.out.size hge)
        clear ha hge hk
        (simp only [Act.put, Mem.pa, Mem.pb, Mem.pc])
        refine plan_call 39 _ _ _ (by kernel_rfl) zr zr zr (by first | exact Mem.ev_none _ | (simp only [List.map_toArray, List.map_cons, List.map_nil, Mem.ev_tmp, List.getD_cons_succ, List.getD_cons_zero] <;> rfl)) ?_
        refine (HD.out x4 (G0.out.below Dx4.out)).mono ?_
        rintro e x5 ⟨vh, rfl, ho, hb⟩
        have Dx5 : Hid (Below wy.heap.size wy x5) := zh (Dx4.out.trans (hb.mono Dx4.out.size))
        have Tx5 := zh (ownsRow_base ho Dx4.out.size)
        have Ax5 := zh (Ax4.out.below hb Ax4.out.lt)
        have NB : Hid (∀ g, vh.ownBlock = some g → g ≠ bq) := zh fun g hg => by have := (World.ownsRow.lt ho g hg).1; have := Ax4.out.lt; omega
        clear hb ho
        refine ⟨_, rfl, Dx5.out, ?_⟩
        (simp only [Act.put, Mem.pa, Mem.pb, Mem.pc])
        (first | refine Mem.pm1 ?_ | refine Mem.pm2 ?_ | refine Mem.pt ?_ | refine Mem.pf ?_)
        (simp only [Act.put, Mem.pa, Mem.pb, Mem.pc])
        refine plan_extract _ 0 _ vh zr zr zr Mem.ev_a zr ?_
        (simp only [Act.put, Mem.pa, Mem.pb, Mem.pc])
        refine plan_extract _ 1 _ (.agg M) zr zr zr Mem.ev_a zr ?_
        (simp only [Act.put, Mem.pa, Mem.pb, Mem.pc])
        refine plan_extract _ 2 _ (.int .i64 0) zr zr zr Mem.ev_a zr ?_
        (simp only [Act.put, Mem.pa, Mem.pb, Mem.pc])
        (first | refine Mem.pm1 ?_ | refine Mem.pm2 ?_ | refine Mem.pt ?_ | refine Mem.pf ?_)
        (simp only [Act.put, Mem.pa, Mem.pb, Mem.pc])
        refine plan_store _ _ _ bq M Z 36 zr zr zr zr Mem.ev_a Mem.ev_a (by rw [MS.out]; exact infoRfR) Ax5.out (by rw [MS.out, ZS.out]) MO.out (below_row Dx5.out GE.out M) ?_
        (first | refine Mem.pm1 ?_ | refine Mem.pm2 ?_ | refine Mem.pt ?_ | refine Mem.pf ?_)
        (simp only [Act.put, Mem.pa, Mem.pb, Mem.pc])
        refine plan_nil ?_
        go_wp2_with fail
        go_meet
        exact ⟨_, bq, rfl, rfl, rfl, Ax5.out.row M, GE.out, ownsRow_keep Tx5.out (fun g hg => setRow_other _ bq g M (NB.out g hg)), below_row Dx5.out GE.out M⟩
      ·skip
       refine plan_alloc_any _ Z zr zr zr ALR.out (fun W' h => h _ _ D0.out D0.out.size) ?_
       intro bq x6 ha hge _ hk
       have Dx6 : Hid (Below wy.heap.size wy x6) := zh (hk _ _ D0.out D0.out.size)
       have Ax6 := zh ha; have GE : Hid (wy.heap.size ≤ bq) := zh (Nat.le_trans D0.out.size hge)
       clear ha hge hk
       (simp only [Act.put, Mem.pa, Mem.pb, Mem.pc])
       refine plan_call 40 _ _ _ (by kernel_rfl) zr zr zr (by first | exact Mem.ev_none _ | (simp only [List.map_toArray, List.map_cons, List.map_nil, Mem.ev_tmp, List.getD_cons_succ, List.getD_cons_zero] <;> rfl)) ?_
       refine (BKI.out x6 (RC.out.below Dx6.out)).mono ?_
       rintro e x7 ⟨rfl, hb⟩
       have Dx7 : Hid (Below wy.heap.size wy x7) := zh (Dx6.out.trans (hb.mono Dx6.out.size))
       have Ax7 := zh (Ax6.out.below hb Ax6.out.lt)
       clear hb
       refine ⟨_, rfl, Dx7.out, ?_⟩
       (simp only [Act.put, Mem.pa, Mem.pb, Mem.pc])
       refine plan_call 39 _ _ _ (by kernel_rfl) zr zr zr (by first | exact Mem.ev_none _ | (simp only [List.map_toArray, List.map_cons, List.map_nil, Mem.ev_tmp, List.getD_cons_succ, List.getD_cons_zero] <;> rfl)) ?_
       refine (HD.out x7 (G0.out.below Dx7.out)).mono ?_
       rintro e x8 ⟨vh, rfl, ho, hb⟩
       have Dx8 : Hid (Below wy.heap.size wy x8) := zh (Dx7.out.trans (hb.mono Dx7.out.size))
       have Tx8 := zh (ownsRow_base ho Dx7.out.size)
       have Ax8 := zh (Ax7.out.below hb Ax7.out.lt)
       have NB : Hid (∀ g, vh.ownBlock = some g → g ≠ bq) := zh fun g hg => by have := (World.ownsRow.lt ho g hg).1; have := Ax7.out.lt; omega
       clear hb ho
       refine ⟨_, rfl, Dx8.out, ?_⟩
       (simp only [Act.put, Mem.pa, Mem.pb, Mem.pc])
       (first | refine Mem.pm1 ?_ | refine Mem.pm2 ?_ | refine Mem.pt ?_ | refine Mem.pf ?_)
       (simp only [Act.put, Mem.pa, Mem.pb, Mem.pc])
       refine plan_extract _ 0 _ vh zr zr zr Mem.ev_a zr ?_
       (simp only [Act.put, Mem.pa, Mem.pb, Mem.pc])
       refine plan_extract _ 1 _ (.agg M) zr zr zr Mem.ev_a zr ?_
       (simp only [Act.put, Mem.pa, Mem.pb, Mem.pc])
       refine plan_extract _ 2 _ (.int .i64 0) zr zr zr Mem.ev_a zr ?_
       (simp only [Act.put, Mem.pa, Mem.pb, Mem.pc])
       (first | refine Mem.pm1 ?_ | refine Mem.pm2 ?_ | refine Mem.pt ?_ | refine Mem.pf ?_)
       (simp only [Act.put, Mem.pa, Mem.pb, Mem.pc])
       refine plan_store _ _ _ bq M Z 36 zr zr zr zr Mem.ev_a Mem.ev_a (by rw [MS.out]; exact infoRfR) Ax8.out (by rw [MS.out, ZS.out]) MO.out (below_row Dx8.out GE.out M) ?_
       (first | refine Mem.pm1 ?_ | refine Mem.pm2 ?_ | refine Mem.pt ?_ | refine Mem.pf ?_)
       (simp only [Act.put, Mem.pa, Mem.pb, Mem.pc])
       refine plan_nil ?_
       go_wp2_with fail
       go_meet
       exact ⟨_, bq, rfl, rfl, rfl, Ax8.out.row M, GE.out, ownsRow_keep Tx8.out (fun g hg => setRow_other _ bq g M (NB.out g hg)), below_row Dx8.out GE.out M⟩
     case rest =>
      obtain ⟨vh, bq, rfl, rfl, rfl, hMq, hge, hT, hb⟩ := hcut
      clear hxr2
      have CC2 := zh (CC.out.below hb CC.out.lt); have RC2 := zh (RC.out.below hb); have B2c := zh hb; have M2 := zh hMq; have T2 := zh hT
      have rb := built_rr (RE i) RE1.out
      have rdf := fun wx => rd_rf (w := wx) (e := 36) RE1.out
      have rl := refL_one (RE i)
      have hrc : refC (RE i) = M := by rw [show refC (RE i) = (refL (RE i)).toArray from rfl, HM.out]
      rw [hrc] at rb rdf
      have RB := zh rb; have RDF := zh rdf; have RLO := zh rl
      have BLD := zh (buildRPt q); have BT := zh (builtRPt q)
      clear hMq hge hT hb rb rdf rl hrc
      go_wp2_with (refine wpList_load_all zr 60 _ zr bs zr _ Tryz.underlying60 zr C _ CC2.out (by rw [CS.out]; exact infoRS) ?_)
      refine (BKI.out _ RC2.out).mono ?_
      rintro e w8 ⟨rfl, hb8⟩
      have M8 := zh (M2.out.below hb8 M2.out.lt); have T8 := zh (ownsRow_below T2.out hb8); have B8 : Hid (Below wy.heap.size wy w8) := zh (B2c.out.trans (hb8.mono B2c.out.size))
      clear hb8 CC2 RC2 B2c M2 T2
      obtain ⟨ah, ch, rfl⟩ := rows_hd T8.out
      obtain ⟨nh, hnh⟩ : ∃ n, n = (SE i).length := ⟨_, rfl⟩
      have S8 : Hid (SlB (fun k => wy.heap.size ≤ k ∧ k < w8.heap.size) w8 (.slice ah nh ch) (SE i)) := zh (by
       rw [hnh]
       exact SlR.mono (ownsRow_slR T8.out) fun k hk hl => ⟨hk, hl⟩)
      rw [← hnh]
      clear hnh T8
      have I8 := zh (IC.out.below B8.out)
      have O8 : Hid ((w8.alloc (.cells (ptRow q (.slice ah nh ch)) 42)).ownsRow w6.heap.size 42 2 (.slice ap i cp) i (putC ws)) := zh (by
       have h := World.ownsRow.alloc I8.out.po (.cells (ptRow q (.slice ah nh ch)) 42)
       rw [PN.out] at h
       exact h)
      have Q8 : Hid (Below w8.heap.size w8 (w8.alloc (.cells (ptRow q (.slice ah nh ch)) 42))) := zh ((Below.refl _ _).alloc (Nat.le_refl _) _)
      have Z8 : Hid (w6.heap.size ≤ (w8.alloc (.cells (ptRow q (.slice ah nh ch)) 42)).heap.size) := zh (Nat.le_trans I8.out.b.size Q8.out.size)
      go_upto_region 18 with (first
       | (refine Mem.wpList_build zr 42 _ #[(0, .int .i64 (q : Int)), (1, .slice ah nh ch)] (.agg (ptRow q (.slice ah nh ch))) zr (by first | rfl | simp [Act.eval]) (fun wx => BLD.out _ _ _ wx) ?_)
       | ((refine Go.Great.wpList_buildSliceTo zr 35 42 1 _ zr _ zr _ zr Tryz.underlying35 (ptRow q (.slice ah nh ch)) (by first | (simp [Act.eval, Act.put]; exact BT.out _ _ _) | (go_simp; exact BT.out _ _ _) | (simp only [List.map_toArray, List.map_cons, List.map_nil]; exact BT.out _ _ _)) ?_))
       | (at_builtin; go_loud (refine wpList_append_app zr _ _ 35 zr (.slice (some ⟨w8.heap.size, 0, none⟩) 1 1) i 1 2 [.int .i64 (q : Int), .slice ah nh ch] (.agg #[.int .i64 0, .slice none 0 0]) 32 elemRPt zr (by decide) zr O8.out zr (by exact rdR_new (e := 42) (C := ptRow q (.slice ah nh ch))) (by simp [Value.oneCell']) (by omega) (by omega) Z8.out ?_); intro v9 w9 ho9 ha9 hb9; obtain ⟨a9, c9, rfl⟩ := rows_hd ho9; have O9 := zh ho9; have A9 := zh ha9; have B9 := zh hb9; clear ho9 ha9 hb9))
      have I9 : Hid (RkI w6 w9 (.slice a9 (i + 1) c9) (.slice ar i cr) (fun k => D k ∨ (wy.heap.size ≤ k ∧ k < w8.heap.size)) (ws ++ [(q, .slice ah nh ch)]) (PL (i + 1)) (RF i)) := zh (by
       rw [HPS.out]
       refine RkI.put IC.out B8.out S8.out (fun k hk => hk) Q8.out A9.out B9.out ?_
       rw [PN.out]; exact O9.out)
      have M9 : Hid (At w9 bq M 36) := zh (at_appd (M8.out.alloc _) A9.out (own_ne_at O8.out (M8.out.alloc _) (by decide)))
      clear O8 Q8 Z8 O9 A9 B9 S8 I8 M8 B8
      have O10 : Hid ((w9.alloc (.cells M 36)).ownsRow w6.heap.size 36 34 (.slice ar i cr) i (refCs (RF i))) := zh (by
       have h := World.ownsRow.alloc I9.out.ro (.cells M 36)
       rw [RL.out] at h
       exact h)
      have Q9 : Hid (Below w9.heap.size w9 (w9.alloc (.cells M 36))) := zh ((Below.refl _ _).alloc (Nat.le_refl _) _)
      have Z9 : Hid (w6.heap.size ≤ (w9.alloc (.cells M 36)).heap.size) := zh (Nat.le_trans I9.out.b.size Q9.out.size)
      go_wp2_with (first
       | (refine wpList_load_all zr 36 _ zr bq zr _ Tryz.underlying36 zr M _ M9.out (by rw [MS.out]; exact infoRfR) ?_)
       | ((refine Go.Great.wpList_buildSliceTo zr 67 36 1 _ zr _ zr _ zr Tryz.underlying67 M (by first | (simp [Act.eval, Act.put]; exact RB.out) | (go_simp; exact RB.out) | (simp only [List.map_toArray, List.map_cons, List.map_nil]; exact RB.out)) ?_))
       | (at_builtin; go_loud (refine wpList_append_app zr _ _ 67 zr (.slice (some ⟨w9.heap.size, 0, none⟩) 1 1) i 1 34 (refL (RE i)) (.agg (refC zref)) 48 elemRR (refC_size zref_wf) (by decide) zr O10.out zr (RDF.out w9) RLO.out (by omega) (by omega) Z9.out ?_); intro v11 w11 ho11 ha11 hb11; obtain ⟨a11, c11, rfl⟩ := rows_hd ho11; have O11 := zh ho11; have A11 := zh ha11; have B11 := zh hb11; clear ho11 ha11 hb11))
      have I11 : Hid (RkI w6 w11 (.slice a9 (i + 1) c9) (.slice a11 (i + 1) c11) (fun k => D k ∨ (wy.heap.size ≤ k ∧ k < w8.heap.size)) (ws ++ [(q, .slice ah nh ch)]) (PL (i + 1)) (RF (i + 1))) := zh (by
       rw [RSS.out]
       refine RkI.ref I9.out Q9.out A11.out B11.out ?_
       rw [RL.out]; exact O11.out)
      go_roundw
      case rel => exact ⟨_, _, rfl, rfl, i + 1, by omega, by go_num, ⟨_, _, I11.out⟩, AL3.out⟩
      case measure => simp [intOf]; omega
    ·have hip : i < p := by
      rcases Nat.lt_or_ge i p with a | a
      ·exact a
      ·exact absurd (hsize (AL2.out a) hlt) h256
     have hy := BAD.out i hip (by rw [← PGP.out i hip]; exact h256)
     have HY := zh hy
     have HD := zh (fun wx hx => hdb wx h256 (by rw [PGP.out i hip]; exact GLE.out i) hlt hx)
     have BKI := zh (fun wx h => hbk wx h hlt)
     unfold ThreeOwn at HD
     rw [← HZ.out] at HD
     clear hdg hdb hbk hps hsize h256 hy hq
     go_upto_region 14 with fail
     go_cut [16, 17, 18] (fun _ _ z wx => z = .int .i64 1 ∧ Below wy.heap.size wy wx)
     case first =>
      have D0 : Hid (Below wy.heap.size wy wy.drew) := zh (Below.refl _ _).drew
      refine wp_region_plan_in (fun y => Below wy.heap.size wy y) (.take 0 (.take 1 (.take 2 (.take 3 (.take 5 (.two 4 11 (.two 6 11 (.take 7 (.take 8 (.take 9 (.take 10 (.sole 11 (.take 12 (.sole 13 (.take 14 .done)))))))) (.sole 6 (.take 7 (.take 8 (.take 9 (.take 10 (.take 12 (.sole 13 (.take 14 .done))))))))) (.sole 4 (.sole 6 (.take 7 (.take 8 (.take 9 (.take 10 (.take 12 (.sole 13 (.take 14 .done))))))))))))))) (by kernel_rfl) (by kernel_rfl) (by kernel_rfl) D0.out ?_
      refine plan_row 22 _ w.heap.size _ KC 22 zr zr zr Mem.ev_a (fun w' hw' => AC.out.below hw' AC.out.lt) Tryz.underlying22 zr (by rw [KS.out]; kernel_rfl) ?_
      (simp only [Act.put, Mem.pa, Mem.pb, Mem.pc])
      (first | refine Mem.pm1 ?_ | refine Mem.pm2 ?_ | refine Mem.pt ?_ | refine Mem.pf ?_)
      (simp only [Act.put, Mem.pa, Mem.pb, Mem.pc])
      refine plan_row 60 _ bs _ C 60 zr zr zr Mem.ev_a (fun w' hw' => CC.out.below hw' CC.out.lt) Tryz.underlying60 zr (by rw [CS.out]; exact infoRS) ?_
      (simp only [Act.put, Mem.pa, Mem.pb, Mem.pc])
      (first | refine Mem.pm1 ?_ | refine Mem.pm2 ?_ | refine Mem.pt ?_ | refine Mem.pf ?_)
      (simp only [Act.put, Mem.pa, Mem.pb, Mem.pc])
      (first | refine Mem.pm1 ?_ | refine Mem.pm2 ?_ | refine Mem.pt ?_ | refine Mem.pf ?_)
      (simp only [Act.put, Mem.pa, Mem.pb, Mem.pc])
      refine plan_two ?_ ?_
      ·skip
       refine plan_call 40 _ _ _ (by kernel_rfl) zr zr zr (by first | exact Mem.ev_none _ | (simp only [List.map_toArray, List.map_cons, List.map_nil, Mem.ev_tmp, List.getD_cons_succ, List.getD_cons_zero] <;> rfl)) ?_
       refine (BKI.out wy.drew (RC.out.below D0.out)).mono ?_
       rintro e x1 ⟨rfl, hb⟩
       have Dx1 : Hid (Below wy.heap.size wy x1) := zh (D0.out.trans (hb.mono D0.out.size))
       clear hb
       refine ⟨_, rfl, Dx1.out, ?_⟩
       (simp only [Act.put, Mem.pa, Mem.pb, Mem.pc])
       refine plan_two ?_ ?_
       ·skip
        refine plan_call 39 _ _ _ (by kernel_rfl) zr zr zr (by first | exact Mem.ev_none _ | (simp only [List.map_toArray, List.map_cons, List.map_nil, Mem.ev_tmp, List.getD_cons_succ, List.getD_cons_zero] <;> rfl)) ?_
        refine (HD.out x1 (G0.out.below Dx1.out)).mono ?_
        rintro e x2 ⟨vh, rfl, ho, hb⟩
        have Dx2 : Hid (Below wy.heap.size wy x2) := zh (Dx1.out.trans (hb.mono Dx1.out.size))
        clear hb ho
        refine ⟨_, rfl, Dx2.out, ?_⟩
        (simp only [Act.put, Mem.pa, Mem.pb, Mem.pc])
        (first | refine Mem.pm1 ?_ | refine Mem.pm2 ?_ | refine Mem.pt ?_ | refine Mem.pf ?_)
        (simp only [Act.put, Mem.pa, Mem.pb, Mem.pc])
        refine plan_extract _ 0 _ vh zr zr zr Mem.ev_a zr ?_
        (simp only [Act.put, Mem.pa, Mem.pb, Mem.pc])
        refine plan_extract _ 1 _ (.agg Z) zr zr zr Mem.ev_a zr ?_
        (simp only [Act.put, Mem.pa, Mem.pb, Mem.pc])
        refine plan_extract _ 2 _ (.int .i64 1) zr zr zr Mem.ev_a zr ?_
        (simp only [Act.put, Mem.pa, Mem.pb, Mem.pc])
        refine plan_alloc_any _ Z zr zr zr ALR.out (fun W' h => h _ _ Dx2.out Dx2.out.size) ?_
        intro bq x3 ha hge _ hk
        have Dx3 : Hid (Below wy.heap.size wy x3) := zh (hk _ _ Dx2.out Dx2.out.size)
        have Ax3 := zh ha; have GE : Hid (wy.heap.size ≤ bq) := zh (Nat.le_trans Dx2.out.size hge)
        clear ha hge hk
        (simp only [Act.put, Mem.pa, Mem.pb, Mem.pc])
        (first | refine Mem.pm1 ?_ | refine Mem.pm2 ?_ | refine Mem.pt ?_ | refine Mem.pf ?_)
        (simp only [Act.put, Mem.pa, Mem.pb, Mem.pc])
        refine plan_store _ _ _ bq Z Z 36 zr zr zr zr Mem.ev_a Mem.ev_a (by rw [ZS.out]; exact infoRfR) Ax3.out zr ZO.out (below_row Dx3.out GE.out Z) ?_
        (first | refine Mem.pm1 ?_ | refine Mem.pm2 ?_ | refine Mem.pt ?_ | refine Mem.pf ?_)
        (simp only [Act.put, Mem.pa, Mem.pb, Mem.pc])
        refine plan_nil ?_
        go_wp2_with fail
        go_meet
        exact ⟨rfl, below_row Dx3.out GE.out Z⟩
       ·skip
        refine plan_alloc_any _ Z zr zr zr ALR.out (fun W' h => h _ _ Dx1.out Dx1.out.size) ?_
        intro bq x4 ha hge _ hk
        have Dx4 : Hid (Below wy.heap.size wy x4) := zh (hk _ _ Dx1.out Dx1.out.size)
        have Ax4 := zh ha; have GE : Hid (wy.heap.size ≤ bq) := zh (Nat.le_trans Dx1.out.size hge)
        clear ha hge hk
        (simp only [Act.put, Mem.pa, Mem.pb, Mem.pc])
        refine plan_call 39 _ _ _ (by kernel_rfl) zr zr zr (by first | exact Mem.ev_none _ | (simp only [List.map_toArray, List.map_cons, List.map_nil, Mem.ev_tmp, List.getD_cons_succ, List.getD_cons_zero] <;> rfl)) ?_
        refine (HD.out x4 (G0.out.below Dx4.out)).mono ?_
        rintro e x5 ⟨vh, rfl, ho, hb⟩
        have Dx5 : Hid (Below wy.heap.size wy x5) := zh (Dx4.out.trans (hb.mono Dx4.out.size))
        have Ax5 := zh (Ax4.out.below hb Ax4.out.lt)
        clear hb ho
        refine ⟨_, rfl, Dx5.out, ?_⟩
        (simp only [Act.put, Mem.pa, Mem.pb, Mem.pc])
        (first | refine Mem.pm1 ?_ | refine Mem.pm2 ?_ | refine Mem.pt ?_ | refine Mem.pf ?_)
        (simp only [Act.put, Mem.pa, Mem.pb, Mem.pc])
        refine plan_extract _ 0 _ vh zr zr zr Mem.ev_a zr ?_
        (simp only [Act.put, Mem.pa, Mem.pb, Mem.pc])
        refine plan_extract _ 1 _ (.agg Z) zr zr zr Mem.ev_a zr ?_
        (simp only [Act.put, Mem.pa, Mem.pb, Mem.pc])
        refine plan_extract _ 2 _ (.int .i64 1) zr zr zr Mem.ev_a zr ?_
        (simp only [Act.put, Mem.pa, Mem.pb, Mem.pc])
        (first | refine Mem.pm1 ?_ | refine Mem.pm2 ?_ | refine Mem.pt ?_ | refine Mem.pf ?_)
        (simp only [Act.put, Mem.pa, Mem.pb, Mem.pc])
        refine plan_store _ _ _ bq Z Z 36 zr zr zr zr Mem.ev_a Mem.ev_a (by rw [ZS.out]; exact infoRfR) Ax5.out zr ZO.out (below_row Dx5.out GE.out Z) ?_
        (first | refine Mem.pm1 ?_ | refine Mem.pm2 ?_ | refine Mem.pt ?_ | refine Mem.pf ?_)
        (simp only [Act.put, Mem.pa, Mem.pb, Mem.pc])
        refine plan_nil ?_
        go_wp2_with fail
        go_meet
        exact ⟨rfl, below_row Dx5.out GE.out Z⟩
      ·skip
       refine plan_alloc_any _ Z zr zr zr ALR.out (fun W' h => h _ _ D0.out D0.out.size) ?_
       intro bq x6 ha hge _ hk
       have Dx6 : Hid (Below wy.heap.size wy x6) := zh (hk _ _ D0.out D0.out.size)
       have Ax6 := zh ha; have GE : Hid (wy.heap.size ≤ bq) := zh (Nat.le_trans D0.out.size hge)
       clear ha hge hk
       (simp only [Act.put, Mem.pa, Mem.pb, Mem.pc])
       refine plan_call 40 _ _ _ (by kernel_rfl) zr zr zr (by first | exact Mem.ev_none _ | (simp only [List.map_toArray, List.map_cons, List.map_nil, Mem.ev_tmp, List.getD_cons_succ, List.getD_cons_zero] <;> rfl)) ?_
       refine (BKI.out x6 (RC.out.below Dx6.out)).mono ?_
       rintro e x7 ⟨rfl, hb⟩
       have Dx7 : Hid (Below wy.heap.size wy x7) := zh (Dx6.out.trans (hb.mono Dx6.out.size))
       have Ax7 := zh (Ax6.out.below hb Ax6.out.lt)
       clear hb
       refine ⟨_, rfl, Dx7.out, ?_⟩
       (simp only [Act.put, Mem.pa, Mem.pb, Mem.pc])
       refine plan_call 39 _ _ _ (by kernel_rfl) zr zr zr (by first | exact Mem.ev_none _ | (simp only [List.map_toArray, List.map_cons, List.map_nil, Mem.ev_tmp, List.getD_cons_succ, List.getD_cons_zero] <;> rfl)) ?_
       refine (HD.out x7 (G0.out.below Dx7.out)).mono ?_
       rintro e x8 ⟨vh, rfl, ho, hb⟩
       have Dx8 : Hid (Below wy.heap.size wy x8) := zh (Dx7.out.trans (hb.mono Dx7.out.size))
       have Ax8 := zh (Ax7.out.below hb Ax7.out.lt)
       clear hb ho
       refine ⟨_, rfl, Dx8.out, ?_⟩
       (simp only [Act.put, Mem.pa, Mem.pb, Mem.pc])
       (first | refine Mem.pm1 ?_ | refine Mem.pm2 ?_ | refine Mem.pt ?_ | refine Mem.pf ?_)
       (simp only [Act.put, Mem.pa, Mem.pb, Mem.pc])
       refine plan_extract _ 0 _ vh zr zr zr Mem.ev_a zr ?_
       (simp only [Act.put, Mem.pa, Mem.pb, Mem.pc])
       refine plan_extract _ 1 _ (.agg Z) zr zr zr Mem.ev_a zr ?_
       (simp only [Act.put, Mem.pa, Mem.pb, Mem.pc])
       refine plan_extract _ 2 _ (.int .i64 1) zr zr zr Mem.ev_a zr ?_
       (simp only [Act.put, Mem.pa, Mem.pb, Mem.pc])
       (first | refine Mem.pm1 ?_ | refine Mem.pm2 ?_ | refine Mem.pt ?_ | refine Mem.pf ?_)
       (simp only [Act.put, Mem.pa, Mem.pb, Mem.pc])
       refine plan_store _ _ _ bq Z Z 36 zr zr zr zr Mem.ev_a Mem.ev_a (by rw [ZS.out]; exact infoRfR) Ax8.out zr ZO.out (below_row Dx8.out GE.out Z) ?_
       (first | refine Mem.pm1 ?_ | refine Mem.pm2 ?_ | refine Mem.pt ?_ | refine Mem.pf ?_)
       (simp only [Act.put, Mem.pa, Mem.pb, Mem.pc])
       refine plan_nil ?_
       go_wp2_with fail
       go_meet
       exact ⟨rfl, below_row Dx8.out GE.out Z⟩
     case rest =>
      obtain ⟨rfl, hb⟩ := hcut
      have Z2c := zh (ZC.out.below hb ZC.out.lt); have BE := zh (BCW.out.trans (hb.mono BCW.out.size))
      clear hb hxr
      go_wp2_with (first
       | (refine Mem.wpList_build zr 36 _ #[] (.agg Z) zr (by simp) BR.out ?_)
       | (refine wpList_store_all zr 36 _ _ zr zr (w.heap.size + 1) Z zr zr (by rw [ZS.out]; exact infoRfR) Z 36 Z2c.out zr ZO.out ?_))
      try simp only [Exit.inBlock, Exit.then]
      refine ret_tmp_row_tmp zr (w.heap.size + 1) 36 Z _ _ _ zr zr zr (Z2c.out.row Z) Tryz.underlying36 zr (by rw [ZS.out]; exact infoRfR) ?_
      exact ⟨_, by rw [HY.out, HZ.out]; rfl, by rw [HY.out]; exact ⟨[], trivial, SlR.nil _ _ _⟩, below_row BE.out (by omega) Z⟩
  ·have him : i = m := by omega
   subst him
   have hge : ¬ (i : Int) < (i : Int) := by omega
   have hall : ∀ k, k < p → (P.getD k []).length = 256 := fun k hk => AL.out k (by omega) hk
   have hy := FIN.out hall
   have hla := LAST.out
   have rs := refC_size (RT.out (i - 1)); have ro := refC_one (RE (i - 1))
   obtain ⟨M, hM⟩ : ∃ M, M = refC (RE (i - 1)) := ⟨_, rfl⟩
   have hrm : refL (RE (i - 1)) = M.toList := by rw [hM]; rfl
   obtain ⟨rb, rof, ea, hrl, hrg⟩ := slrf_at (i := i - 1) SW.out (RL.out i).symm (by omega)
   subst ea
   rw [hla, hrm] at hrg
   rw [← hM] at rs ro
   have hrb : w6.heap.size ≤ rb := (World.ownsRow.lt IW.out.ro rb rfl).1
   have HY := zh hy; have HM := zh hM; have MS := zh rs; have MO := zh ro; have RG := zh hrg; have RBL := zh hrb
   have HI1 : Hid ((i : Int) - 1 = ((i - 1 : Nat) : Int)) := zh (by omega)
   clear hall hy hla hrm hM rs ro hrl hrg hrb
   go_upto_region 19 with fail
   refine wp_region_plan_in (fun y => y.rangeAt rb (rof + (i - 1) * 34) M.toList) (.take 0 (.take 1 (.take 2 (.take 3 (.take 4 (.take 5 (.take 6 (.take 7 (.sole 8 (.take 9 .done)))))))))) (by kernel_rfl) (by kernel_rfl) (by kernel_rfl) (fun j u hu => RG.out j u hu) ?_
   (first | refine Mem.pm1 ?_ | refine Mem.pm2 ?_ | refine Mem.pt ?_ | refine Mem.pf ?_)
   (simp only [Act.put, Mem.pa, Mem.pb, Mem.pc])
   (first | refine Mem.pm1 ?_ | refine Mem.pm2 ?_ | refine Mem.pt ?_ | refine Mem.pf ?_)
   (simp only [Act.put, Mem.pa, Mem.pb, Mem.pc])
   (first | refine Mem.pm1 ?_ | refine Mem.pm2 ?_ | refine Mem.pt ?_ | refine Mem.pf ?_)
   (simp only [Act.put, Mem.pa, Mem.pb, Mem.pc])
   refine plan_len _ _ _ _ i _ zr zr zr zr Mem.ev_a (fun wx => by go_simp) ?_
   (simp only [Act.put, Mem.pa, Mem.pb, Mem.pc])
   refine plan_bin _ _ _ _ _ (.int .i64 (i : Int)) (.int .i64 1) (.int .i64 ((i - 1 : Nat) : Int)) zr zr zr Mem.ev_a Mem.ev_a (fun wx => by rw [← HI1.out]; go_simp; exact i64_id _ (by omega) (by omega)) ?_
   (simp only [Act.put, Mem.pa, Mem.pb, Mem.pc])
   refine plan_index_z 67 36 _ _ rb rof i cr 34 (i - 1) zr zr zr Mem.ev_a Mem.ev_a (by omega) Tryz.underlying67 infoRfR ?_
   (simp only [Act.put, Mem.pa, Mem.pb, Mem.pc])
   refine plan_load_range 36 _ rb (rof + (i - 1) * 34) _ M zr zr zr Mem.ev_a (fun w' hw' => hw') Tryz.underlying36 zr (by rw [MS.out]; exact infoRfR) ?_
   (simp only [Act.put, Mem.pa, Mem.pb, Mem.pc])
   (first | refine Mem.pm1 ?_ | refine Mem.pm2 ?_ | refine Mem.pt ?_ | refine Mem.pf ?_)
   (simp only [Act.put, Mem.pa, Mem.pb, Mem.pc])
   have hw6 := B5.out.size
   have hz5 := AZ5.out.lt
   have hother : ∀ k, k ≠ w.heap.size + 1 → (wr.drew.setRow (w.heap.size + 1) M).heap[k]? = wr.heap[k]? := fun k hne => setRow_other wr.drew (w.heap.size + 1) k M hne
   refine plan_store 36 _ _ (w.heap.size + 1) M Z 36 zr zr zr zr Mem.ev_a Mem.ev_a (by rw [MS.out]; exact infoRfR) (ZW.out.drew) (by rw [MS.out, ZS.out]) MO.out (range_block RG.out (hother rb (by have := RBL.out; omega))) ?_
   (first | refine Mem.pm1 ?_ | refine Mem.pm2 ?_ | refine Mem.pt ?_ | refine Mem.pf ?_)
   (simp only [Act.put, Mem.pa, Mem.pb, Mem.pc])
   refine plan_nil ?_
   have WP : Hid (WPut (fun k => w6.heap.size ≤ k) (wr.drew.setRow (w.heap.size + 1) M) (.slice ap i cp) (PL i)) := zh (RkI.out IW.out (below_row ((Below.refl 0 wr).drew) (Nat.zero_le _) M).size fun k hk hl => hother k (by omega))
   have BE : Hid (Below w.heap.size w (wr.drew.setRow (w.heap.size + 1) M)) := zh (below_row (BW.out.drew) (by omega) M)
   have ZE := zh (At.row (C := Z) ZW.out.drew M)
   clear hother hxr
   go_wp2_with fail
   try simp only [Exit.inBlock, Exit.then]
   refine ret_tmp_row_tmp zr (w.heap.size + 1) 36 M _ _ _ zr zr zr ZE.out Tryz.underlying36 zr (by rw [MS.out]; exact infoRfR) ?_
   exact ⟨_, by rw [HY.out, HM.out]; rfl, by rw [HY.out]; exact WP.out.mono fun k hk _ => Nat.le_trans hw6 hk, BE.out⟩
theorem rmake14_any (key : List (BitVec 8)) (ep : BitVec 32) (P : List (List (BitVec 8))) (v : Value) (w : World) (lk : key.length = 32) (hs : Sls w v P) (hn : P.length ≤ 1000) (hl : ∀ x ∈ P, x.length ≤ 1000) :
 Calls Tryz.prog 10 #[.agg (u8s key).toArray, .int .u32 (V ep), v] w (MkEnd w (makeT key ep P)) := by
 by_cases h : 1 ≤ P.length ∧ P.length ≤ 216
 ·exact rmake_some key ep P v w lk hs h.1 h.2 hl
 ·rw [makeT_no (fun g => h ⟨g.1, g.2.1⟩)]
  exact rmake_bad key ep P v w hs hn (by omega)
theorem makeT_len (key : List (BitVec 8)) (ep : BitVec 32) (P : List (List (BitVec 8))) : ∀ q ∈ (makeT key ep P).1, q.2.length ≤ 1000 := by
 by_cases h : 1 ≤ P.length ∧ P.length ≤ 216 ∧ (∀ x ∈ P, x.length = 256)
 ·have hP : GoodP P := ⟨h.1, h.2.1, h.2.2⟩
  rw [makeT_ok key ep hP]
  intro q hq
  have := (puts_ok (key := key) (ep := ep) hP q hq).2
  omega
 ·unfold makeT
  rw [if_neg (fun g => h ⟨g.1, g.2.1, fun x hx => by simpa using List.all_eq_true.1 g.2.2 x hx⟩)]
  intro q hq
  cases hq
theorem makeT_few (key : List (BitVec 8)) (ep : BitVec 32) (P : List (List (BitVec 8))) : (makeT key ep P).1.length ≤ 1000 := by
 by_cases h : 1 ≤ P.length ∧ P.length ≤ 216 ∧ (∀ x ∈ P, x.length = 256)
 ·have hP : GoodP P := ⟨h.1, h.2.1, h.2.2⟩
  rw [makeT_ok key ep hP]
  have h1 := putsT_length key ep P
  have h2 := itn_big P.length h.1 h.2.1
  show (putsT key ep P).length ≤ 1000
  omega
 ·unfold makeT
  rw [if_neg (fun g => h ⟨g.1, g.2.1, fun x hx => by simpa using List.all_eq_true.1 g.2.2 x hx⟩)]
  simp
theorem makeT_wf (key : List (BitVec 8)) (ep : BitVec 32) (P : List (List (BitVec 8))) : (makeT key ep P).2.1.Wf := by
 unfold makeT
 split
 ·exact refT_wf _
 ·exact zref_wf
theorem neqRR_self {a : RefV} (ha : a.Wf) (x y : Operand) (w : World) : (do eqGuard .neq 36 x y (.agg (refC a)) (.agg (refC a)); binOp .neq 36 (.agg (refC a)) (.agg (refC a)) : Sem Value).run Tryz.prog w = .ok (.bool false) w := by
 have h := neqRR14 ha ha x y w
 rw [sameRef_self] at h
 exact h
theorem infoPtR14 : (Tryz.prog.info? 42).map (·.size) = some 2 := by kernel_rfl
theorem o_ine14 (t t2 : TypeId) (x y : Operand) (n : Int) (w : World) : (do eqGuard .neq t x y (.int .i64 n) (.int .i64 n); binOp .neq t2 (.int .i64 n) (.int .i64 n) : Sem Value).run Tryz.prog w = .ok (.bool false) w := by go_simp
set_option maxHeartbeats 8000000 in
theorem makes14_good (T : TreeP) (key : List (BitVec 8)) (ep : BitVec 32) (l : List (List (BitVec 8))) (v : Value) (w : World) (hT : TT w) (lk : key.length = 32) (hs : Sls w v l) (hf : farP l = false) :
 Calls Tryz.prog 3 #[.agg (u8s key).toArray, .int .u32 (V ep), v] w (fun e w' => e = .returned (.bool true) ∧ Below w.heap.size w w') := by
 have hno := farP_no hf
 have hln : l.length ≤ 300 := by have := hno.1; omega
 have fr := fun wx (h : Below w.heap.size w wx) => far14_any l v wx (hs.below h)
 rw [hf] at fr
 have pg := fun wx (h : Below w.heap.size w wx) => pages_any l v wx (hs.below h) (by omega)
 have hl1 : ∀ x ∈ l, x.length ≤ 1000 := fun x hx => by have := hno.2 x hx; omega
 have hl2 : ∀ x ∈ l.map pageL, x.length ≤ 1000 := fun x hx => by
  obtain ⟨y, _, rfl⟩ := List.mem_map.1 hx
  have := pageL_length y
  omega
 have hlen : (l.map pageL).length = l.length := List.length_map ..
 obtain ⟨P2, hP2⟩ : ∃ P, P = l.map pageL := ⟨_, rfl⟩
 rw [← hP2] at pg hl2 hlen
 have mk := fun P v wx (h : Below w.heap.size w wx) hs hn hl => T.make key ep P v wx (hT.below h) lk hs hn hl
 have rmk := fun P v wx hs hn hl => rmake14_any key ep P v wx lk hs hn hl
 have live := fun wx (h : Below w.heap.size w wx) => alive14_any T wx (hT.below h)
 have kc : (u8s key).toArray.size = 32 := by simp [u8s_length, lk]
 obtain ⟨MT, hMT⟩ : ∃ f, f = makeT key ep := ⟨_, rfl⟩
 have mln := makeT_len key ep
 have mwf := makeT_wf key ep
 have mfw := makeT_few key ep
 rw [← hMT] at mk rmk mln mwf mfw
 obtain ⟨KC, hKC⟩ : ∃ K, K = (u8s key).toArray := ⟨_, rfl⟩
 rw [← hKC] at mk rmk kc ⊢
 have kb : Below w.heap.size w (w.alloc (.cells KC 22)) := (Below.refl _ _).alloc (Nat.le_refl _) _
 have ka := at_new w KC 22
 obtain ⟨asx, cap, rfl, _, _⟩ := id hs
 obtain ⟨n, hn⟩ : ∃ n, n = l.length := ⟨_, rfl⟩
 have hn2 : n = P2.length := by omega
 rw [← hn] at fr pg hs hln ⊢
 have FR := zh fr; have PGG := zh pg; have MK := zh mk; have RMK := zh rmk; have LIVE := zh live; have HL1 := zh hl1; have HL2 := zh hl2; have MLN := zh mln; have MWF := zh mwf; have MFW := zh mfw; have KS := zh kc; have KB := zh kb; have KA := zh ka; have HS := zh hs; have HN := zh hn; have HN2 := zh hn2
 clear fr pg mk rmk live hl1 hl2 mln mwf mfw kc kb ka hs hn hn2 hKC hMT hP2 hlen hno hf hT lk
 go_enter Tryz.func3, Tryz.ntmps3
 go_upto_region 1 with fail
 obtain ⟨w0, hw0⟩ : ∃ w0, w0 = w.alloc (.cells KC 22) := ⟨_, rfl⟩
 rw [← hw0] at KB KA ⊢
 clear hw0
 go_wp2_with fail
 refine (FR.out _ KB.out).mono ?_
 rintro e w1 ⟨rfl, rfl⟩
 go_wp2_with fail
 refine (PGG.out _ KB.out).mono ?_
 rintro e w3 ⟨vp, rfl, hs3, hb3⟩
 obtain ⟨ap, cp, rfl, _, _⟩ := id hs3
 rw [← HN2.out] at hs3 ⊢
 have S3 := zh hs3; have B3 : Hid (Below w.heap.size w w3) := zh (KB.out.trans (hb3.mono KB.out.size)); have K3 := zh (KA.out.below hb3 KA.out.lt); have V3 := zh (HS.out.below B3.out)
 clear hs3 hb3
 go_upto_region 4 with fail
 have E4 : Below w3.heap.size w3 (w3.alloc (.cells #[.slice asx n cap, .slice ap n cp] 24)) := (Below.refl _ _).alloc (Nat.le_refl _) _
 have A4 := zh (at_new w3 #[.slice asx n cap, .slice ap n cp] 24)
 have S4 := zh (S3.out.below E4); have V4 := zh (V3.out.below E4); have K4 := zh (K3.out.below E4 K3.out.lt); have B4 : Hid (Below w.heap.size w (w3.alloc (.cells #[.slice asx n cap, .slice ap n cp] 24))) := zh (B3.out.trans (E4.mono B3.out.size))
 clear E4 S3 V3 K3 B3
 obtain ⟨s3, hs3⟩ : ∃ s, s = w3.heap.size := ⟨_, rfl⟩
 rw [← hs3] at A4 ⊢
 clear hs3
 generalize w3.alloc (.cells #[.slice asx n cap, .slice ap n cp] 24) = w4 at *
 go_loopw [24] (fun vi wr => ∃ j : Nat, j ≤ 2 ∧ vi = .int .i64 (j : Int) ∧ Below w4.heap.size w4 wr) (fun vi _ => 2 - (intOf vi).toNat)
 case atStart => exact ⟨0, by omega, rfl, Below.refl _ _⟩
 case round =>
  obtain ⟨j, hj, rfl, hbw⟩ := hrel
  have BW := zh hbw; have B0W : Hid (Below w.heap.size w wr) := zh (B4.out.trans (hbw.mono B4.out.size)); have KW := zh (K4.out.below hbw K4.out.lt); have AW := zh (A4.out.below hbw A4.out.lt)
  clear hbw
  by_cases hlt : j < 2
  ·have hlt2 : (j : Int) < (2 : Int) := by omega
   obtain ⟨a1, c1, P, hcell, hsP, hnP, hlP⟩ : ∃ a c P, wr.cell? ⟨s3, j, none⟩ = some (.slice a n c) ∧ Sls wr (.slice a n c) P ∧ P.length = n ∧ ∀ x ∈ P, x.length ≤ 1000 := by
    rcases (by omega : j = 0 ∨ j = 1) with rfl | rfl
    ·exact ⟨asx, cap, l, (AW.out.cell 0).trans rfl, V4.out.below BW.out, HN.out.symm, HL1.out⟩
    ·exact ⟨ap, cp, P2, (AW.out.cell 1).trans rfl, S4.out.below BW.out, HN2.out.symm, HL2.out⟩
   have hcell0 : wr.cell? ⟨s3, 0 + j, none⟩ = some (.slice a1 n c1) := by rw [Nat.zero_add]; exact hcell
   have mk := fun wx (h : Below wr.heap.size wr wx) => MK.out P (.slice a1 n c1) wx (B0W.out.trans (h.mono B0W.out.size)) (hsP.below h) (by omega) hlP
   have rmk := fun wx (h : Below wr.heap.size wr wx) => RMK.out P (.slice a1 n c1) wx (hsP.below h) (by omega) hlP
   have ml := MLN.out P; have mw := MWF.out P; have mf := MFW.out P
   obtain ⟨y, hy⟩ : ∃ y, y = MT P := ⟨_, rfl⟩
   rw [← hy] at mk rmk ml mw mf
   obtain ⟨L, r, er⟩ := y
   simp only at mk rmk ml mw mf
   have hne := @neqRR_self r mw
   have ms := refC_size mw; have mo := refC_one r
   unfold MkEnd at mk rmk
   simp only at mk rmk
   obtain ⟨M, hM⟩ : ∃ M, M = refC r := ⟨_, rfl⟩
   rw [← hM] at mk rmk hne ms mo
   obtain ⟨Z, hZ⟩ : ∃ Z, Z = refC zref := ⟨_, rfl⟩
   have zs : Z.size = 34 := by rw [hZ]; exact refC_size zref_wf
   have hxp := zeroRfP
   have hxr := zeroRfR
   rw [← hZ] at hxp hxr
   have MKX := zh mk; have RMX := zh rmk; have ML := zh ml; have NE := zh hne; have MS := zh ms; have MO := zh mo; have ZS := zh zs
   clear mk rmk ml hne ms mo zs hM hZ hy mw hsP hnP hlP
   go_wp2_with (refine wpList_load_all zr 22 _ zr w.heap.size zr _ Tryz.underlying22 zr KC _ KW.out (by rw [KS.out]; kernel_rfl) ?_)
   clear hcell hcell0
   refine (MKX.out _ (Below.refl _ _)).mono ?_
   rintro e w5 ⟨va, rfl, hpa, hb5⟩
   obtain ⟨aa, ca, rfl⟩ := hpa.hd
   obtain ⟨m, hm⟩ : ∃ m, m = L.length := ⟨_, rfl⟩
   have HM := zh hm
   have hm3 : m ≤ 1000 := by omega
   rw [← hm] at hpa ⊢
   clear hm
   have E6 : Below w5.heap.size w5 (w5.alloc (.cells M 31)) := (Below.refl _ _).alloc (Nat.le_refl _) _
   have D6 : Hid (Below wr.heap.size wr (w5.alloc (.cells M 31))) := zh (hb5.trans (E6.mono hb5.size))
   have M6 := zh (at_new w5 M 31)
   have PA6 := zh (WPut.keep hpa E6.size fun k _ hlt => E6.block k hlt)
   have K6 := zh (KW.out.below D6.out KW.out.lt)
   clear hpa hb5 E6
   go_upto_region 7 with (refine wpList_store_new zr 31 _ _ zr zr M _ _ zr zr (by rw [MS.out]; exact infoRfP) (by rw [MS.out, ZS.out]) MO.out ?_)
   clear hxp
   obtain ⟨s5, hs5⟩ : ∃ s, s = w5.heap.size := ⟨_, rfl⟩
   rw [← hs5] at M6 ⊢
   clear hs5
   generalize w5.alloc (.cells M 31) = w6 at *
   go_wp2_with (refine wpList_load_all zr 22 _ zr w.heap.size zr _ Tryz.underlying22 zr KC _ K6.out (by rw [KS.out]; kernel_rfl) ?_)
   refine (RMX.out _ D6.out).mono ?_
   rintro e w7 ⟨vb, rfl, hpb, hb7⟩
   obtain ⟨ab, cb, rfl⟩ := hpb.hd
   rw [← HM.out] at hpb ⊢
   have E8 : Below w7.heap.size w7 (w7.alloc (.cells M 36)) := (Below.refl _ _).alloc (Nat.le_refl _) _
   have F8 : Below w6.heap.size w6 (w7.alloc (.cells M 36)) := hb7.trans (E8.mono hb7.size)
   have D8 : Hid (Below wr.heap.size wr (w7.alloc (.cells M 36))) := zh (D6.out.trans (F8.mono D6.out.size))
   have N8 := zh (at_new w7 M 36)
   have M8 := zh (M6.out.below F8 M6.out.lt)
   have PA8 := zh (WPut.keep PA6.out F8.size fun k _ hlt => F8.block k hlt)
   have PB8 := zh (WPut.keep hpb E8.size fun k _ hlt => E8.block k hlt)
   clear hpb hb7 E8 F8 M6 PA6 K6 D6
   go_upto_region 8 with (refine wpList_store_new zr 36 _ _ zr zr M _ _ zr zr (by rw [MS.out]; exact infoRfR) (by rw [MS.out, ZS.out]) MO.out ?_)
   clear hxr
   obtain ⟨s7, hs7⟩ : ∃ s, s = w7.heap.size := ⟨_, rfl⟩
   rw [← hs7] at N8 ⊢
   clear hs7
   generalize w7.alloc (.cells M 36) = w8 at *
   go_upto_region 11 with (first
    | (refine wpList_load_all zr 31 _ zr s5 zr _ Tryz.underlying31 zr M _ M8.out (by rw [MS.out]; exact infoRfP) ?_)
    | (refine wpList_load_all zr 36 _ zr s7 zr _ Tryz.underlying36 zr M _ N8.out (by rw [MS.out]; exact infoRfR) ?_)
    | (refine wpList_bin zr .neq 36 36 _ _ (.agg M) (.agg M) (.bool false) zr zr zr (fun wx => NE.out _ _ wx) ?_))
   have B8 := zh (BW.out.trans (D8.out.mono BW.out.size))
   clear M8 N8 KW AW D8 B0W BW
   go_loopw [61] (fun vi wx => ∃ i : Nat, i ≤ m ∧ vi = .int .i64 (i : Int) ∧ Below w8.heap.size w8 wx) (fun vi _ => m - (intOf vi).toNat)
   case atStart => exact ⟨0, by omega, rfl, Below.refl _ _⟩
   case round =>
    obtain ⟨i, hi, rfl, hbx⟩ := hrel
    have BX := zh hbx; have PAX := zh (WPut.keep PA8.out hbx.size fun k _ hlt => hbx.block k hlt); have PBX := zh (WPut.keep PB8.out hbx.size fun k _ hlt => hbx.block k hlt)
    clear hbx
    by_cases hil : i < m
    ·have hil2 : (i : Int) < (m : Int) := by omega
     obtain ⟨b1, o1, v1, e1, _, cn1, ch1, hs1⟩ := lput_at PAX.out (j := i) (by rw [← HM.out]; exact hil)
     obtain ⟨b2, o2, v2, e2, _, cn2, ch2, hs2⟩ := lput_at PBX.out (j := i) (by rw [← HM.out]; exact hil)
     subst e1 e2
     have hle : (L.getD i (0, [])).2.length ≤ 1000 := by
      have hil3 : i < L.length := by rw [← HM.out]; exact hil
      rw [List.getD_eq_getElem?_getD, List.getElem?_eq_getElem hil3]
      exact ML.out _ (List.getElem_mem hil3)
     obtain ⟨qq, hqq⟩ : ∃ q, q = L.getD i (0, []) := ⟨_, rfl⟩
     rw [← hqq] at cn1 cn2 hs1 hs2 hle
     obtain ⟨q, x⟩ := qq
     simp only at cn1 cn2 hs1 hs2 hle
     have hsm := fun wx (h : Below wr.heap.size wr wx) => same_any x x v1 v2 wx (hs1.sl.below h) (hs2.sl.below h) (by omega) (by omega)
     rw [show sameB x x = true by simp [sameB]] at hsm
     have l1 := block_lt_of_cell cn1; have l2 := block_lt_of_cell cn2
     have SM := zh hsm; have L1 := zh l1; have L2 := zh l2; have CN1 := zh cn1; have CN2 := zh cn2; have CH1 := zh ch1; have CH2 := zh ch2
     clear hsm l1 l2 cn1 cn2 ch1 ch2 hs1 hs2 hle hqq
     go_upto_region 13 with fail
     have D0 : Hid (Below wr.heap.size wr wr.drew) := zh (Below.refl _ _).drew
     refine wp_region_plan_in (fun x' => Below wr.heap.size wr x') (.take 0 (.take 1 (.take 2 (.take 3 (.take 4 (.take 5 (.take 6 (.take 7 (.take 8 (.take 9 (.take 10 (.take 11 (.take 12 (.take 13 (.take 14 (.take 15 (.take 16 (.take 17 (.take 18 (.take 19 (.take 20 (.take 21 (.sole 22 (.take 23 (.take 24 .done))))))))))))))))))))))))) (by kernel_rfl) (by kernel_rfl) (by kernel_rfl) D0.out ?_
     (first | refine Mem.pm1 ?_ | refine Mem.pm2 ?_ | refine Mem.pt ?_ | refine Mem.pf ?_)
     (simp only [Act.put, Mem.pa, Mem.pb, Mem.pc])
     (first | refine Mem.pm1 ?_ | refine Mem.pm2 ?_ | refine Mem.pt ?_ | refine Mem.pf ?_)
     (simp only [Act.put, Mem.pa, Mem.pb, Mem.pc])
     refine plan_index_z 29 41 _ _ b1 o1 m ca 2 i zr zr zr Mem.ev_a Mem.ev_a (by omega) Tryz.underlying29 infoPt14 ?_
     (simp only [Act.put, Mem.pa, Mem.pb, Mem.pc])
     refine plan_field 41 _ 0 b1 (o1 + i * 2) ⟨b1, o1 + i * 2, none⟩ zr zr zr Mem.ev_a (fun wx => by go_simp) ?_
     (simp only [Act.put, Mem.pa, Mem.pb, Mem.pc])
     refine plan_cell 3 _ _ (.int .i64 (q : Int)) _ zr zr zr Mem.ev_a (fun w' hw' => (hw'.cell (p := ⟨b1, o1 + i * 2, none⟩) L1.out).trans CN1.out) Tryz.underlying3 zr ?_
     (simp only [Act.put, Mem.pa, Mem.pb, Mem.pc])
     (first | refine Mem.pm1 ?_ | refine Mem.pm2 ?_ | refine Mem.pt ?_ | refine Mem.pf ?_)
     (simp only [Act.put, Mem.pa, Mem.pb, Mem.pc])
     (first | refine Mem.pm1 ?_ | refine Mem.pm2 ?_ | refine Mem.pt ?_ | refine Mem.pf ?_)
     (simp only [Act.put, Mem.pa, Mem.pb, Mem.pc])
     refine plan_index_z 35 42 _ _ b2 o2 m cb 2 i zr zr zr Mem.ev_a Mem.ev_a (by omega) Tryz.underlying35 infoPtR14 ?_
     (simp only [Act.put, Mem.pa, Mem.pb, Mem.pc])
     refine plan_field 42 _ 0 b2 (o2 + i * 2) ⟨b2, o2 + i * 2, none⟩ zr zr zr Mem.ev_a (fun wx => by go_simp) ?_
     (simp only [Act.put, Mem.pa, Mem.pb, Mem.pc])
     refine plan_cell 3 _ _ (.int .i64 (q : Int)) _ zr zr zr Mem.ev_a (fun w' hw' => (hw'.cell (p := ⟨b2, o2 + i * 2, none⟩) L2.out).trans CN2.out) Tryz.underlying3 zr ?_
     (simp only [Act.put, Mem.pa, Mem.pb, Mem.pc])
     refine plan_bin _ _ _ _ _ _ _ (.bool false) zr zr zr Mem.ev_a Mem.ev_a (fun wx => o_ine14 _ _ _ _ _ wx) ?_
     (simp only [Act.put, Mem.pa, Mem.pb, Mem.pc])
     (first | refine Mem.pm1 ?_ | refine Mem.pm2 ?_ | refine Mem.pt ?_ | refine Mem.pf ?_)
     (simp only [Act.put, Mem.pa, Mem.pb, Mem.pc])
     (first | refine Mem.pm1 ?_ | refine Mem.pm2 ?_ | refine Mem.pt ?_ | refine Mem.pf ?_)
     (simp only [Act.put, Mem.pa, Mem.pb, Mem.pc])
     (first | refine Mem.pm1 ?_ | refine Mem.pm2 ?_ | refine Mem.pt ?_ | refine Mem.pf ?_)
     (simp only [Act.put, Mem.pa, Mem.pb, Mem.pc])
     refine plan_index_z 29 41 _ _ b1 o1 m ca 2 i zr zr zr Mem.ev_a Mem.ev_a (by omega) Tryz.underlying29 infoPt14 ?_
     (simp only [Act.put, Mem.pa, Mem.pb, Mem.pc])
     refine plan_field 41 _ 1 b1 (o1 + i * 2) ⟨b1, o1 + i * 2 + 1, none⟩ zr zr zr Mem.ev_a (fun wx => by go_simp) ?_
     (simp only [Act.put, Mem.pa, Mem.pb, Mem.pc])
     refine plan_cell 39 _ _ v1 _ zr zr zr Mem.ev_a (fun w' hw' => (hw'.cell (p := ⟨b1, o1 + i * 2 + 1, none⟩) L1.out).trans CH1.out) Tryz.underlying39 zr ?_
     (simp only [Act.put, Mem.pa, Mem.pb, Mem.pc])
     (first | refine Mem.pm1 ?_ | refine Mem.pm2 ?_ | refine Mem.pt ?_ | refine Mem.pf ?_)
     (simp only [Act.put, Mem.pa, Mem.pb, Mem.pc])
     (first | refine Mem.pm1 ?_ | refine Mem.pm2 ?_ | refine Mem.pt ?_ | refine Mem.pf ?_)
     (simp only [Act.put, Mem.pa, Mem.pb, Mem.pc])
     refine plan_index_z 35 42 _ _ b2 o2 m cb 2 i zr zr zr Mem.ev_a Mem.ev_a (by omega) Tryz.underlying35 infoPtR14 ?_
     (simp only [Act.put, Mem.pa, Mem.pb, Mem.pc])
     refine plan_field 42 _ 1 b2 (o2 + i * 2) ⟨b2, o2 + i * 2 + 1, none⟩ zr zr zr Mem.ev_a (fun wx => by go_simp) ?_
     (simp only [Act.put, Mem.pa, Mem.pb, Mem.pc])
     refine plan_cell 39 _ _ v2 _ zr zr zr Mem.ev_a (fun w' hw' => (hw'.cell (p := ⟨b2, o2 + i * 2 + 1, none⟩) L2.out).trans CH2.out) Tryz.underlying39 zr ?_
     (simp only [Act.put, Mem.pa, Mem.pb, Mem.pc])
     refine plan_call 11 _ _ _ (by kernel_rfl) zr zr zr (by first | exact Mem.ev_none _ | (simp only [List.map_toArray, List.map_cons, List.map_nil, Mem.ev_tmp, List.getD_cons_succ, List.getD_cons_zero] <;> rfl)) ?_
     refine (SM.out _ D0.out).mono ?_
     rintro e w9 ⟨rfl, hb9⟩
     have D9 : Hid (Below wr.heap.size wr w9) := zh (D0.out.trans (hb9.mono D0.out.size))
     clear hb9
     refine ⟨_, rfl, D9.out, ?_⟩
     (simp only [Act.put, Mem.pa, Mem.pb, Mem.pc])
     refine plan_not_t _ _ zr zr zr Mem.ev_a ?_
     (simp only [Act.put, Mem.pa, Mem.pb, Mem.pc])
     refine plan_pick_f _ _ _ _ zr zr zr Mem.ev_a Mem.ev_a ?_
     (simp only [Act.put, Mem.pa, Mem.pb, Mem.pc])
     refine plan_nil ?_
     have DE : Hid (Below w8.heap.size w8 w9) := zh (BX.out.trans (D9.out.mono BX.out.size))
     go_wp2_with fail
     go_roundw
     case rel => exact ⟨i + 1, by omega, by go_num, DE.out⟩
     case measure => simp [intOf]; omega
    ·have him : i = m := by omega
     have hge : ¬ (i : Int) < (m : Int) := by omega
     have DE := zh (B8.out.trans (BX.out.mono B8.out.size))
     go_wp2_with fail
     go_roundw
     case rel => exact ⟨j + 1, by omega, by go_num, DE.out⟩
     case measure => simp [intOf]; omega
  ·have hge : ¬ (j : Int) < (2 : Int) := by omega
   go_wp2_with fail
   refine (LIVE.out _ B0W.out).mono ?_
   rintro e wz ⟨rfl, hbz⟩
   have BZ : Hid (Below w.heap.size w wz) := zh (B0W.out.trans (hbz.mono B0W.out.size))
   clear hbz
   go_wp2_with fail
   go_ret
   exact ⟨rfl, BZ.out⟩
set_option maxHeartbeats 2000000 in
theorem makes14_core (T : TreeP) (key : List (BitVec 8)) (ep : BitVec 32) (l : List (List (BitVec 8))) (v : Value) (w : World) (hT : TT w) (lk : key.length = 32) (hs : Sls w v l) :
 Calls Tryz.prog 3 #[.agg (u8s key).toArray, .int .u32 (V ep), v] w (fun e w' => e = .returned (.bool true) ∧ Below w.heap.size w w') := by
 cases hg : farP l
 ·exact makes14_good T key ep l v w hT lk hs hg
 ·have fr := fun wx (h : Below w.heap.size w wx) => far14_any l v wx (hs.below h)
  rw [hg] at fr
  have live := fun wx (h : Below w.heap.size w wx) => alive14_any T wx (hT.below h)
  obtain ⟨KC, hKC⟩ : ∃ K, K = (u8s key).toArray := ⟨_, rfl⟩
  rw [← hKC]
  have kb : Below w.heap.size w (w.alloc (.cells KC 22)) := (Below.refl _ _).alloc (Nat.le_refl _) _
  obtain ⟨asx, cap, rfl, _, _⟩ := hs
  obtain ⟨n, hn⟩ : ∃ n, n = l.length := ⟨_, rfl⟩
  rw [← hn] at fr
  rw [← hn]
  have FR := zh fr; have LIVE := zh live; have KB := zh kb
  clear fr live kb hg hn hKC hT lk
  go_enter Tryz.func3, Tryz.ntmps3
  go_wp2_with fail
  refine (FR.out _ KB.out).mono ?_
  rintro e w1 ⟨rfl, rfl⟩
  go_wp2_with fail
  refine (LIVE.out _ KB.out).mono ?_
  rintro e wz ⟨rfl, hbz⟩
  have BZ : Hid (Below w.heap.size w wz) := zh (KB.out.trans (hbz.mono KB.out.size))
  clear hbz
  go_wp2_with fail
  go_ret
  exact ⟨rfl, BZ.out⟩
end Sha
end Go.Proofs.YtajdpbbbocnfiaaGreatDoor
