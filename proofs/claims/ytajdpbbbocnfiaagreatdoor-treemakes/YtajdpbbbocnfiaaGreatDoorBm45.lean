/- My own texts, merged. -/
import Derived.Test.YtajdpbbbocnfiaaGreatDoorBm44
import Derived.Test.YtajdpbbbocnfiaaGreatDoorBm20
import Derived.Test.YtajdpbbbocnfiaaGreatDoorBm26
import Derived.Test.YtajdpbbbocnfiaaGreatDoorBm05
import Derived.Test.YtajdpbbbocnfiaaGreatDoorBm40
import Derived.Test.YtajdpbbbocnfiaaGreatDoorBm13
import Derived.Test.YtajdpbbbocnfiaaGreatDoorBm42
import Derived.Test.YtajdpbbbocnfiaaGreatDoorBm03
namespace Go.Proofs.YtajdpbbbocnfiaaGreatDoor
namespace Sha
open Go.RowKit Mem
set_option maxRecDepth 100000
theorem MkI.out {w1 w w' : World} {bp br : Nat} {vp vr : Value} {D : Foot} {ws : List (Nat × Value)} {L : List (Nat × List (BitVec 8))} {R : List RefV} (h : MkI w1 w bp br vp vr D ws L R) (hs : w.heap.size ≤ w'.heap.size) (hk : ∀ k, w1.heap.size ≤ k → k < w.heap.size → w'.heap[k]? = w.heap[k]?) : WPut (fun k => w1.heap.size ≤ k) w' vp L :=
 ⟨ws, h.e.mono fun _ _ x => ⟨x.1, (x.2.keep hs fun k hd hl => hk k (h.d k hd).1 hl).mono fun k hd _ => (h.d k hd).1⟩, (ownsRow_slR h.po).keep hs fun k hg hl => hk k hg hl⟩
theorem buildRf14 (w : World) : (Instr.build 31 #[]).run Tryz.prog w = .ok (.agg (refC zref)) w := by kernel_rfl
def putL (key : List (BitVec 8)) (ep : BitVec 32) (P : List (List (BitVec 8))) (n : Nat) : List (Nat × List (BitVec 8)) := (List.range n).map fun i => (2 + 2 * i, selT key ep P i)
theorem putL_succ (key : List (BitVec 8)) (ep : BitVec 32) (P : List (List (BitVec 8))) (n : Nat) : putL key ep P (n + 1) = putL key ep P n ++ [(2 + 2 * n, selT key ep P n)] := by simp [putL, List.range_succ]
theorem putL_length (key : List (BitVec 8)) (ep : BitVec 32) (P : List (List (BitVec 8))) (n : Nat) : (putL key ep P n).length = n := by simp [putL]
theorem makeT_no {key : List (BitVec 8)} {ep : BitVec 32} {P : List (List (BitVec 8))} (h : ¬ (1 ≤ P.length ∧ P.length ≤ 216 ∧ allP P = true)) : makeT key ep P = ([], zref, 1) := if_neg h
set_option maxHeartbeats 2000000 in
theorem pmake_bad (key : List (BitVec 8)) (ep : BitVec 32) (P : List (List (BitVec 8))) (v : Value) (w : World) (lk : key.length = 32) (hs : Sls w v P) (hl : ∀ x ∈ P, x.length ≤ 1000) (hn : P.length ≤ 1000) (h : ¬ (1 ≤ P.length ∧ P.length ≤ 216 ∧ allP P = true)) :
 Calls Tryz.prog 9 #[.pointer none, .agg (u8s key).toArray, .int .u32 (V ep), v] w (MkEnd w ([], zref, 1)) := by
 have ar := fun wx (hb : Below w.heap.size w wx) => arePages_any P v wx (hs.below hb) hl hn
 have hcs : (P.length < 1 ∨ 216 < P.length) ∨ (1 ≤ P.length ∧ P.length ≤ 216 ∧ allP P = false) := by
  by_cases h1 : 1 ≤ P.length ∧ P.length ≤ 216
  ·refine .inr ⟨h1.1, h1.2, ?_⟩
   cases e : allP P
   ·rfl
   ·exact absurd ⟨h1.1, h1.2, e⟩ h
  ·exact .inl (by omega)
 have nb := fun wx (hz : P.length < 1 ∨ 216 < P.length) => pnew_bad (P.length : Int) wx (by omega)
 have ng := fun wx (h0 : 1 ≤ P.length) (h1 : P.length ≤ 216) => pnew_good P.length wx h0 h1
 have hsz : ∀ p, (psC p).size = 1 := fun _ => rfl
 have hso := psC_one
 have kc : (u8s key).toArray.size = 32 := by simp [u8s_length, lk]
 obtain ⟨KC, hKC⟩ : ∃ K, K = (u8s key).toArray := ⟨_, rfl⟩
 have hxr := zeroRfP
 have hbr := buildRf14
 unfold MkEnd
 show Calls _ _ _ _ (fun e w' => ∃ v, e = .returned (.tuple #[v, .agg (refC zref), .int .i64 1]) ∧ WPut (fun k => w.heap.size ≤ k) w' v [] ∧ Below w.heap.size w w')
 obtain ⟨Z, hZ⟩ : ∃ Z, Z = refC zref := ⟨_, rfl⟩
 have zs : Z.size = 34 := by rw [hZ]; exact refC_size zref_wf
 have zo : Z.all (·.oneCell') = true := by rw [hZ]; exact refC_one zref
 have hx := zeroPS
 obtain ⟨Y, hYs⟩ : ∃ C, C = psC 0 := ⟨_, rfl⟩
 have ys : Y.size = 1 := by rw [hYs]; rfl
 obtain ⟨asx, cap, rfl, _, _⟩ := hs
 obtain ⟨n, hnn⟩ : ∃ n, n = P.length := ⟨_, rfl⟩
 obtain ⟨A, hA⟩ : ∃ A, A = allP P := ⟨_, rfl⟩
 rw [← hnn] at ar hcs nb ng ⊢
 rw [← hA] at ar hcs
 rw [← hZ] at hxr hbr ⊢
 rw [← hKC]
 have yo : Y.all (·.oneCell') = true := by rw [hYs]; exact psC_one 0
 rw [← hYs] at hx nb
 have az : At ((((w.alloc (.cells #[.pointer none] 86)).alloc (.cells KC 22)).alloc (.cells #[.int .u32 (V ep)] 23)).alloc (.cells Z 31)) (w.heap.size + 1 + 1 + 1) Z 31 := by
  have h := at_new (((w.alloc (.cells #[.pointer none] 86)).alloc (.cells KC 22)).alloc (.cells #[.int .u32 (V ep)] 23)) Z 31
  simpa using h
 have b4 : Below w.heap.size w ((((w.alloc (.cells #[.pointer none] 86)).alloc (.cells KC 22)).alloc (.cells #[.int .u32 (V ep)] 23)).alloc (.cells Z 31)) := ((((Below.refl _ _).alloc (Nat.le_refl _) _).alloc (by simp) _).alloc (by simp; omega) _).alloc (by simp; omega) _
 have AR := zh ar; have NB := zh nb; have NG := zh ng; have ZS := zh zs; have ZO := zh zo; have YS := zh ys; have YO := zh yo; have BR := zh hbr; have AZ := zh az; have B4 := zh b4; have SZ := zh hsz; have SO := zh hso
 clear ar nb ng zs zo ys yo hbr az b4 hsz hso hZ hYs hnn hA hKC kc lk hl h
 rcases hcs with hbad | ⟨h0, h1, hal⟩
 ·have N2 := zh (fun wx => NB.out wx hbad)
  have hc5 := fun w5 => at_new w5 Y 48
  clear hbad hn
  go_enter Tryz.func9, Tryz.ntmps9
  go_upto_region 1 with fail
  generalize (((w.alloc (.cells #[.pointer none] 86)).alloc (.cells KC 22)).alloc (.cells #[.int .u32 (V ep)] 23)).alloc (.cells Z 31) = w4 at *
  go_wp2_with fail
  refine (N2.out _).mono ?_
  rintro e w5 ⟨rfl, hb5⟩
  have B5 : Hid (Below w.heap.size w (w5.alloc (.cells Y 48))) := zh ((B4.out.trans (hb5.mono B4.out.size)).alloc (Nat.le_trans B4.out.size hb5.size) _)
  have A5 := zh ((AZ.out.below hb5 AZ.out.lt).alloc (.cells Y 48))
  clear hb5
  go_upto_region 2 with (refine wpList_store_new zr 48 _ _ zr zr Y _ _ zr zr (by rw [YS.out]; exact infoPS) zr YO.out ?_)
  clear hx hc5
  generalize (w5.alloc (.cells Y 48)) = w6 at *
  go_wp2_with (first
   | (refine Mem.wpList_build zr 31 _ #[] (.agg Z) zr (by simp) BR.out ?_)
   | (refine wpList_store_all zr 31 _ _ zr zr (w.heap.size + 1 + 1 + 1) Z zr zr (by rw [ZS.out]; exact infoRfP) Z 31 A5.out zr ZO.out ?_))
  try simp only [Exit.inBlock, Exit.then]
  refine ret_tmp_row_tmp zr (w.heap.size + 1 + 1 + 1) 31 Z _ _ _ zr zr zr (A5.out.row Z) Tryz.underlying31 zr (by rw [ZS.out]; exact infoRfP) ?_
  exact ⟨_, rfl, ⟨[], trivial, SlR.nil _ _ _⟩, below_row B5.out (by omega) Z⟩
 ·have N2 := zh (fun wx => NG.out wx h0 h1)
  have cs : (psC n).size = 1 := rfl
  have co := psC_one n
  rw [hal] at AR
  obtain ⟨C, hC⟩ : ∃ C, C = psC n := ⟨_, rfl⟩
  rw [← hC] at N2 cs co
  have CS := zh cs; have CO := zh co
  clear h0 h1 hal cs co hC hn
  go_enter Tryz.func9, Tryz.ntmps9
  go_upto_region 1 with fail
  generalize (((w.alloc (.cells #[.pointer none] 86)).alloc (.cells KC 22)).alloc (.cells #[.int .u32 (V ep)] 23)).alloc (.cells Z 31) = w4 at *
  go_wp2_with fail
  refine (N2.out _).mono ?_
  rintro e w5 ⟨rfl, hb5⟩
  have B5 : Hid (Below w.heap.size w (w5.alloc (.cells C 48))) := zh ((B4.out.trans (hb5.mono B4.out.size)).alloc (Nat.le_trans B4.out.size hb5.size) _)
  have A5 := zh ((AZ.out.below hb5 AZ.out.lt).alloc (.cells C 48))
  clear hb5
  go_upto_region 2 with (refine wpList_store_new zr 48 _ _ zr zr C _ _ zr zr (by rw [CS.out]; exact infoPS) (by rw [CS.out, YS.out]) CO.out ?_)
  clear hx
  generalize (w5.alloc (.cells C 48)) = w6 at *
  go_wp2_with fail
  refine (AR.out _ B5.out).mono ?_
  rintro e w7 ⟨rfl, rfl⟩
  go_wp2_with (first
   | (refine Mem.wpList_build zr 31 _ #[] (.agg Z) zr (by simp) BR.out ?_)
   | (refine wpList_store_all zr 31 _ _ zr zr (w.heap.size + 1 + 1 + 1) Z zr zr (by rw [ZS.out]; exact infoRfP) Z 31 A5.out zr ZO.out ?_))
  try simp only [Exit.inBlock, Exit.then]
  refine ret_tmp_row_tmp zr (w.heap.size + 1 + 1 + 1) 31 Z _ _ _ zr zr zr (A5.out.row Z) Tryz.underlying31 zr (by rw [ZS.out]; exact infoRfP) ?_
  exact ⟨_, rfl, ⟨[], trivial, SlR.nil _ _ _⟩, below_row B5.out (by omega) Z⟩
set_option maxHeartbeats 8000000 in
theorem pmake_good (key : List (BitVec 8)) (ep : BitVec 32) (P : List (List (BitVec 8))) (v : Value) (w : World) (hT : TT w) (lk : key.length = 32) (hs : Sls w v P) (hP : GoodP P) :
 Calls Tryz.prog 9 #[.pointer none, .agg (u8s key).toArray, .int .u32 (V ep), v] w (MkEnd w (putsT key ep P, refT key ep P (itn P.length - 1), 0)) := by
 have hp0 := hP.p0; have hp1 := hP.p1
 have hl : ∀ x ∈ P, x.length ≤ 1000 := fun x hx => by rw [hP.len x hx]; decide
 have hal : allP P = true := by unfold allP; rw [List.all_eq_true]; intro x hx; simp [hP.len x hx]
 have ar := fun wx (hb : Below w.heap.size w wx) => arePages_any P v wx (hs.below hb) hl (by omega)
 rw [hal] at ar
 have hit := itn_big P.length hp0 hp1
 have ng := fun wx => pnew_good P.length wx hp0 hp1
 have itm := fun wx => pitems_any P.length wx hp1
 have rot := fun wx => proot_any P.length wx hp1
 have pget : ∀ i, i < P.length → (P.getD i []).length = 256 := fun i hi => by
  rw [List.getD_eq_getElem?_getD, List.getElem?_eq_getElem hi]
  exact hP.len _ (List.getElem_mem hi)
 have hpg := fun i (hi : i < itn P.length) => pgT_length (key := key) (ep := ep) hP i hi
 have hct : ∀ (i : Nat) vr wx, i < itn P.length → Below w.heap.size w wx → SlRf wx vr (refsT key ep P i) → Calls Tryz.prog 35 #[.agg (psC P.length), .int .i64 (i : Int), v, vr] wx (SealEnd wx (pgT key ep P i) 0) := fun i vr wx hi hb hr => by
  by_cases h : i < P.length
  ·exact pcontent_page P.length i P _ v vr wx (hs.below hb) rfl hp1 h
  ·have g := pcontent_node P.length i P _ v vr wx (hs.below hb) hr (refsT_wf i) rfl hp0 hp1 (by omega) hi (refsT_length key ep P i)
   rw [node_lay hP i i (by omega) hi (Nat.le_refl _)] at g
   exact g
 have hput : ∀ (i : Nat) (w1 wx : World) (bb bk be bs bp br : Nat) (vp vr vg : Value) (D : Foot) (ws : List (Nat × Value)), i < itn P.length → Below w.heap.size w w1 → MkI w1 wx bp br vp vr D ws (putL key ep P i) (refsT key ep P i) → At w1 bb #[.pointer none] 86 → At w1 bk (u8s key).toArray 22 → At w1 be #[.int .u32 (V ep)] 23 → At w1 bs (psC P.length) 48 →
  Sl wx vg (pgT key ep P i) → Calls Tryz.prog 32 #[.int .i64 (i : Int), vg, .pointer (some ⟨bs, 0, none⟩), .pointer (some ⟨bb, 0, none⟩), .pointer (some ⟨bk, 0, none⟩), .pointer (some ⟨be, 0, none⟩), .pointer (some ⟨bp, 0, none⟩), .pointer (some ⟨br, 0, none⟩)] wx
   fun e w' => e = .returned (.int .i64 0) ∧ ∃ vp' vr' D' ws', MkI w1 w' bp br vp' vr' D' ws' (putL key ep P (i + 1)) (refsT key ep P (i + 1)) := fun i w1 wx bb bk be bs bp br vp vr vg D ws hi hb hI h1 h2 h3 h4 hv => by
  have g := pput_any key (pgT key ep P i) vg lk (hT.below hb) hp1 hi hI h1 h2 h3 h4 hv (hpg i hi) (by rw [putL_length]; omega) (by rw [refsT_length]; omega)
  rw [putL_succ, refsT_succ]
  exact g
 have hr0 := refsT_length key ep P
 have hrg := fun n i (h : i < n) => refsT_get key ep P n i h
 have hrw := fun n => refsT_wf (key := key) (ep := ep) (P := P) n
 have hend : putL key ep P (itn P.length) = putsT key ep P := rfl
 have hrl := refT_wf (key := key) (ep := ep) (P := P) (itn P.length - 1)
 obtain ⟨root, hroot⟩ : ∃ r, r = refT key ep P (itn P.length - 1) := ⟨_, rfl⟩
 have hlast : (refsT key ep P (itn P.length)).getD (itn P.length - 1) zref = root := by rw [hroot]; exact hrg _ _ (by omega)
 rw [← hroot] at hrl ⊢
 obtain ⟨PL, hPL⟩ : ∃ f, f = putL key ep P := ⟨_, rfl⟩
 obtain ⟨RF, hRF⟩ : ∃ f, f = refsT key ep P := ⟨_, rfl⟩
 have hz1 : PL 0 = [] := by rw [hPL]; rfl
 have hz2 : RF 0 = [] := by rw [hRF]; rfl
 have hpn : ∀ i, (PL i).length = i := fun i => by rw [hPL]; exact putL_length _ _ _ _
 rw [← hPL] at hput hend
 rw [← hRF] at hput hct hr0 hrw hlast
 obtain ⟨PG, hPG⟩ : ∃ f, f = pgT key ep P := ⟨_, rfl⟩
 rw [← hPG] at hput hct
 unfold MkEnd
 show Calls _ _ _ _ (fun e w' => ∃ v, e = .returned (.tuple #[v, .agg (refC root), .int .i64 0]) ∧ WPut (fun k => w.heap.size ≤ k) w' v (putsT key ep P) ∧ Below w.heap.size w w')
 rw [← hend]
 obtain ⟨asx, cap, rfl, _, _⟩ := hs
 obtain ⟨p, hp⟩ : ∃ p, p = P.length := ⟨_, rfl⟩
 rw [← hp] at ar hit ng itm rot hct hput hlast ⊢
 obtain ⟨m, hm⟩ : ∃ m, m = itn p := ⟨_, rfl⟩
 rw [← hm] at hit itm rot hct hput hlast ⊢
 have hro : (m : Int) - 1 = ((m - 1 : Nat) : Int) := by omega
 rw [hro] at rot
 have kc : (u8s key).toArray.size = 32 := by simp [u8s_length, lk]
 obtain ⟨KC, hKC⟩ : ∃ K, K = (u8s key).toArray := ⟨_, rfl⟩
 rw [← hKC] at hput kc ⊢
 have cs : (psC p).size = 1 := rfl
 have co := psC_one p
 obtain ⟨C, hC⟩ : ∃ C, C = psC p := ⟨_, rfl⟩
 rw [← hC] at ng itm rot hct hput cs co
 have ms := refC_size hrl; have mo := refC_one root
 obtain ⟨M, hM⟩ : ∃ M, M = refC root := ⟨_, rfl⟩
 have hrm : refL root = M.toList := by rw [hM]; rfl
 rw [← hM] at ms mo ⊢
 have hxr := zeroRfP
 obtain ⟨Z, hZ⟩ : ∃ Z, Z = refC zref := ⟨_, rfl⟩
 have zs : Z.size = 34 := by rw [hZ]; exact refC_size zref_wf
 rw [← hZ] at hxr
 have hx := zeroPS
 obtain ⟨Y, hYs⟩ : ∃ C, C = psC 0 := ⟨_, rfl⟩
 have ys : Y.size = 1 := by rw [hYs]; rfl
 rw [← hYs] at hx
 obtain ⟨i1, hi1, hz1', hs1, hb1⟩ := info_parts elemPt.2
 obtain ⟨i2, hi2, hz2', hs2, hb2⟩ := info_parts elemRP.2
 have a0 : At ((((w.alloc (.cells #[.pointer none] 86)).alloc (.cells KC 22)).alloc (.cells #[.int .u32 (V ep)] 23)).alloc (.cells Z 31)) w.heap.size #[.pointer none] 86 := (((at_new w _ _).alloc _).alloc _).alloc _
 have a1 : At ((((w.alloc (.cells #[.pointer none] 86)).alloc (.cells KC 22)).alloc (.cells #[.int .u32 (V ep)] 23)).alloc (.cells Z 31)) (w.heap.size + 1) KC 22 := by
  have h := ((at_new (w.alloc (.cells #[.pointer none] 86)) KC 22).alloc (.cells #[.int .u32 (V ep)] 23)).alloc (.cells Z 31)
  simpa using h
 have a2 : At ((((w.alloc (.cells #[.pointer none] 86)).alloc (.cells KC 22)).alloc (.cells #[.int .u32 (V ep)] 23)).alloc (.cells Z 31)) (w.heap.size + 1 + 1) #[.int .u32 (V ep)] 23 := by
  have h := (at_new ((w.alloc (.cells #[.pointer none] 86)).alloc (.cells KC 22)) #[.int .u32 (V ep)] 23).alloc (.cells Z 31)
  simpa using h
 have az : At ((((w.alloc (.cells #[.pointer none] 86)).alloc (.cells KC 22)).alloc (.cells #[.int .u32 (V ep)] 23)).alloc (.cells Z 31)) (w.heap.size + 1 + 1 + 1) Z 31 := by
  have h := at_new (((w.alloc (.cells #[.pointer none] 86)).alloc (.cells KC 22)).alloc (.cells #[.int .u32 (V ep)] 23)) Z 31
  simpa using h
 have b4 : Below w.heap.size w ((((w.alloc (.cells #[.pointer none] 86)).alloc (.cells KC 22)).alloc (.cells #[.int .u32 (V ep)] 23)).alloc (.cells Z 31)) := ((((Below.refl _ _).alloc (Nat.le_refl _) _).alloc (by simp) _).alloc (by simp; omega) _).alloc (by simp; omega) _
 have hmf : ∀ (fn : Fn) (first cap : Array Value) (w : World), (Instr.makeFunc fn first cap).run Tryz.prog w = .ok (.func fn first cap) w := fun _ _ _ _ => rfl
 have AR := zh ar; have NG := zh ng; have IT := zh itm; have RT := zh rot; have CT := zh hct; have PT := zh hput; have RL := zh hr0; have RW := zh hrw; have HL := zh hlast; have PZ1 := zh hz1; have RZ1 := zh hz2; have PN := zh hpn; have KS := zh kc; have CS := zh cs; have CO := zh co; have MS := zh ms; have MO := zh mo; have HM := zh hrm; have ZS := zh zs; have YS := zh ys
 have I1 := zh hi1; have Z1 := zh hz1'; have S1 := zh hs1; have B1 := zh hb1; have I2 := zh hi2; have Z2 := zh hz2'; have S2 := zh hs2; have B2 := zh hb2
 have A0 := zh a0; have A1 := zh a1; have A2 := zh a2; have AZ := zh az; have B4 := zh b4
 clear ar ng itm rot hct hput hr0 hrw hlast hz1 hz2 hpn kc cs co ms mo hrm zs ys hi1 hz1' hs1 hb1 hi2 hz2' hs2 hb2 a0 a1 a2 az b4 hPL hRF hPG hKC hC hM hZ hYs hm hp hroot hend hrg hpg pget hal hl hT lk hP hp0 hro hrl
 go_enter Tryz.func9, Tryz.ntmps9
 go_upto_region 1 with fail
 generalize (((w.alloc (.cells #[.pointer none] 86)).alloc (.cells KC 22)).alloc (.cells #[.int .u32 (V ep)] 23)).alloc (.cells Z 31) = w4 at *
 go_wp2_with fail
 refine (NG.out _).mono ?_
 rintro e w5 ⟨rfl, hb5⟩
 have B5 : Hid (Below w.heap.size w (w5.alloc (.cells C 48))) := zh ((B4.out.trans (hb5.mono B4.out.size)).alloc (Nat.le_trans B4.out.size hb5.size) _)
 have A05 := zh ((A0.out.below hb5 A0.out.lt).alloc (.cells C 48)); have A15 := zh ((A1.out.below hb5 A1.out.lt).alloc (.cells C 48)); have A25 := zh ((A2.out.below hb5 A2.out.lt).alloc (.cells C 48)); have AZ5 := zh ((AZ.out.below hb5 AZ.out.lt).alloc (.cells C 48))
 have C5 := zh (at_new w5 C 48)
 clear hb5
 go_upto_region 2 with (refine wpList_store_new zr 48 _ _ zr zr C _ _ zr zr (by rw [CS.out]; exact infoPS) (by rw [CS.out, YS.out]) CO.out ?_)
 clear hx A0 A1 A2 AZ B4
 obtain ⟨bs, hbs⟩ : ∃ bs, bs = w5.heap.size := ⟨_, rfl⟩
 rw [← hbs] at C5 ⊢
 clear hbs
 generalize (w5.alloc (.cells C 48)) = w6 at *
 go_wp2_with fail
 refine (AR.out _ B5.out).mono ?_
 rintro e w7 ⟨rfl, rfl⟩
 go_wp2_with (refine wpList_load_all zr 48 _ zr bs zr _ Tryz.underlying48 zr C _ C5.out (by rw [CS.out]; exact infoPS) ?_)
 refine (IT.out _).mono ?_
 rintro e w8 ⟨rfl, hb8⟩
 have B8 := zh hb8
 have C8 := zh (C5.out.below hb8 C5.out.lt)
 clear hb8
 go_upto_region 5 with (first
  | (refine wpList_make_own _ zr _ _ 29 zr w7.heap.size 41 i1 (.agg #[.int .i64 0, .slice none 0 0]) 2 Tryz.underlying29 I1.out Z1.out S1.out .i64 .i64 (m : Int) m zr zr rfl (by rw [B1.out]; omega) (by simp [maxLen]; omega) B8.out.size ?_; intro w9 ho9 hg9; have O9 := zh ho9; have B9 : Hid (Below w7.heap.size w7 w9) := zh (B8.out.grown hg9 B8.out.size (fun k e => by cases e)); clear ho9 hg9)
  | (refine Mem.wpList_store_one zr 29 _ _ zr zr w9.heap.size 0 (.slice (some ⟨w8.heap.size, 0, none⟩) 0 m) zr zr zr infoPts _ 29 (at_new w9 #[.slice none 0 0] 29) (by simp) ?_; intro w10 ha10 ho10 hb10; have P10 : Hid (At w10 w9.heap.size #[.slice (some ⟨w8.heap.size, 0, none⟩) 0 m] 29) := zh ha10; have O10 : Hid (w10.ownsRow w7.heap.size 41 2 (.slice (some ⟨w8.heap.size, 0, none⟩) 0 m) 0 []) := zh (ownsRow_keep (World.ownsRow.alloc O9.out (.cells #[.slice none 0 0] 29)) fun g hg => ho10 g (by have := (World.ownsRow.lt O9.out g hg).2; omega)); have B10 : Hid (Below w7.heap.size w7 w10) := zh (hb10 _ _ (B9.out.alloc B9.out.size _) B9.out.size); clear ha10 ho10 hb10))
 have G9 := zh B9.out.size
 obtain ⟨bp, hbp⟩ : ∃ bp, bp = w9.heap.size := ⟨_, rfl⟩
 rw [← hbp] at P10 G9 ⊢
 clear hbp
 obtain ⟨VP, hVP⟩ : ∃ V, V = Value.slice (some ⟨w8.heap.size, 0, none⟩) 0 m := ⟨_, rfl⟩
 rw [← hVP] at P10 O10
 have C10 := zh (C5.out.below B10.out C5.out.lt)
 clear hVP O9 B9 C8 B8
 go_wp2_with (refine wpList_load_all zr 48 _ zr bs zr _ Tryz.underlying48 zr C _ C10.out (by rw [CS.out]; exact infoPS) ?_)
 refine (IT.out _).mono ?_
 rintro e w11 ⟨rfl, hb11⟩
 have P11 := zh (P10.out.below hb11 P10.out.lt); have O11 := zh (ownsRow_below O10.out hb11); have B11 : Hid (Below w7.heap.size w7 w11) := zh (B10.out.trans (hb11.mono B10.out.size))
 clear hb11 P10 O10 B10 C10
 go_upto_region 6 with (first
  | (refine wpList_make_own _ zr _ _ 64 zr w7.heap.size 31 i2 (.agg (refC zref)) 34 Tryz.underlying64 I2.out Z2.out S2.out .i64 .i64 (m : Int) m zr zr rfl (by rw [B2.out]; omega) (by simp [maxLen]; omega) B11.out.size ?_; intro w12 ho12 hg12; have O12 := zh ho12; have B12 : Hid (Below w7.heap.size w7 w12) := zh (B11.out.grown hg12 B11.out.size (fun k e => by cases e)); have Q12 : Hid (Below w11.heap.size w11 w12) := zh ((Below.refl _ _).grown hg12 (Nat.le_refl _) (fun k e => by cases e)); clear ho12 hg12)
  | (refine Mem.wpList_store_one zr 64 _ _ zr zr w12.heap.size 0 (.slice (some ⟨w11.heap.size, 0, none⟩) 0 m) zr zr zr infoRfs _ 64 (at_new w12 #[.slice none 0 0] 64) (by simp) ?_; intro w13 ha13 ho13 hb13; have R13 : Hid (At w13 w12.heap.size #[.slice (some ⟨w11.heap.size, 0, none⟩) 0 m] 64) := zh ha13; have O13 : Hid (w13.ownsRow w7.heap.size 31 34 (.slice (some ⟨w11.heap.size, 0, none⟩) 0 m) 0 []) := zh (ownsRow_keep (World.ownsRow.alloc O12.out (.cells #[.slice none 0 0] 64)) fun g hg => ho13 g (by have := (World.ownsRow.lt O12.out g hg).2; omega)); have B13 : Hid (Below w7.heap.size w7 w13) := zh (hb13 _ _ (B12.out.alloc B12.out.size _) B12.out.size); have Q13 : Hid (Below w11.heap.size w11 w13) := zh (hb13 _ _ (Q12.out.alloc Q12.out.size _) Q12.out.size); clear ha13 ho13 hb13))
 have G12 := zh B12.out.size
 obtain ⟨br, hbr⟩ : ∃ br, br = w12.heap.size := ⟨_, rfl⟩
 rw [← hbr] at R13 G12 ⊢
 clear hbr
 obtain ⟨VR, hVR⟩ : ∃ V, V = Value.slice (some ⟨w11.heap.size, 0, none⟩) 0 m := ⟨_, rfl⟩
 rw [← hVR] at R13 O13
 have J13 : Hid (MkI w7 w13 bp br VP VR (fun _ => False) [] (PL 0) (RF 0)) := zh (by
  rw [PZ1.out, RZ1.out]
  exact ⟨B13.out, G9.out, G12.out, P11.out.below Q13.out P11.out.lt, R13.out, trivial, ownsRow_below O11.out Q13.out, O13.out, fun k hk => hk.elim⟩)
 have C13 := zh (C5.out.below B13.out C5.out.lt)
 clear hVR O12 B12 Q12 Q13 R13 O13 P11 O11 B11 G9 G12
 go_wp2_with (refine wpList_load_all zr 48 _ zr bs zr _ Tryz.underlying48 zr C _ C13.out (by rw [CS.out]; exact infoPS) ?_)
 refine (IT.out _).mono ?_
 rintro e w14 ⟨rfl, hb14⟩
 have J14 := zh (J13.out.below hb14)
 clear hb14 J13 C13 B13
 go_wp2_with fail
 go_loopw [42] (fun vi wr => ∃ i : Nat, i ≤ m ∧ vi = .int .i64 (i : Int) ∧ ∃ vp vr D ws, MkI w7 wr bp br vp vr D ws (PL i) (RF i)) (fun vi _ => m - (intOf vi).toNat)
 case atStart => exact ⟨0, by omega, rfl, _, _, _, _, J14.out⟩
 case round =>
  obtain ⟨i, hi, rfl, vp, vr, D, ws, hI⟩ := hrel
  have IW := zh hI
  have CW := zh (C5.out.below hI.b C5.out.lt)
  have BW : Hid (Below w.heap.size w wr) := zh (B5.out.trans (hI.b.mono B5.out.size))
  have hown : OwnRf wr w7.heap.size 31 vr (RF i) := hI.ro
  have SW := zh (own_slrf hown (RW.out i))
  obtain ⟨ar, cr, rfl⟩ := rows_hd hI.ro
  obtain ⟨ap, cp, rfl⟩ := rows_hd hI.po
  have cr0 := (hI.rb.cell 0).trans rfl
  have cp0 := (hI.pb.cell 0).trans rfl
  clear hI hown
  by_cases hlt : i < m
  ·have hlt2 : (i : Int) < (m : Int) := by omega
   have CR := zh cr0
   clear cr0 cp0
   obtain ⟨N, hN⟩ : ∃ N, N = (RF i).length := ⟨_, rfl⟩
   rw [← hN] at CR SW IW
   clear hN
   have cr0 := CR.out
   go_wp2_with (refine wpList_load_all zr 48 _ zr bs zr _ Tryz.underlying48 zr C _ CW.out (by rw [CS.out]; exact infoPS) ?_)
   refine (CT.out i _ wr hlt BW.out SW.out).mono ?_
   rintro e w15 ⟨vg, rfl, hg, hb15⟩
   have G15 := zh hg; have I15 := zh (IW.out.below hb15)
   clear hg hb15 cr0 CR
   go_wp2_with fail
   refine (PT.out i w7 w15 w.heap.size (w.heap.size + 1) (w.heap.size + 1 + 1) bs bp br _ _ vg D ws hlt B5.out I15.out A05.out A15.out A25.out C5.out G15.out).mono ?_
   rintro e w16 ⟨rfl, vp', vr', D', ws', hI'⟩
   have I16 := zh hI'
   clear hI'
   go_wp2_with fail
   go_roundw
   case rel => exact ⟨i + 1, by omega, by go_num, vp', vr', D', ws', I16.out⟩
   case measure => simp [intOf]; omega
  ·have him : i = m := by omega
   subst him
   have hge : ¬ (i : Int) < (i : Int) := by omega
   clear hlt
   obtain ⟨rg, ro, ea, hrgl, hrr⟩ := slrf_at (i := i - 1) SW.out rfl (by rw [RL.out]; omega)
   rw [HL.out, HM.out] at hrr
   subst ea
   have hN := RL.out i
   have hrge : w7.heap.size ≤ rg := (World.ownsRow.lt IW.out.ro rg rfl).1
   have cr1 : wr.cell? ⟨br, 0, none⟩ = some (.slice (some ⟨rg, ro, none⟩) i cr) := by rw [← hN]; exact cr0
   obtain ⟨q, hq⟩ : ∃ q, q = (PL i).length := ⟨_, rfl⟩
   rw [← hq] at cp0 IW
   have ne1 : w.heap.size + 1 + 1 + 1 ≠ bs := at_ne AZ5.out C5.out (by decide)
   have nz := AZ5.out.lt
   have hbs := C5.out.lt
   have gp := IW.out.gp; have gr := IW.out.gr
   have AZW := zh (AZ5.out.below IW.out.b AZ5.out.lt)
   have S0 : Hid (wr.drew.cell? ⟨bp, 0, none⟩ = some (.slice ap q cp) ∧ wr.drew.cell? ⟨br, 0, none⟩ = some (.slice (some ⟨rg, ro, none⟩) i cr) ∧ At wr.drew bs C 48 ∧ wr.drew.rangeAt rg (ro + (i - 1) * 34) M.toList) := zh ⟨cp0, cr1, CW.out.drew, fun j u hu => hrr j u hu⟩
   have S1 : Hid (∀ y, Below wr.heap.size wr y → y.cell? ⟨bp, 0, none⟩ = some (.slice ap q cp) ∧ y.cell? ⟨br, 0, none⟩ = some (.slice (some ⟨rg, ro, none⟩) i cr) ∧ At y bs C 48 ∧ y.rangeAt rg (ro + (i - 1) * 34) M.toList) := zh fun y hb =>
    ⟨(hb.cell (p := ⟨bp, 0, none⟩) IW.out.pb.lt).trans cp0, (hb.cell (p := ⟨br, 0, none⟩) IW.out.rb.lt).trans cr1, CW.out.below hb CW.out.lt, range_block hrr (hb.block rg hrgl)⟩
   have LP := zh IW.out.pb.lt; have LR := zh IW.out.rb.lt; have LG := zh hrgl; have LC := zh CW.out.lt
   have NE : Hid (w.heap.size + 1 + 1 + 1 ≠ bs ∧ w.heap.size + 1 + 1 + 1 < w7.heap.size ∧ w7.heap.size ≤ bp ∧ w7.heap.size ≤ br ∧ w7.heap.size ≤ rg) := zh ⟨ne1, nz, gp, gr, hrge⟩
   clear cp0 cr0 cr1 hrr hrge hq hrgl ne1 nz hbs gp gr hN SW
   go_upto_region 16 with fail
   refine wp_region_plan_in (fun y => y.cell? ⟨bp, 0, none⟩ = some (.slice ap q cp) ∧ y.cell? ⟨br, 0, none⟩ = some (.slice (some ⟨rg, ro, none⟩) i cr) ∧ At y bs C 48 ∧ y.rangeAt rg (ro + (i - 1) * 34) M.toList) (.take 0 (.take 1 (.take 2 (.sole 3 (.take 4 (.take 5 (.take 6 (.sole 7 (.take 8 .done))))))))) (by kernel_rfl) (by kernel_rfl) (by kernel_rfl) S0.out ?_
   refine plan_cell 29 _ _ (.slice ap q cp) _ zr zr zr Mem.ev_a (fun w' hw' => hw'.1) Tryz.underlying29 zr ?_
   (simp only [Act.put, Mem.pa, Mem.pb, Mem.pc])
   refine plan_cell 64 _ _ (.slice (some ⟨rg, ro, none⟩) i cr) _ zr zr zr Mem.ev_a (fun w' hw' => hw'.2.1) Tryz.underlying64 zr ?_
   (simp only [Act.put, Mem.pa, Mem.pb, Mem.pc])
   refine plan_row 48 _ bs _ C 48 zr zr zr Mem.ev_a (fun w' hw' => hw'.2.2.1) Tryz.underlying48 zr (by rw [CS.out]; exact infoPS) ?_
   (simp only [Act.put, Mem.pa, Mem.pb, Mem.pc])
   refine plan_call 36 _ _ _ (by kernel_rfl) zr zr zr (by first | exact Mem.ev_none _ | (simp only [List.map_toArray, List.map_cons, List.map_nil, Mem.ev_tmp, List.getD_cons_succ, List.getD_cons_zero] <;> rfl)) ?_
   refine (RT.out wr.drew).mono ?_
   rintro e w15 ⟨rfl, hb15⟩
   have Q15 : Hid (Below wr.heap.size wr w15) := zh (((Below.refl _ _).drew).trans (hb15.mono (Nat.le_refl _)))
   clear hb15
   refine ⟨_, rfl, S1.out _ Q15.out, ?_⟩
   (simp only [Act.put, Mem.pa, Mem.pb, Mem.pc])
   refine plan_index_z 64 31 _ _ rg ro i cr 34 (i - 1) zr zr zr Mem.ev_a Mem.ev_a (by omega) Tryz.underlying64 infoRfP ?_
   (simp only [Act.put, Mem.pa, Mem.pb, Mem.pc])
   refine plan_load_range 31 _ rg (ro + (i - 1) * 34) _ M zr zr zr Mem.ev_a (fun w' hw' => hw'.2.2.2) Tryz.underlying31 zr (by rw [MS.out]; exact infoRfP) ?_
   (simp only [Act.put, Mem.pa, Mem.pb, Mem.pc])
   (first | refine Mem.pm1 ?_ | refine Mem.pm2 ?_ | refine Mem.pt ?_ | refine Mem.pf ?_)
   (simp only [Act.put, Mem.pa, Mem.pb, Mem.pc])
   have AZ15 := zh (AZW.out.below Q15.out AZW.out.lt)
   have S15 := zh (S1.out _ Q15.out)
   obtain ⟨n1, n2, n3, n4, n5⟩ := NE.out
   have hother : ∀ k, k ≠ w.heap.size + 1 + 1 + 1 → (w15.setRow (w.heap.size + 1 + 1 + 1) M).heap[k]? = w15.heap[k]? := fun k hne => setRow_other w15 (w.heap.size + 1 + 1 + 1) k M hne
   refine plan_store 31 _ _ (w.heap.size + 1 + 1 + 1) M Z 31 zr zr zr zr Mem.ev_a Mem.ev_a (by rw [MS.out]; exact infoRfP) AZ15.out (by rw [MS.out, ZS.out]) MO.out ⟨(World.cell?_of_block (a := ⟨bp, 0, none⟩) (hother bp (by omega))).trans S15.out.1, (World.cell?_of_block (a := ⟨br, 0, none⟩) (hother br (by omega))).trans S15.out.2.1, S15.out.2.2.1.row_other M (fun e => n1 e.symm), range_block S15.out.2.2.2 (hother rg (by omega))⟩ ?_
   (first | refine Mem.pm1 ?_ | refine Mem.pm2 ?_ | refine Mem.pt ?_ | refine Mem.pf ?_)
   (simp only [Act.put, Mem.pa, Mem.pb, Mem.pc])
   refine plan_nil ?_
   have WP : Hid (WPut (fun k => w7.heap.size ≤ k) (w15.setRow (w.heap.size + 1 + 1 + 1) M) (.slice ap q cp) (PL i)) := zh (MkI.out IW.out (by have := Q15.out.size; simpa using this) fun k hk hl => by rw [hother k (by omega)]; exact Q15.out.block k hl)
   have BE : Hid (Below w.heap.size w (w15.setRow (w.heap.size + 1 + 1 + 1) M)) := zh (below_row (BW.out.trans (Q15.out.mono BW.out.size)) (by omega) M)
   have hsz := B5.out.size
   go_wp2_with fail
   try simp only [Exit.inBlock, Exit.then]
   refine ret_tmp_row_tmp zr (w.heap.size + 1 + 1 + 1) 31 M _ _ _ zr zr zr (AZ15.out.row M) Tryz.underlying31 zr (by rw [MS.out]; exact infoRfP) ?_
   exact ⟨_, rfl, WP.out.mono fun k hk _ => Nat.le_trans hsz hk, BE.out⟩
theorem pmake14_any (key : List (BitVec 8)) (ep : BitVec 32) (P : List (List (BitVec 8))) (v : Value) (w : World) (hT : TT w) (lk : key.length = 32) (hs : Sls w v P) (hn : P.length ≤ 1000) (hl : ∀ x ∈ P, x.length ≤ 1000) :
 Calls Tryz.prog 9 #[.pointer none, .agg (u8s key).toArray, .int .u32 (V ep), v] w (MkEnd w (makeT key ep P)) := by
 by_cases h : 1 ≤ P.length ∧ P.length ≤ 216 ∧ allP P = true
 ·have hP : GoodP P := ⟨h.1, h.2.1, fun x hx => by
   have g := List.all_eq_true.1 h.2.2 x hx
   simpa using g⟩
  rw [makeT_ok key ep hP]
  exact pmake_good key ep P v w hT lk hs hP
 ·rw [makeT_no h]
  exact pmake_bad key ep P v w lk hs hl hn h
end Sha
end Go.Proofs.YtajdpbbbocnfiaaGreatDoor
namespace Go.Proofs.YtajdpbbbocnfiaaGreatDoor
namespace Sha
open Go.RowKit Mem
set_option maxRecDepth 100000
theorem plan_piece_rf {ops : Array Oper} {Q : Exit → Act → World → Prop} {S : World → Prop} {w : World} {a : Act} {o : Oper} {i : Nat} {r : Plan} (ty : TypeId) (x ix jx : Operand) (ho : ops.toList[i]? = some o) (hw : Region.wanted o (yielded ops a.tmps) = true) (hop : o.op = .slice ty x (some ix) (some jx) none)
 (e : TypeId) (hu : Tryz.prog.underlying ty = some (.slice e)) (hs : (Tryz.prog.info? e).map (·.size) = some 34) (b off len cap k m : Nat) (hx : a.eval x = .slice (some ⟨b, off, none⟩) len cap) (hi : a.eval ix = .int .i64 (k : Int)) (hj : a.eval jx = .int .i64 (m : Int)) (hk : k ≤ m) (hm : m ≤ cap) (hc : k < cap)
 (h : wpPlan Tryz.prog ops Q S r (a.put o.dst (.slice (some ⟨b, off + k * 34, none⟩) (m - k) (cap - k))) w) : wpPlan Tryz.prog ops Q S (.take i r) a w :=
 plan_take _ ho hw (fun w' _ => by
  cases hq : Tryz.prog.info? e with
  | none => simp [hq] at hs
  | some q =>
   have hs1 : q.size = 34 := by simpa [hq] using hs
   have hne : ¬ cap = k := by omega
   have hr : (Instr.sliceAt ty (.slice (some ⟨b, off, none⟩) len cap) (some (.int .i64 (k : Int))) (some (.int .i64 (m : Int))) none).run Tryz.prog w' = .ok (.slice (some ⟨b, off + k * 34, none⟩) (m - k) (cap - k)) w' := by
    simp [Instr.sliceAt, Instr.slice, Instr.sliceBounds, Instr.sliceBound, asIntOf, Sem.run_bind, run_underlying hu, sizeOf, typeInfo, hq, hs1, hk, hm, hne, Addr.add_mid]
   unfold execOp
   simp only [hop, hx, hi, hj, Option.map_some, Option.map_none, Sem.run_bind, hr, Result.andThen_ok, Sem.run_pure]) h
theorem slrf_piece {w : World} {b o n c k m : Nat} {L : List RefV} (h : SlRf w (.slice (some ⟨b, o, none⟩) n c) L) (hn : n = L.length) (hk : k < m) (hm : m ≤ n) : SlRf w (.slice (some ⟨b, o + k * 34, none⟩) (m - k) (c - k)) ((L.drop k).take (m - k)) := by
 have hl : ((L.drop k).take (m - k)).length = m - k := by rw [List.length_take, List.length_drop]; omega
 obtain ⟨b', o', e, hlt, _⟩ := slrf_at (i := 0) h hn (by omega)
 injection e with e
 injection e with e1 e2 _
 subst e1
 refine ⟨_, _, by rw [hl], fun _ => ⟨b, o + k * 34, rfl, hlt, fun i hi => ?_⟩⟩
 rw [hl] at hi
 have g := slrf_cell (i := k + i) h hn (by omega)
 rw [show o + (k + i) * 34 = o + k * 34 + i * 34 by omega] at g
 have e3 : ((L.drop k).take (m - k)).getD i zref = L.getD (k + i) zref := by
  rw [List.getD_eq_getElem?_getD, List.getElem?_take, if_pos hi, List.getElem?_drop, ← List.getD_eq_getElem?_getD]
 rw [e3]; exact g
structure RkI (w1 w : World) (vp vr : Value) (D : Foot) (ws : List (Nat × Value)) (L : List (Nat × List (BitVec 8))) (R : List RefV) : Prop where
 b : Below w1.heap.size w1 w
 e : Each2 (fun p q => p.1 = q.1 ∧ SlB D w p.2 q.2) ws L
 po : w.ownsRow w1.heap.size 42 2 vp L.length (putC ws)
 ro : w.ownsRow w1.heap.size 36 34 vr R.length (refCs R)
 d : ∀ k, D k → w1.heap.size ≤ k ∧ k < w.heap.size ∧ vp.ownBlock ≠ some k ∧ vr.ownBlock ≠ some k
section
variable {w1 w w2 w3 w5 : World} {vp vr vp' vr' v2 : Value} {D G : Foot} {ws : List (Nat × Value)} {L : List (Nat × List (BitVec 8))} {R : List RefV}
theorem RkI.below (h : RkI w1 w vp vr D ws L R) (hb : Below w.heap.size w w2) : RkI w1 w2 vp vr D ws L R :=
 ⟨h.b.trans (hb.mono h.b.size), h.e.mono fun _ _ x => ⟨x.1, x.2.keep hb.size fun k _ hl => hb.block k hl⟩, ownsRow_below h.po hb, ownsRow_below h.ro hb,
  fun k hk => let ⟨a, b, c⟩ := h.d k hk; ⟨a, Nat.lt_of_lt_of_le b hb.size, c⟩⟩
theorem RkI.put {q : Nat} {x : List (BitVec 8)} (h : RkI w1 w vp vr D ws L R) (hb : Below w.heap.size w w2) (hs : SlB G w2 v2 x) (hG : ∀ k, G k → w.heap.size ≤ k ∧ k < w2.heap.size) (hb3 : Below w2.heap.size w2 w3) (ha : App w3 w5 vp vp') (hb5 : Below w1.heap.size w3 w5)
 (ho : w5.ownsRow w1.heap.size 42 2 vp' (L.length + 1) (putC ws ++ [.int .i64 (q : Int), v2])) :
 RkI w1 w5 vp' vr (fun k => D k ∨ G k) (ws ++ [(q, v2)]) (L ++ [(q, x)]) R := by
 have hb13 : Below w.heap.size w w3 := hb.trans (hb3.mono hb.size)
 have z1 := h.b.size; have z2 := hb.size; have z3 := hb3.size; have z5 := ha.size
 have hlp := fun k hk => (World.ownsRow.lt h.po k hk).2
 have hlr := fun k hk => (World.ownsRow.lt h.ro k hk).2
 have keep : ∀ k, k < w.heap.size → vp.ownBlock ≠ some k → w5.heap[k]? = w.heap[k]? := fun k hl h2 => by
  rw [ha.k k (by omega) h2, hb13.block k hl]
 have keep2 : ∀ k, w.heap.size ≤ k → k < w2.heap.size → w5.heap[k]? = w2.heap[k]? := fun k h1 hl => by
  rw [ha.k k (by omega) (fun e => by have := hlp k e; omega), hb3.block k hl]
 refine ⟨((h.b.trans (hb.mono z1)).trans (hb3.mono (by omega))).trans hb5, ?_, ?_, ?_, ?_⟩
 ·refine Each2.snoc ⟨rfl, ?_⟩ (h.e.mono fun p r hx => ⟨hx.1, ?_⟩)
  ·exact ((hs.keep (by omega) fun k hg hl => keep2 k (hG k hg).1 hl).mono fun k hg _ => .inr hg)
  ·refine ((hx.2.keep (by omega) fun k hd hl => ?_).mono fun k hd _ => .inl hd)
   exact keep k hl (h.d k hd).2.2.1
 ·rw [putC_snoc, List.length_append]
  exact ho
 ·refine ownsRow_keep h.ro fun g hg => keep g (hlr g hg) ?_
  exact fun e => ownsRow_ne h.po h.ro (by decide) g e hg
 ·intro k hk2
  have hnew : ∀ k, k < w2.heap.size → vp.ownBlock ≠ some k → vp'.ownBlock ≠ some k := fun k hl hne => by
   rcases ha.b with e | ⟨g, e, hge⟩
   ·rw [e]; exact hne
   ·rw [e]; intro c; injection c with c; omega
  rcases hk2 with hd | hg
  ·obtain ⟨d1, d2, d5, d6⟩ := h.d k hd
   exact ⟨d1, by omega, hnew k (by omega) d5, d6⟩
  ·obtain ⟨g1, g2⟩ := hG k hg
   exact ⟨by omega, by omega, hnew k g2 (fun e => by have := hlp k e; omega), fun e => by have := hlr k e; omega⟩
theorem RkI.ref {r : RefV} (h : RkI w1 w vp vr D ws L R) (hb13 : Below w.heap.size w w3) (ha : App w3 w5 vr vr') (hb5 : Below w1.heap.size w3 w5)
 (ho : w5.ownsRow w1.heap.size 36 34 vr' (R.length + 1) (refCs R ++ refL r)) : RkI w1 w5 vp vr' D ws L (R ++ [r]) := by
 have z1 := h.b.size; have z3 := hb13.size; have z5 := ha.size
 have hlp := fun k hk => (World.ownsRow.lt h.po k hk).2
 have keep : ∀ k, k < w.heap.size → vr.ownBlock ≠ some k → w5.heap[k]? = w.heap[k]? := fun k hl h2 => by
  rw [ha.k k (by omega) h2, hb13.block k hl]
 refine ⟨(h.b.trans (hb13.mono z1)).trans hb5, ?_, ?_, ?_, ?_⟩
 ·refine h.e.mono fun p q hx => ⟨hx.1, hx.2.keep (by omega) fun k hd hl => ?_⟩
  exact keep k hl (h.d k hd).2.2.2
 ·refine ownsRow_keep h.po fun g hg => keep g (hlp g hg) ?_
  exact fun e => ownsRow_ne h.po h.ro (by decide) g hg e
 ·rw [refCs_snoc, List.length_append]
  exact ho
 ·intro k hd
  obtain ⟨d1, d2, d5, d6⟩ := h.d k hd
  refine ⟨d1, by omega, d5, ?_⟩
  rcases ha.b with e | ⟨g, e, hge⟩
  ·rw [e]; exact d6
  ·rw [e]; intro c; injection c with c; omega
theorem RkI.out {w' : World} (h : RkI w1 w vp vr D ws L R) (hs : w.heap.size ≤ w'.heap.size) (hk : ∀ k, w1.heap.size ≤ k → k < w.heap.size → w'.heap[k]? = w.heap[k]?) : WPut (fun k => w1.heap.size ≤ k) w' vp L :=
 ⟨ws, h.e.mono fun _ _ x => ⟨x.1, (x.2.keep hs fun k hd hl => hk k (h.d k hd).1 hl).mono fun k hd _ => (h.d k hd).1⟩, (ownsRow_slR h.po).keep hs fun k hg hl => hk k hg hl⟩
end
theorem elemRPt : elemR Tryz.prog 35 42 (.agg #[.int .i64 0, .slice none 0 0]) 2 32 := ⟨Tryz.underlying35, by kernel_rfl⟩
theorem buildRPt (q : Nat) (a2 : Option Addr) (l c : Nat) (wx : World) : (Instr.build 42 #[(0, .int .i64 (q : Int)), (1, .slice a2 l c)]).run Tryz.prog wx = .ok (.agg (ptRow q (.slice a2 l c))) wx := by
 unfold ptRow
 kernel_rfl
theorem builtRPt (q : Nat) (a2 : Option Addr) (l c : Nat) : Tryz.prog.builtSlice 42 1 [(0, .agg (ptRow q (.slice a2 l c)))] = some (ptRow q (.slice a2 l c)) := by
 unfold ptRow
 kernel_rfl
theorem buildRR14 (w : World) : (Instr.build 36 #[]).run Tryz.prog w = .ok (.agg (refC zref)) w := by kernel_rfl
end Sha
end Go.Proofs.YtajdpbbbocnfiaaGreatDoor
namespace Go.Proofs.YtajdpbbbocnfiaaGreatDoor
namespace Sha
open Go.RowKit Mem
set_option maxRecDepth 100000
theorem infoSl14 : (Tryz.prog.info? 39).map (·.size) = some 1 := by kernel_rfl
set_option maxHeartbeats 8000000 in
theorem pwhole14_any {F : Foot} {b : Nat} {s : St6} (key : List (BitVec 8)) (p : Nat) (root : RefV) (w : World) (hT : TT w) (lk : key.length = 32) (hp : PSt F b w s) (hok : Ok6 1000 s) (hw0 : s.w = []) (h0 : 1 ≤ p) (h1 : p ≤ 216) (hrw : root.Wf) :
 Calls Tryz.prog 18 #[.pointer none, rq b, .agg (u8s key).toArray, .agg (psC p), .agg (refC root)] w (WhEnd w (wholeT s.b key p root)) := by
 have hit := itn_big p h0 h1
 have itm := fun wx => pitems_any p wx h1
 have rot := fun wx => proot_any p wx h1
 have pgs := fun wx => ppages_any p wx
 have kds := fun (i : Nat) wx (hi : p ≤ i) (hl : i < itn p) => by
  have h := pkids_own p (i : Int) wx h1
  rw [kidsZ_node hi hl] at h
  exact h
 have fk0 := fun (i : Nat) (r : RefV) wx (h : Below w.heap.size w wx) (hr : r.Wf) => pfetchKids_own key p (i : Int) r wx (hT.below h) lk (pst_below hp h) hok hw0 h1 hr
 have ft0 := fun (i : Nat) (r : RefV) wx (h : Below w.heap.size w wx) (hr : r.Wf) => pfetch14_any key p (i : Int) r wx (hT.below h) lk (pst_below hp h) hok hw0 h1 hr
 have hwf := fun k => wholeG_wf (B := s.b) (key := key) (p := p) hrw k
 obtain ⟨m, hm⟩ : ∃ m, m = itn p := ⟨_, rfl⟩
 obtain ⟨ok, hokf⟩ : ∃ f : Nat → Int, f = fun n => (wholeG s.b key p root (m - n)).2.2 := ⟨_, rfl⟩
 obtain ⟨WR, hWR⟩ : ∃ f : Nat → List RefV, f = fun n => (wholeG s.b key p root (m - n)).1 := ⟨_, rfl⟩
 obtain ⟨WP, hWP⟩ : ∃ f : Nat → List (List (BitVec 8)), f = fun n => (wholeG s.b key p root (m - n)).2.1 := ⟨_, rfl⟩
 obtain ⟨hd, hhd⟩ : ∃ f : Nat → RefV, f = fun n => (WR n).getD (n - 1) zref := ⟨_, rfl⟩
 obtain ⟨fk2, hfk2⟩ : ∃ f : Nat → List RefV × Int, f = fun n => fkT s.b key p ((n - 1 : Nat) : Int) (hd n) := ⟨_, rfl⟩
 obtain ⟨ft2, hft2⟩ : ∃ f : Nat → List (BitVec 8) × Int, f = fun n => fetchT s.b key p ((n - 1 : Nat) : Int) (hd n) := ⟨_, rfl⟩
 have rw0 : (List.replicate m zref).set (m - 1) root = WR m := by
  rw [hWR]; show _ = (wholeG s.b key p root (m - m)).1; rw [Nat.sub_self]
  show _ = List.replicate (itn p - 1) zref ++ [root]
  rw [← hm, show m = (m - 1) + 1 by omega, List.replicate_succ', List.set_append_right _ _ (by simp)]
  simp
 have ok0 : ok m = 0 := by rw [hokf]; show (wholeG s.b key p root (m - m)).2.2 = 0; rw [Nat.sub_self]; rfl
 have inv : ∀ n, n ≤ m → ok n = 0 → (WR n).length = m ∧ (WP n).length = p := fun n hn h => by
  rw [hokf] at h; rw [hWR, hWP]
  have g := whole_inv (B := s.b) (key := key) (root := root) h0 h1 (m - n) (by omega) h
  refine ⟨?_, g.lg⟩
  show (wholeG s.b key p root (m - n)).1.length = m
  rw [g.lr, hm]
 have rwf : ∀ n, ∀ r ∈ WR n, r.Wf := fun n => by rw [hWR]; exact hwf _
 have hdw : ∀ n, (hd n).Wf := fun n => by rw [hhd]; exact getD_wf (rwf n) _
 have node : ∀ n, p < n → n ≤ m → ok n = 0 → (fk2 n).2 = 0 → ok (n - 1) = 0 ∧ laidR (WR n) (fst p (n - 1)) (fk2 n).1 = WR (n - 1) := fun n hn hl h h2 => by
  rw [hokf] at h ⊢
  rw [hfk2, hhd, hWR] at h2
  have e1 : itn p - (m - n + 1) = n - 1 := by omega
  have e2 : m - (n - 1) = m - n + 1 := by omega
  have s1 := wholeG_node (k := m - n) h (by omega)
  rw [e1] at s1
  rw [if_neg (fun x => x h2)] at s1
  refine ⟨by show (wholeG s.b key p root (m - (n - 1))).2.2 = 0; rw [e2, s1], ?_⟩
  rw [hfk2, hhd, hWR]
  show _ = (wholeG s.b key p root (m - (n - 1))).1
  rw [e2, s1]
 have nodeE : ∀ n, p < n → n ≤ m → ok n = 0 → (fk2 n).2 ≠ 0 → wholeT s.b key p root = ([], [], (fk2 n).2) := fun n hn hl h h2 => by
  rw [hokf] at h
  have e1 : itn p - (m - n + 1) = n - 1 := by omega
  have s1 := wholeG_node (k := m - n) h (by omega)
  rw [e1] at s1
  have e5 : fkT s.b key p ((n - 1 : Nat) : Int) ((wholeG s.b key p root (m - n)).1.getD (n - 1) zref) = fk2 n := by rw [hfk2, hhd, hWR]
  rw [e5, if_pos h2] at s1
  exact wholeT_err (k := m - n + 1) (by omega) (by rw [s1]) h2
 have page : ∀ n, 0 < n → n ≤ p → ok n = 0 → (ft2 n).2 = 0 → ok (n - 1) = 0 ∧ WR (n - 1) = WR n ∧ (WP n).set (n - 1) (ft2 n).1 = WP (n - 1) := fun n hn hl h h2 => by
  rw [hokf] at h ⊢
  rw [hft2, hhd, hWR] at h2
  have e1 : itn p - (m - n + 1) = n - 1 := by omega
  have e2 : m - (n - 1) = m - n + 1 := by omega
  have s1 := wholeG_page (k := m - n) h (by omega)
  rw [e1] at s1
  rw [if_neg (fun x => x h2)] at s1
  refine ⟨by show (wholeG s.b key p root (m - (n - 1))).2.2 = 0; rw [e2, s1], ?_, ?_⟩
  ·rw [hWR]
   show (wholeG s.b key p root (m - (n - 1))).1 = _
   rw [e2, s1]
  ·rw [hft2, hhd, hWR, hWP]
   show _ = (wholeG s.b key p root (m - (n - 1))).2.1
   rw [e2, s1]
 have pageE : ∀ n, 0 < n → n ≤ p → ok n = 0 → (ft2 n).2 ≠ 0 → wholeT s.b key p root = ([], [], (ft2 n).2) := fun n hn hl h h2 => by
  rw [hokf] at h
  have e1 : itn p - (m - n + 1) = n - 1 := by omega
  have s1 := wholeG_page (k := m - n) h (by omega)
  rw [e1] at s1
  have e5 : fetchT s.b key p ((n - 1 : Nat) : Int) ((wholeG s.b key p root (m - n)).1.getD (n - 1) zref) = ft2 n := by rw [hft2, hhd, hWR]
  rw [e5, if_pos h2] at s1
  exact wholeT_err (k := m - n + 1) (by omega) (by rw [s1]) h2
 have pg0 : ok p = 0 → WP p = List.replicate p [] := fun h => by
  rw [hokf] at h; rw [hWP]
  exact wholeG_none (m - p) (by omega) h
 have fin : ok 0 = 0 → wholeT s.b key p root = (WR 0, WP 0, 0) := fun h => by
  rw [hokf] at h
  have h' : (wholeG s.b key p root (itn p)).2.2 = 0 := by rw [← hm]; exact h
  rw [wholeT_good h', hWR, hWP, ← hm]
  show wholeG s.b key p root m = ((wholeG s.b key p root (m - 0)).1, (wholeG s.b key p root (m - 0)).2.1, 0)
  rw [Nat.sub_zero]
  rw [← hm] at h'
  exact Prod.ext rfl (Prod.ext rfl h')
 have fkl : ∀ n, p < n → n ≤ m → (fk2 n).2 = 0 → (fk2 n).1.length = many p (n - 1) := fun n hn hl h => by
  rw [hfk2] at h ⊢
  exact fkT_len (by omega) (by omega) h
 have kid : ∀ n, p < n → n ≤ m → 1 ≤ many p (n - 1) ∧ fst p (n - 1) + many p (n - 1) ≤ n - 1 ∧ many p (n - 1) ≤ 6 := fun n hn hl => ⟨(node_kids p (n - 1) h0 h1 (by omega) (by omega)).1, (node_kids p (n - 1) h0 h1 (by omega) (by omega)).2, many_le _ _⟩
 have fkw : ∀ n, ∀ r ∈ (fk2 n).1, r.Wf := fun n => by rw [hfk2]; exact fkT_wf _ _ _ _ _
 have kds : ∀ n wx, p < n → n ≤ m → Calls Tryz.prog 51 #[.agg (psC p), .int .i64 ((n - 1 : Nat) : Int)] wx (OwnI wx (kz p (n - 1) (many p (n - 1)))) := fun n wx hn hl => kds (n - 1) wx (by omega) (by omega)
 have fk : ∀ n wx, Below w.heap.size w wx → Calls Tryz.prog 50 #[.pointer none, rq b, .agg (u8s key).toArray, .agg (psC p), .int .i64 ((n - 1 : Nat) : Int), .agg (refC (hd n))] wx (RfOwn 31 wx (fk2 n).1 (fk2 n).2) := fun n wx h => by rw [hfk2]; exact fk0 (n - 1) (hd n) wx h (hdw n)
 have ft : ∀ n wx, Below w.heap.size w wx → Calls Tryz.prog 25 #[.pointer none, rq b, .agg (u8s key).toArray, .agg (psC p), .int .i64 ((n - 1 : Nat) : Int), .agg (refC (hd n))] wx (FtEnd wx (ft2 n).1 (ft2 n).2) := fun n wx h => by rw [hft2]; exact ft0 (n - 1) (hd n) wx h (hdw n)
 clear fk0 ft0
 have hdg : ∀ n, (WR n).getD (n - 1) zref = hd n := fun n => by rw [hhd]
 have kzl : ∀ n, (kz p (n - 1) (many p (n - 1))).length = many p (n - 1) := fun n => kz_length _ _ _
 have kzg : ∀ n t, t < many p (n - 1) → (kz p (n - 1) (many p (n - 1))).getD t 0 = ((fst p (n - 1) + t : Nat) : Int) := fun n t ht => kz_get _ _ _ _ ht
 obtain ⟨Y, hY⟩ : ∃ Y, Y = wholeT s.b key p root := ⟨_, rfl⟩
 rw [← hY] at nodeE pageE fin ⊢
 obtain ⟨mn, hmn⟩ : ∃ f : Nat → Nat, f = fun n => many p (n - 1) := ⟨_, rfl⟩
 obtain ⟨fs, hfs⟩ : ∃ f : Nat → Nat, f = fun n => fst p (n - 1) := ⟨_, rfl⟩
 obtain ⟨kzn, hkzn⟩ : ∃ f : Nat → List Int, f = fun n => kz p (n - 1) (many p (n - 1)) := ⟨_, rfl⟩
 have kds : ∀ n wx, p < n → n ≤ m → Calls Tryz.prog 51 #[.agg (psC p), .int .i64 ((n - 1 : Nat) : Int)] wx (OwnI wx (kzn n)) := fun n wx hn hl => by rw [hkzn]; exact kds n wx hn hl
 have kzl : ∀ n, (kzn n).length = mn n := fun n => by rw [hkzn, hmn]; exact kzl n
 have kzg : ∀ n t, t < mn n → (kzn n).getD t 0 = ((fs n + t : Nat) : Int) := fun n t ht => by rw [hkzn, hfs]; rw [hmn] at ht; exact kzg n t ht
 have node : ∀ n, p < n → n ≤ m → ok n = 0 → (fk2 n).2 = 0 → ok (n - 1) = 0 ∧ laidR (WR n) (fs n) (fk2 n).1 = WR (n - 1) := fun n a c d e => by rw [hfs]; exact node n a c d e
 have fkl : ∀ n, p < n → n ≤ m → (fk2 n).2 = 0 → (fk2 n).1.length = mn n := fun n a c d => by rw [hmn]; exact fkl n a c d
 have kid : ∀ n, p < n → n ≤ m → 1 ≤ mn n ∧ fs n + mn n ≤ n - 1 ∧ mn n ≤ 6 := fun n a c => by rw [hmn, hfs]; exact kid n a c
 rw [← hm] at itm rot hit
 have hro : (m : Int) - 1 = ((m - 1 : Nat) : Int) := by omega
 rw [hro] at rot
 obtain ⟨i2, hi2, hz2, hs2, hb2⟩ := info_parts elemRP.2
 have rs := refC_size hrw; have ro := refC_one root
 obtain ⟨M, hM⟩ : ∃ M, M = refC root := ⟨_, rfl⟩
 have hrm : refL root = M.toList := by rw [hM]; rfl
 have kc : (u8s key).toArray.size = 32 := by simp [u8s_length, lk]
 obtain ⟨KC, hKC⟩ : ∃ K, K = (u8s key).toArray := ⟨_, rfl⟩
 have cs : (psC p).size = 1 := rfl
 obtain ⟨C, hC⟩ : ∃ C, C = psC p := ⟨_, rfl⟩
 rw [← hM] at rs ro ⊢
 rw [← hKC] at kc ft fk ⊢
 rw [← hC] at itm rot pgs kds ft fk cs ⊢
 have a0 : At (((w.alloc (.cells KC 22)).alloc (.cells C 48)).alloc (.cells M 31)) w.heap.size KC 22 := ((at_new w KC _).alloc _).alloc _
 have a1 : At (((w.alloc (.cells KC 22)).alloc (.cells C 48)).alloc (.cells M 31)) (w.heap.size + 1) C 48 := by
  have h := (at_new (w.alloc (.cells KC 22)) C 48).alloc (.cells M 31)
  simpa using h
 have a2 : At (((w.alloc (.cells KC 22)).alloc (.cells C 48)).alloc (.cells M 31)) (w.heap.size + 1 + 1) M 31 := by
  have h := at_new ((w.alloc (.cells KC 22)).alloc (.cells C 48)) M 31
  simpa using h
 have b4 : Below w.heap.size w (((w.alloc (.cells KC 22)).alloc (.cells C 48)).alloc (.cells M 31)) := (((Below.refl _ _).alloc (Nat.le_refl _) _).alloc (by simp) _).alloc (by simp; omega) _
 have kds : ∀ (i : Nat) wx, p ≤ i → i < m → Calls Tryz.prog 51 #[.agg C, .int .i64 (i : Int)] wx (OwnI wx (kzn (i + 1))) := fun i wx a c => kds (i + 1) wx (by omega) (by omega)
 have fk : ∀ (i : Nat) wx, Below w.heap.size w wx → Calls Tryz.prog 50 #[.pointer none, rq b, .agg KC, .agg C, .int .i64 (i : Int), .agg (refC (hd (i + 1)))] wx (RfOwn 31 wx (fk2 (i + 1)).1 (fk2 (i + 1)).2) := fun i wx h => fk (i + 1) wx h
 have ft : ∀ (i : Nat) wx, Below w.heap.size w wx → Calls Tryz.prog 25 #[.pointer none, rq b, .agg KC, .agg C, .int .i64 (i : Int), .agg (refC (hd (i + 1)))] wx (FtEnd wx (ft2 (i + 1)).1 (ft2 (i + 1)).2) := fun i wx h => ft (i + 1) wx h
 have node : ∀ i, p ≤ i → i < m → ok (i + 1) = 0 → (fk2 (i + 1)).2 = 0 → ok i = 0 ∧ laidR (WR (i + 1)) (fs (i + 1)) (fk2 (i + 1)).1 = WR i := fun i a c d e => node (i + 1) (by omega) (by omega) d e
 have page : ∀ i, i < p → ok (i + 1) = 0 → (ft2 (i + 1)).2 = 0 → ok i = 0 ∧ WR i = WR (i + 1) ∧ (WP (i + 1)).set i (ft2 (i + 1)).1 = WP i := fun i a c d => page (i + 1) (by omega) (by omega) c d
 have hdg : ∀ i, (WR (i + 1)).getD i zref = hd (i + 1) := fun i => hdg (i + 1)
 have kid : ∀ i, p ≤ i → i < m → 1 ≤ mn (i + 1) ∧ fs (i + 1) + mn (i + 1) ≤ i ∧ mn (i + 1) ≤ 6 := fun i a c => kid (i + 1) (by omega) (by omega)
 unfold WhEnd
 have IT := zh itm; have RT := zh rot; have PG := zh pgs; have KD := zh kds; have FK := zh fk; have FTH := zh ft; have RW0 := zh rw0; have OK0 := zh ok0; have INV := zh inv; have RWF := zh rwf; have HDW := zh hdw; have ND := zh node; have NE := zh nodeE; have PD := zh page; have PE := zh pageE; have PG0 := zh pg0; have FIN := zh fin; have FKL := zh fkl; have KID := zh kid; have FKW := zh fkw; have HDG := zh hdg; have KZL := zh kzl; have KZG := zh kzg
 have I2 := zh hi2; have Z2 := zh hz2; have S2 := zh hs2; have B2 := zh hb2; have RS := zh rs; have RO := zh ro; have HM := zh hrm; have KS := zh kc; have CS := zh cs; have RWF0 := zh hrw
 have A0 := zh a0; have A1 := zh a1; have A2 := zh a2; have B4 := zh b4
 clear itm rot pgs kds fk ft rw0 ok0 inv rwf hdw node nodeE page pageE pg0 fin fkl kid fkw hdg kzl kzg hi2 hz2 hs2 hb2 rs ro hrm kc cs hrw a0 a1 a2 b4
 clear hM hKC hC hY hmn hfs hkzn hm hokf hWR hWP hhd hfk2 hft2 hT lk hp hok hw0 hwf hro
 go_enter Tryz.func18, Tryz.ntmps18
 go_upto_region 1 with fail
 generalize ((w.alloc (.cells KC 22)).alloc (.cells C 48)).alloc (.cells M 31) = w4 at *
 have hm0 : ¬ (m : Int) = 0 := by omega
 have hm2 : ¬ (0 : Int) = (m : Int) := by omega
 go_wp2_with (refine wpList_load_all zr 48 _ zr (w.heap.size + 1) zr _ Tryz.underlying48 zr C _ A1.out (by rw [CS.out]; exact infoPS) ?_)
 refine (IT.out _).mono ?_
 rintro e w5 ⟨rfl, hb5⟩
 have B5 := zh (B4.out.trans (hb5.mono B4.out.size)); have A05 := zh (A0.out.below hb5 A0.out.lt); have A15 := zh (A1.out.below hb5 A1.out.lt); have A25 := zh (A2.out.below hb5 A2.out.lt)
 clear hb5 A0 A1 A2 B4
 go_wp2_with (refine wpList_load_all zr 48 _ zr (w.heap.size + 1) zr _ Tryz.underlying48 zr C _ A15.out (by rw [CS.out]; exact infoPS) ?_)
 refine (IT.out _).mono ?_
 rintro e w6 ⟨rfl, hb6⟩
 have B6 := zh (B5.out.trans (hb6.mono B5.out.size)); have A06 := zh (A05.out.below hb6 A05.out.lt); have A16 := zh (A15.out.below hb6 A15.out.lt); have A26 := zh (A25.out.below hb6 A25.out.lt)
 clear hb6 A05 A15 A25 B5 hm0 hm2
 go_upto_region 4 with (refine wpList_make_full _ zr _ _ 64 zr w6.heap.size 31 i2 (.agg (refC zref)) 34 Tryz.underlying64 I2.out Z2.out S2.out .i64 .i64 (m : Int) (m : Int) m zr zr zr zr (by rw [B2.out]; omega) (by simp [maxLen]; omega) (Nat.le_refl _) ?_; intro w7 ho7 hg7; have O7 := zh ho7; have B7 : Hid (Below w6.heap.size w6 w7) := zh ((Below.refl _ _).grown hg7 (Nat.le_refl _) (fun k e => by cases e)); clear ho7 hg7)
 have o7 : OwnRf w7 w6.heap.size 31 (.slice (some ⟨w6.heap.size, 0, none⟩) m m) (List.replicate m zref) := by
  have h := O7.out
  rw [made_refs] at h
  show w7.ownsRow _ _ _ _ (List.replicate m zref).length _
  rw [List.length_replicate]
  exact h
 obtain ⟨g, hg⟩ : ∃ g, g = w6.heap.size := ⟨_, rfl⟩
 have HG := zh hg
 have O8 : Hid (OwnRf w7 w6.heap.size 31 (.slice (some ⟨g, 0, none⟩) m m) (List.replicate m zref)) := zh (by rw [hg]; exact o7)
 have A07 := zh (A06.out.below B7.out A06.out.lt); have A17 := zh (A16.out.below B7.out A16.out.lt); have A27 := zh (A26.out.below B7.out A26.out.lt)
 rw [← hg]
 clear hg o7 O7
 have GL : Hid (g < w7.heap.size) := zh (World.ownsRow.lt O8.out g rfl).2
 have LB : Hid (w.heap.size + 1 + 1 < w6.heap.size) := zh A26.out.lt
 go_upto_region 4 with fail
 refine wp_region_plan_in (fun y => At y (w.heap.size + 1) C 48 ∧ At y (w.heap.size + 1 + 1) M 31) (.take 0 (.take 1 (.take 3 (.sole 2 (.take 4 (.sole 5 .done)))))) (by kernel_rfl) (by kernel_rfl) (by kernel_rfl) ⟨A17.out.drew, A27.out.drew⟩ ?_
 (first | refine Mem.pm1 ?_ | refine Mem.pm2 ?_ | refine Mem.pt ?_ | refine Mem.pf ?_)
 (simp only [Act.put, Mem.pa, Mem.pb, Mem.pc])
 refine plan_row 48 _ (w.heap.size + 1) _ C 48 zr zr zr Mem.ev_a (fun w' hw' => hw'.1) Tryz.underlying48 zr (by rw [CS.out]; exact infoPS) ?_
 (simp only [Act.put, Mem.pa, Mem.pb, Mem.pc])
 refine plan_row 31 _ (w.heap.size + 1 + 1) _ M 31 zr zr zr Mem.ev_a (fun w' hw' => hw'.2) Tryz.underlying31 zr (by rw [RS.out]; exact infoRfP) ?_
 (simp only [Act.put, Mem.pa, Mem.pb, Mem.pc])
 refine plan_call 36 _ _ _ (by kernel_rfl) zr zr zr (by first | exact Mem.ev_none _ | (simp only [List.map_toArray, List.map_cons, List.map_nil, Mem.ev_tmp, List.getD_cons_succ, List.getD_cons_zero] <;> rfl)) ?_
 refine (RT.out w7.drew).mono ?_
 rintro e w8 ⟨rfl, hb8⟩
 have Q8 : Hid (Below w7.heap.size w7 w8) := zh (((Below.refl _ _).drew).trans (hb8.mono (Nat.le_refl _)))
 have A08 := zh (A07.out.below Q8.out A07.out.lt); have A18 := zh (A17.out.below Q8.out A17.out.lt); have A28 := zh (A27.out.below Q8.out A27.out.lt)
 have B8 : Hid (Below w6.heap.size w6 w8) := zh (B7.out.trans (Q8.out.mono B7.out.size))
 clear hb8
 refine ⟨_, rfl, ⟨A18.out, A28.out⟩, ?_⟩
 (simp only [Act.put, Mem.pa, Mem.pb, Mem.pc])
 refine plan_index_z 64 31 _ _ g 0 m m 34 (m - 1) zr zr zr Mem.ev_a Mem.ev_a (by omega) Tryz.underlying64 infoRfP ?_
 (simp only [Act.put, Mem.pa, Mem.pb, Mem.pc])
 have o9 : OwnRf w8 w6.heap.size 31 (.slice (some ⟨g, 0, none⟩) m m) (List.replicate m zref) := ownsRow_below O8.out Q8.out
 obtain ⟨g', cap', cur, ev, hgB, hgl, hcur, hfit, hown⟩ := own_store (i := m - 1) o9 (fun r hr => by rw [List.eq_of_mem_replicate hr]; exact zref_wf) RWF0.out (by simp; omega)
 injection ev with ev1 ev2 ev3
 injection ev1 with ev1
 injection ev1 with ev1 _ _
 subst ev1
 clear ev2 ev3
 rw [RW0.out, HM.out] at hown
 have OWN := zh hown
 have hne : w.heap.size + 1 + 1 ≠ g := by have := LB.out; have := HG.out; omega
 have hne1 : w.heap.size + 1 ≠ g := by have := LB.out; have := HG.out; omega
 have hne0 : w.heap.size ≠ g := by have := LB.out; have := HG.out; omega
 refine plan_store_at 31 _ _ g (0 + (m - 1) * 34) M cur (Mem.splice cur ((m - 1) * 34) M.toList) 31 zr zr zr zr Mem.ev_a Mem.ev_a (by rw [RS.out]; exact infoRfP) hcur (by rw [RS.out, Nat.zero_add]; exact hfit) RO.out (by rw [Nat.zero_add]) ⟨A18.out.row_other _ hne1, A28.out.row_other _ hne⟩ ?_
 refine plan_nil ?_
 have B9 : Hid (Below w6.heap.size w6 (w8.setRow g (Mem.splice cur ((m - 1) * 34) M.toList))) := zh (below_row B8.out hgB _)
 have A09 : Hid (At (w8.setRow g (Mem.splice cur ((m - 1) * 34) M.toList)) w.heap.size KC 22) := zh (A08.out.row_other _ hne0)
 have A19 : Hid (At (w8.setRow g (Mem.splice cur ((m - 1) * 34) M.toList)) (w.heap.size + 1) C 48) := zh (A18.out.row_other _ hne1)
 generalize w8.setRow g (Mem.splice cur ((m - 1) * 34) M.toList) = w9 at *
 clear o9 hgB hgl hcur hfit hown hne hne1 hne0 A07 A17 A27 A08 A18 A28 Q8 B8 B7 O8 GL
 go_wp2_with (refine wpList_load_all zr 48 _ zr (w.heap.size + 1) zr _ Tryz.underlying48 zr C _ A19.out (by rw [CS.out]; exact infoPS) ?_)
 refine (RT.out _).mono ?_
 rintro e w10 ⟨rfl, hb10⟩
 have B10 : Hid (Below w6.heap.size w6 w10) := zh (B9.out.trans (hb10.mono B9.out.size))
 have O10 : Hid (OwnRf w10 w6.heap.size 31 (.slice (some ⟨g, 0, none⟩) m m) (WR m)) := zh (ownsRow_below OWN.out hb10)
 clear hb10 OWN B9 A09 A19
 obtain ⟨i0, hi0⟩ : ∃ i, i = m - 1 := ⟨_, rfl⟩
 have hi01 : i0 + 1 = m := by omega
 have HI0 := zh hi01
 rw [← hi0]
 clear hi0 hi01
 go_wp2_with fail
 go_loopw [14] (fun vi wr => ∃ i : Nat, p ≤ i + 1 ∧ i + 1 ≤ m ∧ vi = .int .i64 (i : Int) ∧ ok (i + 1) = 0 ∧ OwnRf wr w6.heap.size 31 (.slice (some ⟨g, 0, none⟩) m m) (WR (i + 1)) ∧ Below w6.heap.size w6 wr) (fun vi _ => (intOf vi).toNat)
 case atStart => exact ⟨i0, by have := HI0.out; omega, by have := HI0.out; omega, rfl, by rw [HI0.out]; exact OK0.out, by rw [HI0.out]; exact O10.out, B10.out⟩
 case round =>
  clear O10 B10 HI0
  obtain ⟨i, hpi, him, rfl, hk0, ho, hbw⟩ := hrel
  have OW := zh ho; have BW := zh hbw; have OK := zh hk0
  have A0W := zh (A06.out.below hbw A06.out.lt); have A1W := zh (A16.out.below hbw A16.out.lt)
  clear ho hbw hk0
  go_wp2_with (refine wpList_load_all zr 48 _ zr (w.heap.size + 1) zr _ Tryz.underlying48 zr C _ A1W.out (by rw [CS.out]; exact infoPS) ?_)
  refine (PG.out _).mono ?_
  rintro e w11 ⟨rfl, hb11⟩
  have O11 : Hid (OwnRf w11 w6.heap.size 31 (.slice (some ⟨g, 0, none⟩) m m) (WR (i + 1))) := zh (ownsRow_below OW.out hb11)
  have B11 : Hid (Below w6.heap.size w6 w11) := zh (BW.out.trans (hb11.mono BW.out.size)); have A01 := zh (A0W.out.below hb11 A0W.out.lt); have A11 := zh (A1W.out.below hb11 A1W.out.lt)
  clear hb11 OW BW A0W A1W
  have BX : Hid (Below w.heap.size w w11) := zh (B6.out.trans (B11.out.mono B6.out.size))
  obtain ⟨hl1, hl2⟩ := INV.out (i + 1) him OK.out
  have HL1 := zh hl1; have HL2 := zh hl2
  clear hl1 hl2
  by_cases hge : p ≤ i
  ·have hge2 : (p : Int) ≤ (i : Int) := by omega
   have hdr : ∀ y, Below w11.heap.size w11 y → y.rangeAt g (0 + i * 34) (refL (hd (i + 1))) := fun y hy => by
    have h := slrf_cell (i := i) ((own_slrf O11.out (RWF.out _)).below hy) HL1.out.symm (by omega)
    rw [HDG.out] at h
    exact h
   have hfk := FK.out i w11.drew ((BX.out).drew)
   have her := NE.out (i + 1) (by omega) him OK.out
   have hnd := ND.out i hge (by omega) OK.out
   have hfl := FKL.out (i + 1) (by omega) him
   have hfw := FKW.out (i + 1)
   obtain ⟨k1, k2, k3⟩ := KID.out i hge (by omega)
   have hds := refC_size (HDW.out (i + 1))
   obtain ⟨HM1, hHM1⟩ : ∃ m, m = refC (hd (i + 1)) := ⟨_, rfl⟩
   have hdm : refL (hd (i + 1)) = HM1.toList := by rw [hHM1]; rfl
   rw [← hHM1] at hfk hds
   rw [hdm] at hdr
   obtain ⟨kL, e, hke⟩ : ∃ a c, fk2 (i + 1) = (a, c) := ⟨_, _, rfl⟩
   rw [hke] at hfk her hnd hfl hfw
   simp only at hfk her hnd hfl hfw
   obtain ⟨c, hc⟩ : ∃ c, c = mn (i + 1) := ⟨_, rfl⟩
   obtain ⟨f, hf⟩ : ∃ f, f = fs (i + 1) := ⟨_, rfl⟩
   rw [← hc] at hfl k1 k2 k3
   rw [← hf] at hnd k2
   have hkd := KD.out i
   have hkzl := KZL.out (i + 1)
   have hkzg := KZG.out (i + 1)
   rw [← hc] at hkzl hkzg
   rw [← hf] at hkzg
   obtain ⟨KZ1, hKZ1⟩ : ∃ K, K = kzn (i + 1) := ⟨_, rfl⟩
   rw [← hKZ1] at hkd hkzl hkzg
   have FKI := zh hfk; have ERI := zh her; have NDI := zh hnd; have FLI := zh hfl; have FWI := zh hfw; have HDS := zh hds; have HDR := zh hdr; have KDI := zh (fun wx => hkd wx hge (by omega)); have KZLI := zh hkzl; have KZGI := zh hkzg
   clear hfk her hnd hfl hfw hds hdm hdr hHM1 hke hkd hkzl hkzg hKZ1 hc hf
   go_upto_region 8 with fail
   have D0 : Hid (Below w11.heap.size w11 w11.drew) := zh (Below.refl _ _).drew
   refine wp_region_plan_in (fun y => Below w11.heap.size w11 y) (.take 0 (.take 1 (.take 2 (.take 3 (.take 4 (.take 5 (.take 6 (.take 7 (.take 8 (.sole 9 (.take 10 (.take 11 (.take 12 (.take 13 (.take 14 .done))))))))))))))) (by kernel_rfl) (by kernel_rfl) (by kernel_rfl) D0.out ?_
   (first | refine Mem.pm1 ?_ | refine Mem.pm2 ?_ | refine Mem.pt ?_ | refine Mem.pf ?_)
   (simp only [Act.put, Mem.pa, Mem.pb, Mem.pc])
   (first | refine Mem.pm1 ?_ | refine Mem.pm2 ?_ | refine Mem.pt ?_ | refine Mem.pf ?_)
   (simp only [Act.put, Mem.pa, Mem.pb, Mem.pc])
   refine plan_row 22 _ w.heap.size _ KC 22 zr zr zr Mem.ev_a (fun w' hw' => A01.out.below hw' A01.out.lt) Tryz.underlying22 zr (by rw [KS.out]; kernel_rfl) ?_
   (simp only [Act.put, Mem.pa, Mem.pb, Mem.pc])
   refine plan_row 48 _ (w.heap.size + 1) _ C 48 zr zr zr Mem.ev_a (fun w' hw' => A11.out.below hw' A11.out.lt) Tryz.underlying48 zr (by rw [CS.out]; exact infoPS) ?_
   (simp only [Act.put, Mem.pa, Mem.pb, Mem.pc])
   (first | refine Mem.pm1 ?_ | refine Mem.pm2 ?_ | refine Mem.pt ?_ | refine Mem.pf ?_)
   (simp only [Act.put, Mem.pa, Mem.pb, Mem.pc])
   (first | refine Mem.pm1 ?_ | refine Mem.pm2 ?_ | refine Mem.pt ?_ | refine Mem.pf ?_)
   (simp only [Act.put, Mem.pa, Mem.pb, Mem.pc])
   (first | refine Mem.pm1 ?_ | refine Mem.pm2 ?_ | refine Mem.pt ?_ | refine Mem.pf ?_)
   (simp only [Act.put, Mem.pa, Mem.pb, Mem.pc])
   refine plan_index_z 64 31 _ _ g 0 m m 34 i zr zr zr Mem.ev_a Mem.ev_a (by omega) Tryz.underlying64 infoRfP ?_
   (simp only [Act.put, Mem.pa, Mem.pb, Mem.pc])
   refine plan_load_range 31 _ g (0 + i * 34) _ HM1 zr zr zr Mem.ev_a (fun w' hw' => HDR.out w' hw') Tryz.underlying31 zr (by rw [HDS.out]; exact infoRfP) ?_
   (simp only [Act.put, Mem.pa, Mem.pb, Mem.pc])
   refine plan_call 50 _ _ _ (by kernel_rfl) zr zr zr (by first | exact Mem.ev_none _ | (simp only [List.map_toArray, List.map_cons, List.map_nil, Mem.ev_tmp, List.getD_cons_succ, List.getD_cons_zero] <;> rfl)) ?_
   refine (FKI.out).mono ?_
   rintro o8 w12 ⟨vk8, rfl, hr8, hb8⟩
   have R12 : Hid (OwnRf w12 w11.heap.size 31 vk8 kL) := zh hr8
   have Q12 : Hid (Below w11.heap.size w11 w12) := zh (D0.out.trans (hb8.mono (Nat.le_refl _)))
   clear hr8 hb8
   refine ⟨_, rfl, Q12.out, ?_⟩
   (simp only [Act.put, Mem.pa, Mem.pb, Mem.pc])
   (first | refine Mem.pm1 ?_ | refine Mem.pm2 ?_ | refine Mem.pt ?_ | refine Mem.pf ?_)
   (simp only [Act.put, Mem.pa, Mem.pb, Mem.pc])
   refine plan_extract _ 0 _ _ zr zr zr Mem.ev_a zr ?_
   (simp only [Act.put, Mem.pa, Mem.pb, Mem.pc])
   refine plan_extract _ 1 _ _ zr zr zr Mem.ev_a zr ?_
   (simp only [Act.put, Mem.pa, Mem.pb, Mem.pc])
   (first | refine Mem.pm1 ?_ | refine Mem.pm2 ?_ | refine Mem.pt ?_ | refine Mem.pf ?_)
   (simp only [Act.put, Mem.pa, Mem.pb, Mem.pc])
   (first | refine Mem.pm1 ?_ | refine Mem.pm2 ?_ | refine Mem.pt ?_ | refine Mem.pf ?_)
   (simp only [Act.put, Mem.pa, Mem.pb, Mem.pc])
   refine plan_nil ?_
   have BX12 : Hid (Below w.heap.size w w12) := zh (BX.out.trans (Q12.out.mono BX.out.size))
   by_cases he : e = 0
   ·subst he
    have hfl := FLI.out rfl
    obtain ⟨s1, s2⟩ := NDI.out rfl
    have S1 := zh s1; have S2' := zh s2; have HFL := zh hfl
    obtain ⟨ak8, ck8, e8⟩ := rows_hd R12.out
    rw [hfl] at e8
    subst e8
    have O12 : Hid (OwnRf w12 w6.heap.size 31 (.slice (some ⟨g, 0, none⟩) m m) (WR (i + 1))) := zh (ownsRow_below O11.out Q12.out)
    have B12 : Hid (Below w6.heap.size w6 w12) := zh (B11.out.trans (Q12.out.mono B11.out.size))
    have A12 := zh (A11.out.below Q12.out A11.out.lt)
    have GL : Hid (g < w11.heap.size) := zh (World.ownsRow.lt O11.out g rfl).2
    clear s1 s2 hfl
    go_wp2_with (refine wpList_load_all zr 48 _ zr (w.heap.size + 1) zr _ Tryz.underlying48 zr C _ A12.out (by rw [CS.out]; exact infoPS) ?_)
    refine (KDI.out _).mono ?_
    rintro e w13 ⟨vz, rfl, hz, hb13⟩
    obtain ⟨az, cz, ez, _⟩ := OwnV.open hz
    rw [iz_length, KZLI.out] at ez
    subst ez
    have Z13 : Hid (OwnV w13 w11.heap.size 3 (.slice az c cz) (iz KZ1)) := zh (ownsRow_base hz Q12.out.size)
    have R13 : Hid (OwnRf w13 w11.heap.size 31 (.slice ak8 c ck8) kL) := zh (ownsRow_below R12.out hb13)
    have O13 : Hid (OwnRf w13 w6.heap.size 31 (.slice (some ⟨g, 0, none⟩) m m) (laidR (WR (i + 1)) f (kL.take 0))) := zh (by
     rw [List.take_zero, laidR_none]
     exact ownsRow_below O12.out hb13)
    have B13 : Hid (Below w6.heap.size w6 w13) := zh (B12.out.trans (hb13.mono B12.out.size))
    clear hz hb13 O12 B12 R12 A12
    go_wp2_with fail
    go_loopw [62] (fun vt wq => ∃ t : Nat, t ≤ c ∧ vt = .int .i64 (t : Int) ∧ OwnRf wq w6.heap.size 31 (.slice (some ⟨g, 0, none⟩) m m) (laidR (WR (i + 1)) f (kL.take t)) ∧ OwnRf wq w11.heap.size 31 (.slice ak8 c ck8) kL ∧ OwnV wq w11.heap.size 3 (.slice az c cz) (iz KZ1) ∧ Below w6.heap.size w6 wq) (fun vt _ => c - (intOf vt).toNat)
    case atStart => exact ⟨0, by omega, rfl, O13.out, R13.out, Z13.out, B13.out⟩
    case round =>
     clear O13 R13 Z13 B13
     obtain ⟨t, htc, rfl, ho, hr, hz, hbq⟩ := hrel
     have OQ := zh ho; have RQ := zh hr; have ZQ := zh hz; have BQ := zh hbq
     clear ho hr hz hbq
     by_cases hlt : t < c
     ·have hlt2 : (t : Int) < (c : Int) := by omega
      obtain ⟨zb, zo, ea, _, hzc⟩ := sli_at (i := t) (ownV_sli ZQ.out) KZLI.out.symm hlt
      rw [KZGI.out t hlt] at hzc
      subst ea
      obtain ⟨kb, kof, ea, hkl, hkr⟩ := slrf_at (i := t) (own_slrf RQ.out FWI.out) HFL.out.symm hlt
      subst ea
      obtain ⟨q, hq⟩ : ∃ q, q = f + t := ⟨_, rfl⟩
      rw [← hq] at hzc
      have hqm : (q : Int) < (m : Int) := by omega
      obtain ⟨rr, hrr⟩ : ∃ r, r = kL.getD t zref := ⟨_, rfl⟩
      rw [← hrr] at hkr
      have hrw : rr.Wf := by rw [hrr]; exact getD_wf FWI.out t
      have rs1 := refC_size hrw; have ro1 := refC_one rr
      obtain ⟨RM, hRM⟩ : ∃ m, m = refC rr := ⟨_, rfl⟩
      have hrm1 : refL rr = RM.toList := by rw [hRM]; rfl
      rw [← hRM] at rs1 ro1
      have hlk : kL.length = c := HFL.out
      have hset := laidR_set (R := WR (i + 1)) (f := f) (L := kL) (t := t) (by rw [HL1.out]; omega) (by omega)
      have hll := laidR_length (R := WR (i + 1)) (f := f) (L := kL.take t) (by rw [HL1.out, List.length_take]; omega)
      obtain ⟨g', cap', cur, ev, hgB, hgl, hcur, hfit, hown⟩ := own_store (i := q) OQ.out (laidR_wf (RWF.out _) fun r hr => FWI.out r (List.mem_of_mem_take hr)) hrw (by rw [hll, HL1.out]; omega)
      injection ev with ev1 ev2 ev3
      injection ev1 with ev1
      injection ev1 with ev1 _ _
      subst ev1
      clear ev2 ev3
      rw [hq, hrr, hset, ← hrr, ← hq, hrm1] at hown
      rw [hrm1] at hkr
      have hother : ∀ k, k ≠ g → (wr.setRow g (Mem.splice cur (q * 34) RM.toList)).heap[k]? = wr.heap[k]? := fun k hne => setRow_other wr g k _ hne
      have CUR := zh hcur; have FIT := zh hfit; have OWN := zh hown; have RS1 := zh rs1; have RO1 := zh ro1; have RG1 := zh hkr
      have BN : Hid (Below w6.heap.size w6 (wr.setRow g (Mem.splice cur (q * 34) RM.toList))) := zh (below_row BQ.out hgB _)
      have RN : Hid (OwnRf (wr.setRow g (Mem.splice cur (q * 34) RM.toList)) w11.heap.size 31 (.slice (some ⟨kb, kof, none⟩) c ck8) kL) := zh (ownsRow_keep RQ.out fun k hk => hother k (by have := (World.ownsRow.lt RQ.out k hk).1; have := GL.out; omega))
      have ZN : Hid (OwnV (wr.setRow g (Mem.splice cur (q * 34) RM.toList)) w11.heap.size 3 (.slice (some ⟨zb, zo, none⟩) c cz) (iz KZ1)) := zh (ownsRow_keep ZQ.out fun k hk => hother k (by have := (World.ownsRow.lt ZQ.out k hk).1; have := GL.out; omega))
      clear hkr hrr hrw rs1 ro1 hRM hrm1 hset hll hgB hgl hcur hfit hown hother hkl hlk hq
      go_wp2_with (first
       | (refine wpList_load_mid zr 31 _ zr kb (kof + t * 34) zr RM.toList _ RG1.out Tryz.underlying31 zr (by rw [infoRfP, Array.length_toList, RS1.out]) ?_; rw [Array.toArray_toList])
       | (refine wpList_store_at zr 31 _ _ zr zr g (q * 34) RM zr zr (by rw [RS1.out]; exact infoRfP) cur 31 CUR.out (by rw [RS1.out]; exact FIT.out) RO1.out ?_))
      go_roundw
      case rel => exact ⟨t + 1, by omega, by go_num, OWN.out, RN.out, ZN.out, BN.out⟩
      case measure => simp [intOf]; omega
     ·have htc2 : t = c := by omega
      have hge3 : ¬ (t : Int) < (c : Int) := by omega
      have hon : OwnRf wr w6.heap.size 31 (.slice (some ⟨g, 0, none⟩) m m) (WR i) := by
       have h := OQ.out
       rw [htc2, ← HFL.out, List.take_length, S2'.out] at h
       exact h
      have ON := zh hon
      obtain ⟨j, hj⟩ : ∃ j, j + 1 = i := ⟨i - 1, by omega⟩
      have hji : (i : Int) - 1 = (j : Int) := by omega
      have HJ := zh hj
      have hjp : p ≤ j + 1 := by omega
      have hjm : j + 1 ≤ m := by omega
      clear hon hj OQ
      go_wp2_with fail
      go_roundw
      case rel => exact ⟨j, hjp, hjm, rfl, by rw [HJ.out]; exact S1.out, by rw [HJ.out]; exact ON.out, BQ.out⟩
      case measure => simp [intOf]; omega
   ·have hy := ERI.out he
    have HY := zh hy
    have hne : ¬ e = 0 := he
    clear hy he
    go_wp2_with fail
    go_ret3
    exact ⟨_, _, by rw [HY.out]; rfl, by rw [HY.out]; exact SlRf.nil _, by rw [HY.out]; exact ⟨none, 0, rfl, Nat.le_refl _, fun h => absurd rfl h⟩, BX12.out⟩
  ·have hip : i + 1 = p := by omega
   have hge2 : ¬ (p : Int) ≤ (i : Int) := by omega
   rw [hip] at O11
   rw [hip] at OK
   obtain ⟨i8, hi8, hz8, hs8, hb8⟩ := info_parts elemRS9.2
   have I8 := zh hi8; have Z8 := zh hz8; have S8 := zh hs8; have B8 := zh hb8
   clear hi8 hz8 hs8 hb8 HL1 HL2 hge
   go_wp2_with (refine wpList_load_all zr 48 _ zr (w.heap.size + 1) zr _ Tryz.underlying48 zr C _ A11.out (by rw [CS.out]; exact infoPS) ?_)
   refine (PG.out _).mono ?_
   rintro e w12 ⟨rfl, hb12⟩
   have O12 : Hid (OwnRf w12 w6.heap.size 31 (.slice (some ⟨g, 0, none⟩) m m) (WR p)) := zh (ownsRow_below O11.out hb12)
   have B12 : Hid (Below w6.heap.size w6 w12) := zh (B11.out.trans (hb12.mono B11.out.size)); have A02 := zh (A01.out.below hb12 A01.out.lt); have A12 := zh (A11.out.below hb12 A11.out.lt)
   have GL : Hid (g < w12.heap.size) := zh (World.ownsRow.lt O12.out g rfl).2
   clear hb12 O11 B11 A01 A11 BX
   go_upto_region 17 with (refine wpList_make_full _ zr _ _ 24 zr w12.heap.size 39 i8 (.slice none 0 0) 1 Tryz.underlying24 I8.out Z8.out S8.out .i64 .i64 (p : Int) (p : Int) p zr zr zr zr (by rw [B8.out]; omega) (by simp [maxLen]; omega) (Nat.le_refl _) ?_; intro w13 ho13 hg13; have P13 : Hid (w13.ownsRow w12.heap.size 39 1 (.slice (some ⟨w12.heap.size, 0, none⟩) p p) p (List.replicate p (.slice none 0 0))) := zh (by rw [made_none] at ho13; exact ho13); have Q13 : Hid (Below w12.heap.size w12 w13) := zh ((Below.refl _ _).grown hg13 (Nat.le_refl _) (fun k e => by cases e)); clear ho13 hg13)
   have O13 : Hid (OwnRf w13 w6.heap.size 31 (.slice (some ⟨g, 0, none⟩) m m) (WR p)) := zh (ownsRow_below O12.out Q13.out)
   have B13 : Hid (Below w6.heap.size w6 w13) := zh (B12.out.trans (Q13.out.mono B12.out.size)); have A03 := zh (A02.out.below Q13.out A02.out.lt); have A13 := zh (A12.out.below Q13.out A12.out.lt)
   obtain ⟨gp, hgp⟩ : ∃ gp, gp = w12.heap.size := ⟨_, rfl⟩
   have GP6 : Hid (w6.heap.size ≤ gp) := zh (by rw [hgp]; exact B12.out.size)
   rw [← hgp] at P13 GL ⊢
   clear hgp O12 B12 A02 A12 Q13
   go_wp2_with (refine wpList_load_all zr 48 _ zr (w.heap.size + 1) zr _ Tryz.underlying48 zr C _ A13.out (by rw [CS.out]; exact infoPS) ?_)
   refine (PG.out _).mono ?_
   rintro e w14 ⟨rfl, hb14⟩
   have O14 : Hid (OwnRf w14 w6.heap.size 31 (.slice (some ⟨g, 0, none⟩) m m) (WR p)) := zh (ownsRow_below O13.out hb14)
   have P14 : Hid (w14.ownsRow gp 39 1 (.slice (some ⟨gp, 0, none⟩) p p) p (List.replicate p (.slice none 0 0))) := zh (ownsRow_below P13.out hb14)
   have B14 : Hid (Below w6.heap.size w6 w14) := zh (B13.out.trans (hb14.mono B13.out.size))
   have E14 : Hid (Each2 (fun p q => SlB (fun _ => False) w14 p q) (List.replicate p (.slice none 0 0)) (WP p)) := zh (by rw [PG0.out OK.out]; exact each_none _ _ _)
   have OKP := zh OK.out
   clear hb14 O13 P13 B13 A03 A13
   go_wp2_with fail
   go_loopw [20] (fun vi wq => ∃ n : Nat, n ≤ p ∧ vi = .int .i64 ((n : Int) - 1) ∧ ok n = 0 ∧ OwnRf wq w6.heap.size 31 (.slice (some ⟨g, 0, none⟩) m m) (WR n) ∧ (∃ D hs, Each2 (fun p q => SlB D wq p q) hs (WP n) ∧ wq.ownsRow gp 39 1 (.slice (some ⟨gp, 0, none⟩) p p) p hs ∧ ∀ k, D k → k < wq.heap.size ∧ k ≠ gp) ∧ Below w6.heap.size w6 wq) (fun vi _ => (intOf vi + 1).toNat)
   case atStart => exact ⟨p, Nat.le_refl _, rfl, OKP.out, O14.out, ⟨_, _, E14.out, P14.out, fun k hk => hk.elim⟩, B14.out⟩
   case round =>
    clear O14 P14 B14 E14 OKP OK
    obtain ⟨n, hnp, rfl, hk0, ho, ⟨D, hs, he, hown, hD⟩, hbq⟩ := hrel
    have OQ := zh ho; have BQ := zh hbq; have OK := zh hk0; have EQ := zh he; have PQ := zh hown; have DQ := zh hD
    clear ho hbq hk0 he hown hD
    obtain ⟨hl1, hl2⟩ := INV.out n (by omega) OK.out
    have HL1 := zh hl1; have HL2 := zh hl2
    clear hl1 hl2
    rcases Nat.eq_zero_or_pos n with hn0 | hn0
    ·subst hn0
     have hy := FIN.out OK.out
     have HY := zh hy
     have SR := zh (own_slrf OQ.out (RWF.out 0))
     have SP := zh (own_sls EQ.out (by rw [HL2.out]; exact PQ.out))
     have BX : Hid (Below w.heap.size w wr) := zh (B6.out.trans (BQ.out.mono B6.out.size))
     have hz : ((0 : Nat) : Int) - 1 = -1 := rfl
     clear hy
     rw [hz]
     clear hz
     go_wp2_with fail
     go_ret3
     exact ⟨_, _, by rw [HY.out]; rfl, by rw [HY.out]; exact SR.out, by rw [HY.out]; exact SP.out, BX.out⟩
    ·obtain ⟨j, rfl⟩ : ∃ j, n = j + 1 := ⟨n - 1, by omega⟩
     have hz : ((j + 1 : Nat) : Int) - 1 = (j : Int) := by omega
     rw [hz]
     have hj0 : (0 : Int) ≤ (j : Int) := by omega
     have A0W := zh (A06.out.below BQ.out A06.out.lt); have A1W := zh (A16.out.below BQ.out A16.out.lt)
     have BX : Hid (Below w.heap.size w wr) := zh (B6.out.trans (BQ.out.mono B6.out.size))
     have hdr : ∀ y, Below wr.heap.size wr y → y.rangeAt g (0 + j * 34) (refL (hd (j + 1))) := fun y hy => by
      have h := slrf_cell (i := j) ((own_slrf OQ.out (RWF.out _)).below hy) HL1.out.symm (by omega)
      rw [HDG.out] at h
      exact h
     have hft := FTH.out j wr.drew ((BX.out).drew)
     have her := PE.out (j + 1) (by omega) hnp OK.out
     have hpd := PD.out j (by omega) OK.out
     have hds := refC_size (HDW.out (j + 1))
     obtain ⟨HM1, hHM1⟩ : ∃ m, m = refC (hd (j + 1)) := ⟨_, rfl⟩
     have hdm : refL (hd (j + 1)) = HM1.toList := by rw [hHM1]; rfl
     rw [← hHM1] at hft hds
     rw [hdm] at hdr
     obtain ⟨tx, e, hke⟩ : ∃ a c, ft2 (j + 1) = (a, c) := ⟨_, _, rfl⟩
     rw [hke] at hft her hpd
     simp only at hft her hpd
     have FTI := zh hft; have ERI := zh her; have PDI := zh hpd; have HDS := zh hds; have HDR := zh hdr
     clear hft her hpd hds hdm hdr hHM1 hke hz hn0
     go_upto_region 20 with fail
     have D0 : Hid (Below wr.heap.size wr wr.drew) := zh (Below.refl _ _).drew
     refine wp_region_plan_in (fun y => Below wr.heap.size wr y) (.take 0 (.take 1 (.take 2 (.take 3 (.take 4 (.take 5 (.take 6 (.take 7 (.take 8 (.sole 9 (.take 10 (.take 11 (.take 12 (.take 13 (.take 14 .done))))))))))))))) (by kernel_rfl) (by kernel_rfl) (by kernel_rfl) D0.out ?_
     (first | refine Mem.pm1 ?_ | refine Mem.pm2 ?_ | refine Mem.pt ?_ | refine Mem.pf ?_)
     (simp only [Act.put, Mem.pa, Mem.pb, Mem.pc])
     (first | refine Mem.pm1 ?_ | refine Mem.pm2 ?_ | refine Mem.pt ?_ | refine Mem.pf ?_)
     (simp only [Act.put, Mem.pa, Mem.pb, Mem.pc])
     refine plan_row 22 _ w.heap.size _ KC 22 zr zr zr Mem.ev_a (fun w' hw' => A0W.out.below hw' A0W.out.lt) Tryz.underlying22 zr (by rw [KS.out]; kernel_rfl) ?_
     (simp only [Act.put, Mem.pa, Mem.pb, Mem.pc])
     refine plan_row 48 _ (w.heap.size + 1) _ C 48 zr zr zr Mem.ev_a (fun w' hw' => A1W.out.below hw' A1W.out.lt) Tryz.underlying48 zr (by rw [CS.out]; exact infoPS) ?_
     (simp only [Act.put, Mem.pa, Mem.pb, Mem.pc])
     (first | refine Mem.pm1 ?_ | refine Mem.pm2 ?_ | refine Mem.pt ?_ | refine Mem.pf ?_)
     (simp only [Act.put, Mem.pa, Mem.pb, Mem.pc])
     (first | refine Mem.pm1 ?_ | refine Mem.pm2 ?_ | refine Mem.pt ?_ | refine Mem.pf ?_)
     (simp only [Act.put, Mem.pa, Mem.pb, Mem.pc])
     (first | refine Mem.pm1 ?_ | refine Mem.pm2 ?_ | refine Mem.pt ?_ | refine Mem.pf ?_)
     (simp only [Act.put, Mem.pa, Mem.pb, Mem.pc])
     refine plan_index_z 64 31 _ _ g 0 m m 34 j zr zr zr Mem.ev_a Mem.ev_a (by omega) Tryz.underlying64 infoRfP ?_
     (simp only [Act.put, Mem.pa, Mem.pb, Mem.pc])
     refine plan_load_range 31 _ g (0 + j * 34) _ HM1 zr zr zr Mem.ev_a (fun w' hw' => HDR.out w' hw') Tryz.underlying31 zr (by rw [HDS.out]; exact infoRfP) ?_
     (simp only [Act.put, Mem.pa, Mem.pb, Mem.pc])
     refine plan_call 25 _ _ _ (by kernel_rfl) zr zr zr (by first | exact Mem.ev_none _ | (simp only [List.map_toArray, List.map_cons, List.map_nil, Mem.ev_tmp, List.getD_cons_succ, List.getD_cons_zero] <;> rfl)) ?_
     refine (FTI.out).mono ?_
     rintro o8 w15 ⟨vt, rfl, hs15, hb15⟩
     have S15 : Hid (SlB (fun k => wr.heap.size ≤ k ∧ k < w15.heap.size) w15 vt tx) := zh (hs15.mono fun k hk hl => ⟨hk, hl⟩)
     have Q15 : Hid (Below wr.heap.size wr w15) := zh (D0.out.trans (hb15.mono (Nat.le_refl _)))
     clear hs15 hb15
     refine ⟨_, rfl, Q15.out, ?_⟩
     (simp only [Act.put, Mem.pa, Mem.pb, Mem.pc])
     (first | refine Mem.pm1 ?_ | refine Mem.pm2 ?_ | refine Mem.pt ?_ | refine Mem.pf ?_)
     (simp only [Act.put, Mem.pa, Mem.pb, Mem.pc])
     refine plan_extract _ 0 _ _ zr zr zr Mem.ev_a zr ?_
     (simp only [Act.put, Mem.pa, Mem.pb, Mem.pc])
     refine plan_extract _ 1 _ _ zr zr zr Mem.ev_a zr ?_
     (simp only [Act.put, Mem.pa, Mem.pb, Mem.pc])
     (first | refine Mem.pm1 ?_ | refine Mem.pm2 ?_ | refine Mem.pt ?_ | refine Mem.pf ?_)
     (simp only [Act.put, Mem.pa, Mem.pb, Mem.pc])
     (first | refine Mem.pm1 ?_ | refine Mem.pm2 ?_ | refine Mem.pt ?_ | refine Mem.pf ?_)
     (simp only [Act.put, Mem.pa, Mem.pb, Mem.pc])
     refine plan_nil ?_
     obtain ⟨at1, ct1, rfl⟩ := sl_inv S15.out.sl
     by_cases he : e = 0
     ·subst he
      obtain ⟨s1, s2, s3⟩ := PDI.out rfl
      have hgl15 := (World.ownsRow.lt PQ.out gp rfl).2
      obtain ⟨g', cap', cur, ev, hgB, hgl, hcur, hfit, hset⟩ := own_set1 (i := j) (x := .slice at1 tx.length ct1) (ownsRow_below PQ.out Q15.out) (by omega)
      injection ev with ev1 ev2 ev3
      injection ev1 with ev1
      injection ev1 with ev1 _ _
      subst ev1
      clear ev2 ev3
      have CUR := zh hcur; have FIT := zh hfit; have SET := zh hset; have S1 := zh s1; have S2' := zh s2; have S3 := zh s3; have GPL := zh hgl15
      have hjp : (j : Int) < (p : Int) := by omega
      obtain ⟨nt, hnt⟩ : ∃ nt, nt = tx.length := ⟨_, rfl⟩
      rw [← hnt] at SET S15 ⊢
      clear s1 s2 s3 hgB hgl hcur hfit hset hgl15 hnt
      go_wp2_with (refine Mem.wpList_store_one zr 39 _ _ zr zr gp j (.slice at1 nt ct1) zr zr zr infoSl14 _ 39 CUR.out FIT.out ?_; intro w16 ha16 ho16 hb16; have PN := zh (SET.out w16 ha16); have H16 := zh ho16; have BN : Hid (Below w6.heap.size w6 w16) := zh (hb16 _ _ (BQ.out.trans (Q15.out.mono BQ.out.size)) (by have := B6.out.size; have := GP6.out; omega)); have Z16 : Hid (w15.heap.size ≤ w16.heap.size) := zh (hb16 0 w15 (Below.refl _ _) (Nat.zero_le _)).size; clear ha16 ho16 hb16)
      have ON : Hid (OwnRf w16 w6.heap.size 31 (.slice (some ⟨g, 0, none⟩) m m) (WR j)) := zh (by
       rw [S2'.out]
       exact ownsRow_keep (ownsRow_below OQ.out Q15.out) fun k hk => H16.out k (by
        have : k = g := by simpa [Value.ownBlock] using hk.symm
        have := GL.out; omega))
      have EN : Hid (Each2 (fun p q => SlB (fun k => D k ∨ (wr.heap.size ≤ k ∧ k < w15.heap.size)) w16 p q) (hs.set j (.slice at1 nt ct1)) (WP j)) := zh (by
       rw [← S3.out]
       have z15 := Q15.out.size
       refine Each2.set j (EQ.out.mono fun a q hx => ?_) ?_
       ·exact ((hx.keep Q15.out.size fun k _ hl => Q15.out.block k hl).keep Z16.out fun k hd _ => H16.out k (DQ.out k hd).2).mono fun k hd _ => .inl hd
       ·exact (S15.out.keep Z16.out fun k hk _ => H16.out k (by have := GPL.out; omega)).mono fun k hk _ => .inr hk)
      have DN : Hid (∀ k, (D k ∨ (wr.heap.size ≤ k ∧ k < w15.heap.size)) → k < w16.heap.size ∧ k ≠ gp) := zh fun k hk => by
       have z15 := Q15.out.size; have z16 := Z16.out; have gl := GPL.out
       rcases hk with h | h
       ·have := DQ.out k h
        exact ⟨by omega, this.2⟩
       ·exact ⟨by omega, by omega⟩
      go_roundw
      case rel => exact ⟨j, by omega, rfl, S1.out, ON.out, ⟨_, _, EN.out, PN.out, DN.out⟩, BN.out⟩
      case measure => simp [intOf]
     ·have hy := ERI.out he
      have HY := zh hy
      have hne : ¬ e = 0 := he
      have BX15 : Hid (Below w.heap.size w w15) := zh (BX.out.trans (Q15.out.mono BX.out.size))
      clear hy he
      go_wp2_with fail
      go_ret3
      exact ⟨_, _, by rw [HY.out]; rfl, by rw [HY.out]; exact SlRf.nil _, by rw [HY.out]; exact ⟨none, 0, rfl, Nat.le_refl _, fun h => absurd rfl h⟩, BX15.out⟩
end Sha
end Go.Proofs.YtajdpbbbocnfiaaGreatDoor
namespace Go.Proofs.YtajdpbbbocnfiaaGreatDoor
namespace Sha
open Go.RowKit Mem
theorem treeP : TreeP where
 make := fun key ep P v w hT lk hs hn hl => pmake14_any key ep P v w hT lk hs hn hl
 lay := fun L v w hp hok hv hG hn hL => plays14_any L v w hp hok hv hG hn hL
 fetch := fun key p z r w hT lk hp hok hw0 _ h1 hrw => (pfetch14_any key p z r w hT lk hp hok hw0 h1 hrw).mono fun _ _ h => h.seal
 kids := fun p z pg v w hv hl _ h1 => pkids14_any p z pg v w hv hl h1
 whole := fun key p r w hT lk hp hok hw0 h0 h1 hrw => pwhole14_any key p r w hT lk hp hok hw0 h0 h1 hrw
 way := fun key p r z w hT lk hp hok hw0 h0 h1 hrw => pway14_any key p r z w hT lk hp hok hw0 h0 h1 hrw
end Sha
end Go.Proofs.YtajdpbbbocnfiaaGreatDoor
