/- The program's tree: Make. -/
import Derived.Test.YtajdpbbbocnfiaaDoorBx39
import Derived.Test.YtajdpbbbocnfiaaDoorBx21
import Derived.Test.YtajdpbbbocnfiaaDoorBx26
namespace Go.Proofs.YtajdpbbbocnfiaaDoor
namespace Sha
open Go.RowKit Mem
set_option maxRecDepth 100000
theorem MkI.out {w1 w w' : World} {bp br : Nat} {vp vr : Value} {D : Foot} {ws : List (Nat × Value)} {L : List (Nat × List (BitVec 8))} {R : List RefV} (h : MkI w1 w bp br vp vr D ws L R) (hs : w.heap.size ≤ w'.heap.size) (hk : ∀ k, w1.heap.size ≤ k → k < w.heap.size → w'.heap[k]? = w.heap[k]?) : WPut (fun k => w1.heap.size ≤ k) w' vp L :=
  ⟨ws, h.e.mono fun _ _ x => ⟨x.1, (x.2.keep hs fun k hd hl => hk k (h.d k hd).1 hl).mono fun k hd _ => (h.d k hd).1⟩, (ownsRow_slR h.po).keep hs fun k hg hl => hk k hg hl⟩
theorem buildRf14 (w : World) : (Instr.build 32 #[]).run Tryd.prog w = .ok (.agg (refC zref)) w := by kernel_rfl
def putL (key : List (BitVec 8)) (ep : BitVec 32) (P : List (List (BitVec 8))) (n : Nat) : List (Nat × List (BitVec 8)) := (List.range n).map fun i => (2 + 2 * i, selT key ep P i)
theorem putL_succ (key : List (BitVec 8)) (ep : BitVec 32) (P : List (List (BitVec 8))) (n : Nat) : putL key ep P (n + 1) = putL key ep P n ++ [(2 + 2 * n, selT key ep P n)] := by simp [putL, List.range_succ]
theorem putL_length (key : List (BitVec 8)) (ep : BitVec 32) (P : List (List (BitVec 8))) (n : Nat) : (putL key ep P n).length = n := by simp [putL]
theorem makeT_no {key : List (BitVec 8)} {ep : BitVec 32} {P : List (List (BitVec 8))} (h : ¬ (1 ≤ P.length ∧ P.length ≤ 216 ∧ allP P = true)) : makeT key ep P = ([], zref, 1) := if_neg h
set_option maxHeartbeats 2000000 in
/-- What is refused. -/
theorem pmake_bad (key : List (BitVec 8)) (ep : BitVec 32) (P : List (List (BitVec 8))) (v : Value) (w : World) (lk : key.length = 32) (hs : Sls w v P) (hl : ∀ x ∈ P, x.length ≤ 1000) (hn : P.length ≤ 1000) (h : ¬ (1 ≤ P.length ∧ P.length ≤ 216 ∧ allP P = true)) :
    Calls Tryd.prog 20 #[.pointer none, .agg (u8s key).toArray, .int .u32 (V ep), v] w (MkEnd w ([], zref, 1)) := by
  have ar := fun wx (hb : Below w.heap.size w wx) => arePages_any P v wx (hs.below hb) hl hn
  have hcs : (P.length < 1 ∨ 216 < P.length) ∨ (1 ≤ P.length ∧ P.length ≤ 216 ∧ allP P = false) := by
    by_cases h1 : 1 ≤ P.length ∧ P.length ≤ 216
    · refine .inr ⟨h1.1, h1.2, ?_⟩
      cases e : allP P
      · rfl
      · exact absurd ⟨h1.1, h1.2, e⟩ h
    · exact .inl (by omega)
  have nb := fun wx (hz : P.length < 1 ∨ 216 < P.length) => pnew_bad (P.length : Int) wx (by omega)
  have ng := fun wx (h0 : 1 ≤ P.length) (h1 : P.length ≤ 216) => pnew_good P.length wx h0 h1
  have hsz : ∀ p, (psC p).size = 1 := fun _ => rfl
  have hso := psC_one
  have kc : (u8s key).toArray.size = 32 := by simp [u8s_length, lk]
  obtain ⟨KC, hKC⟩ : ∃ K, K = (u8s key).toArray := ⟨_, rfl⟩
  have hxr := zeroRfP
  have hbr := buildRf14
  unfold MkEnd
  show Calls _ _ _ _ (fun e w' => ∃ v, e = .returned (.tuple #[v, .agg (refC zref), .int .i64 1]) ∧ WPut (fun k => w.heap.size ≤ k) w' v [] ∧ Below w.heap.size w w')
  obtain ⟨Z, hZ⟩ : ∃ Z, Z = refC zref := ⟨_, rfl⟩
  have zs : Z.size = 34 := by rw [hZ]; exact refC_size zref_wf
  have zo : Z.all (·.oneCell') = true := by rw [hZ]; exact refC_one zref
  have hx := zeroPS
  obtain ⟨Y, hYs⟩ : ∃ C, C = psC 0 := ⟨_, rfl⟩
  have ys : Y.size = 1 := by rw [hYs]; rfl
  obtain ⟨asx, cap, rfl, _, _⟩ := hs
  obtain ⟨n, hnn⟩ : ∃ n, n = P.length := ⟨_, rfl⟩
  obtain ⟨A, hA⟩ : ∃ A, A = allP P := ⟨_, rfl⟩
  rw [← hnn] at ar hcs nb ng ⊢
  rw [← hA] at ar hcs
  rw [← hZ] at hxr hbr ⊢
  rw [← hKC]
  have yo : Y.all (·.oneCell') = true := by rw [hYs]; exact psC_one 0
  rw [← hYs] at hx nb
  have az : At ((((w.alloc (.cells #[.pointer none] 54)).alloc (.cells KC 22)).alloc (.cells #[.int .u32 (V ep)] 23)).alloc (.cells Z 32)) (w.heap.size + 1 + 1 + 1) Z 32 := by
    have h := at_new (((w.alloc (.cells #[.pointer none] 54)).alloc (.cells KC 22)).alloc (.cells #[.int .u32 (V ep)] 23)) Z 32
    simpa using h
  have b4 : Below w.heap.size w ((((w.alloc (.cells #[.pointer none] 54)).alloc (.cells KC 22)).alloc (.cells #[.int .u32 (V ep)] 23)).alloc (.cells Z 32)) := ((((Below.refl _ _).alloc (Nat.le_refl _) _).alloc (by simp) _).alloc (by simp; omega) _).alloc (by simp; omega) _
  have AR := Lib.hid ar; have NB := Lib.hid nb; have NG := Lib.hid ng; have ZS := Lib.hid zs; have ZO := Lib.hid zo; have YS := Lib.hid ys; have YO := Lib.hid yo; have BR := Lib.hid hbr; have AZ := Lib.hid az; have B4 := Lib.hid b4; have SZ := Lib.hid hsz; have SO := Lib.hid hso
  clear ar nb ng zs zo ys yo hbr az b4 hsz hso hZ hYs hnn hA hKC kc lk hl h
  rcases hcs with hbad | ⟨h0, h1, hal⟩
  · have N2 := Lib.hid (fun wx => NB.out wx hbad)
    have hc5 := fun w5 => at_new w5 Y 30
    clear hbad hn
    go_enter Tryd.func20, Tryd.ntmps20
    go_upto_region 1 with fail
    generalize (((w.alloc (.cells #[.pointer none] 54)).alloc (.cells KC 22)).alloc (.cells #[.int .u32 (V ep)] 23)).alloc (.cells Z 32) = w4 at *
    go_wp2_with fail
    refine (N2.out _).mono ?_
    rintro e w5 ⟨rfl, hb5⟩
    have B5 : Hid (Below w.heap.size w (w5.alloc (.cells Y 30))) := Lib.hid ((B4.out.trans (hb5.mono B4.out.size)).alloc (Nat.le_trans B4.out.size hb5.size) _)
    have A5 := Lib.hid ((AZ.out.below hb5 AZ.out.lt).alloc (.cells Y 30))
    clear hb5
    go_upto_region 2 with (refine wpList_store_new (by rfl) 30 _ _ (by rfl) (by rfl) Y _ _ (by rfl) (by rfl) (by rw [YS.out]; exact infoPS) (by rfl) YO.out ?_)
    clear hx hc5
    generalize (w5.alloc (.cells Y 30)) = w6 at *
    go_wp2_with (first
      | (refine Mem.wpList_build (by rfl) 32 _ #[] (.agg Z) (by rfl) (by simp) BR.out ?_)
      | (refine wpList_store_all (by rfl) 32 _ _ (by rfl) (by rfl) (w.heap.size + 1 + 1 + 1) Z (by rfl) (by rfl) (by rw [ZS.out]; exact infoRfP) Z 32 A5.out (by rfl) ZO.out ?_))
    try simp only [Exit.inBlock, Exit.then]
    refine ret_tmp_row_tmp (by rfl) (w.heap.size + 1 + 1 + 1) 32 Z _ _ _ (by rfl) (by rfl) (by rfl) (A5.out.row Z) Tryd.underlying32 (by rfl) (by rw [ZS.out]; exact infoRfP) ?_
    exact ⟨_, rfl, ⟨[], trivial, SlR.nil _ _ _⟩, below_row B5.out (by omega) Z⟩
  · have N2 := Lib.hid (fun wx => NG.out wx h0 h1)
    have cs : (psC n).size = 1 := rfl
    have co := psC_one n
    rw [hal] at AR
    obtain ⟨C, hC⟩ : ∃ C, C = psC n := ⟨_, rfl⟩
    rw [← hC] at N2 cs co
    have CS := Lib.hid cs; have CO := Lib.hid co
    clear h0 h1 hal cs co hC hn
    go_enter Tryd.func20, Tryd.ntmps20
    go_upto_region 1 with fail
    generalize (((w.alloc (.cells #[.pointer none] 54)).alloc (.cells KC 22)).alloc (.cells #[.int .u32 (V ep)] 23)).alloc (.cells Z 32) = w4 at *
    go_wp2_with fail
    refine (N2.out _).mono ?_
    rintro e w5 ⟨rfl, hb5⟩
    have B5 : Hid (Below w.heap.size w (w5.alloc (.cells C 30))) := Lib.hid ((B4.out.trans (hb5.mono B4.out.size)).alloc (Nat.le_trans B4.out.size hb5.size) _)
    have A5 := Lib.hid ((AZ.out.below hb5 AZ.out.lt).alloc (.cells C 30))
    clear hb5
    go_upto_region 2 with (refine wpList_store_new (by rfl) 30 _ _ (by rfl) (by rfl) C _ _ (by rfl) (by rfl) (by rw [CS.out]; exact infoPS) (by rw [CS.out, YS.out]) CO.out ?_)
    clear hx
    generalize (w5.alloc (.cells C 30)) = w6 at *
    go_wp2_with fail
    refine (AR.out _ B5.out).mono ?_
    rintro e w7 ⟨rfl, rfl⟩
    go_wp2_with (first
      | (refine Mem.wpList_build (by rfl) 32 _ #[] (.agg Z) (by rfl) (by simp) BR.out ?_)
      | (refine wpList_store_all (by rfl) 32 _ _ (by rfl) (by rfl) (w.heap.size + 1 + 1 + 1) Z (by rfl) (by rfl) (by rw [ZS.out]; exact infoRfP) Z 32 A5.out (by rfl) ZO.out ?_))
    try simp only [Exit.inBlock, Exit.then]
    refine ret_tmp_row_tmp (by rfl) (w.heap.size + 1 + 1 + 1) 32 Z _ _ _ (by rfl) (by rfl) (by rfl) (A5.out.row Z) Tryd.underlying32 (by rfl) (by rw [ZS.out]; exact infoRfP) ?_
    exact ⟨_, rfl, ⟨[], trivial, SlR.nil _ _ _⟩, below_row B5.out (by omega) Z⟩
set_option maxHeartbeats 8000000 in
theorem pmake_good (key : List (BitVec 8)) (ep : BitVec 32) (P : List (List (BitVec 8))) (v : Value) (w : World) (hT : TT w) (lk : key.length = 32) (hs : Sls w v P) (hP : GoodP P) :
    Calls Tryd.prog 20 #[.pointer none, .agg (u8s key).toArray, .int .u32 (V ep), v] w (MkEnd w (putsT key ep P, refT key ep P (itn P.length - 1), 0)) := by
  have hp0 := hP.p0; have hp1 := hP.p1
  have hl : ∀ x ∈ P, x.length ≤ 1000 := fun x hx => by rw [hP.len x hx]; decide
  have hal : allP P = true := by unfold allP; rw [List.all_eq_true]; intro x hx; simp [hP.len x hx]
  have ar := fun wx (hb : Below w.heap.size w wx) => arePages_any P v wx (hs.below hb) hl (by omega)
  rw [hal] at ar
  have hit := itn_big P.length hp0 hp1
  have ng := fun wx => pnew_good P.length wx hp0 hp1
  have itm := fun wx => pitems_any P.length wx hp1
  have rot := fun wx => proot_any P.length wx hp1
  have pget : ∀ i, i < P.length → (P.getD i []).length = 256 := fun i hi => by
    rw [List.getD_eq_getElem?_getD, List.getElem?_eq_getElem hi]
    exact hP.len _ (List.getElem_mem hi)
  have hpg := fun i (hi : i < itn P.length) => pgT_length (key := key) (ep := ep) hP i hi
  have hct : ∀ (i : Nat) vr wx, i < itn P.length → Below w.heap.size w wx → SlRf wx vr (refsT key ep P i) → Calls Tryd.prog 39 #[.agg (psC P.length), .int .i64 (i : Int), v, vr] wx (SealEnd wx (pgT key ep P i) 0) := fun i vr wx hi hb hr => by
    by_cases h : i < P.length
    · exact pcontent_page P.length i P _ v vr wx (hs.below hb) rfl hp1 h
    · have g := pcontent_node P.length i P _ v vr wx (hs.below hb) hr (refsT_wf i) rfl hp0 hp1 (by omega) hi (refsT_length key ep P i)
      rw [node_lay hP i i (by omega) hi (Nat.le_refl _)] at g
      exact g
  have hput : ∀ (i : Nat) (w1 wx : World) (bb bk be bs bp br : Nat) (vp vr vg : Value) (D : Foot) (ws : List (Nat × Value)), i < itn P.length → Below w.heap.size w w1 → MkI w1 wx bp br vp vr D ws (putL key ep P i) (refsT key ep P i) → At w1 bb #[.pointer none] 54 → At w1 bk (u8s key).toArray 22 → At w1 be #[.int .u32 (V ep)] 23 → At w1 bs (psC P.length) 30 →
      Sl wx vg (pgT key ep P i) → Calls Tryd.prog 36 #[.int .i64 (i : Int), vg, .pointer (some ⟨bs, 0, none⟩), .pointer (some ⟨bb, 0, none⟩), .pointer (some ⟨bk, 0, none⟩), .pointer (some ⟨be, 0, none⟩), .pointer (some ⟨bp, 0, none⟩), .pointer (some ⟨br, 0, none⟩)] wx
        fun e w' => e = .returned (.int .i64 0) ∧ ∃ vp' vr' D' ws', MkI w1 w' bp br vp' vr' D' ws' (putL key ep P (i + 1)) (refsT key ep P (i + 1)) := fun i w1 wx bb bk be bs bp br vp vr vg D ws hi hb hI h1 h2 h3 h4 hv => by
    have g := pput_any key (pgT key ep P i) vg lk (hT.below hb) hp1 hi hI h1 h2 h3 h4 hv (hpg i hi) (by rw [putL_length]; omega) (by rw [refsT_length]; omega)
    rw [putL_succ, refsT_succ]
    exact g
  have hr0 := refsT_length key ep P
  have hrg := fun n i (h : i < n) => refsT_get key ep P n i h
  have hrw := fun n => refsT_wf (key := key) (ep := ep) (P := P) n
  have hend : putL key ep P (itn P.length) = putsT key ep P := rfl
  have hrl := refT_wf (key := key) (ep := ep) (P := P) (itn P.length - 1)
  obtain ⟨root, hroot⟩ : ∃ r, r = refT key ep P (itn P.length - 1) := ⟨_, rfl⟩
  have hlast : (refsT key ep P (itn P.length)).getD (itn P.length - 1) zref = root := by rw [hroot]; exact hrg _ _ (by omega)
  rw [← hroot] at hrl ⊢
  obtain ⟨PL, hPL⟩ : ∃ f, f = putL key ep P := ⟨_, rfl⟩
  obtain ⟨RF, hRF⟩ : ∃ f, f = refsT key ep P := ⟨_, rfl⟩
  have hz1 : PL 0 = [] := by rw [hPL]; rfl
  have hz2 : RF 0 = [] := by rw [hRF]; rfl
  have hpn : ∀ i, (PL i).length = i := fun i => by rw [hPL]; exact putL_length _ _ _ _
  rw [← hPL] at hput hend
  rw [← hRF] at hput hct hr0 hrw hlast
  obtain ⟨PG, hPG⟩ : ∃ f, f = pgT key ep P := ⟨_, rfl⟩
  rw [← hPG] at hput hct
  unfold MkEnd
  show Calls _ _ _ _ (fun e w' => ∃ v, e = .returned (.tuple #[v, .agg (refC root), .int .i64 0]) ∧ WPut (fun k => w.heap.size ≤ k) w' v (putsT key ep P) ∧ Below w.heap.size w w')
  rw [← hend]
  obtain ⟨asx, cap, rfl, _, _⟩ := hs
  obtain ⟨p, hp⟩ : ∃ p, p = P.length := ⟨_, rfl⟩
  rw [← hp] at ar hit ng itm rot hct hput hlast ⊢
  obtain ⟨m, hm⟩ : ∃ m, m = itn p := ⟨_, rfl⟩
  rw [← hm] at hit itm rot hct hput hlast ⊢
  have hro : (m : Int) - 1 = ((m - 1 : Nat) : Int) := by omega
  rw [hro] at rot
  have kc : (u8s key).toArray.size = 32 := by simp [u8s_length, lk]
  obtain ⟨KC, hKC⟩ : ∃ K, K = (u8s key).toArray := ⟨_, rfl⟩
  rw [← hKC] at hput kc ⊢
  have cs : (psC p).size = 1 := rfl
  have co := psC_one p
  obtain ⟨C, hC⟩ : ∃ C, C = psC p := ⟨_, rfl⟩
  rw [← hC] at ng itm rot hct hput cs co
  have ms := refC_size hrl; have mo := refC_one root
  obtain ⟨M, hM⟩ : ∃ M, M = refC root := ⟨_, rfl⟩
  have hrm : refL root = M.toList := by rw [hM]; rfl
  rw [← hM] at ms mo ⊢
  have hxr := zeroRfP
  obtain ⟨Z, hZ⟩ : ∃ Z, Z = refC zref := ⟨_, rfl⟩
  have zs : Z.size = 34 := by rw [hZ]; exact refC_size zref_wf
  rw [← hZ] at hxr
  have hx := zeroPS
  obtain ⟨Y, hYs⟩ : ∃ C, C = psC 0 := ⟨_, rfl⟩
  have ys : Y.size = 1 := by rw [hYs]; rfl
  rw [← hYs] at hx
  obtain ⟨i1, hi1, hz1', hs1, hb1⟩ := info_parts elemPt.2
  obtain ⟨i2, hi2, hz2', hs2, hb2⟩ := info_parts elemRP.2
  have a0 : At ((((w.alloc (.cells #[.pointer none] 54)).alloc (.cells KC 22)).alloc (.cells #[.int .u32 (V ep)] 23)).alloc (.cells Z 32)) w.heap.size #[.pointer none] 54 := (((at_new w _ _).alloc _).alloc _).alloc _
  have a1 : At ((((w.alloc (.cells #[.pointer none] 54)).alloc (.cells KC 22)).alloc (.cells #[.int .u32 (V ep)] 23)).alloc (.cells Z 32)) (w.heap.size + 1) KC 22 := by
    have h := ((at_new (w.alloc (.cells #[.pointer none] 54)) KC 22).alloc (.cells #[.int .u32 (V ep)] 23)).alloc (.cells Z 32)
    simpa using h
  have a2 : At ((((w.alloc (.cells #[.pointer none] 54)).alloc (.cells KC 22)).alloc (.cells #[.int .u32 (V ep)] 23)).alloc (.cells Z 32)) (w.heap.size + 1 + 1) #[.int .u32 (V ep)] 23 := by
    have h := (at_new ((w.alloc (.cells #[.pointer none] 54)).alloc (.cells KC 22)) #[.int .u32 (V ep)] 23).alloc (.cells Z 32)
    simpa using h
  have az : At ((((w.alloc (.cells #[.pointer none] 54)).alloc (.cells KC 22)).alloc (.cells #[.int .u32 (V ep)] 23)).alloc (.cells Z 32)) (w.heap.size + 1 + 1 + 1) Z 32 := by
    have h := at_new (((w.alloc (.cells #[.pointer none] 54)).alloc (.cells KC 22)).alloc (.cells #[.int .u32 (V ep)] 23)) Z 32
    simpa using h
  have b4 : Below w.heap.size w ((((w.alloc (.cells #[.pointer none] 54)).alloc (.cells KC 22)).alloc (.cells #[.int .u32 (V ep)] 23)).alloc (.cells Z 32)) := ((((Below.refl _ _).alloc (Nat.le_refl _) _).alloc (by simp) _).alloc (by simp; omega) _).alloc (by simp; omega) _
  have hmf : ∀ (fn : Fn) (first cap : Array Value) (w : World), (Instr.makeFunc fn first cap).run Tryd.prog w = .ok (.func fn first cap) w := fun _ _ _ _ => rfl
  have AR := Lib.hid ar; have NG := Lib.hid ng; have IT := Lib.hid itm; have RT := Lib.hid rot; have CT := Lib.hid hct; have PT := Lib.hid hput; have RL := Lib.hid hr0; have RW := Lib.hid hrw; have HL := Lib.hid hlast; have PZ1 := Lib.hid hz1; have RZ1 := Lib.hid hz2; have PN := Lib.hid hpn; have KS := Lib.hid kc; have CS := Lib.hid cs; have CO := Lib.hid co; have MS := Lib.hid ms; have MO := Lib.hid mo; have HM := Lib.hid hrm; have ZS := Lib.hid zs; have YS := Lib.hid ys
  have I1 := Lib.hid hi1; have Z1 := Lib.hid hz1'; have S1 := Lib.hid hs1; have B1 := Lib.hid hb1; have I2 := Lib.hid hi2; have Z2 := Lib.hid hz2'; have S2 := Lib.hid hs2; have B2 := Lib.hid hb2
  have A0 := Lib.hid a0; have A1 := Lib.hid a1; have A2 := Lib.hid a2; have AZ := Lib.hid az; have B4 := Lib.hid b4
  clear ar ng itm rot hct hput hr0 hrw hlast hz1 hz2 hpn kc cs co ms mo hrm zs ys hi1 hz1' hs1 hb1 hi2 hz2' hs2 hb2 a0 a1 a2 az b4 hPL hRF hPG hKC hC hM hZ hYs hm hp hroot hend hrg hpg pget hal hl hT lk hP hp0 hro hrl
  go_enter Tryd.func20, Tryd.ntmps20
  go_upto_region 1 with fail
  generalize (((w.alloc (.cells #[.pointer none] 54)).alloc (.cells KC 22)).alloc (.cells #[.int .u32 (V ep)] 23)).alloc (.cells Z 32) = w4 at *
  go_wp2_with fail
  refine (NG.out _).mono ?_
  rintro e w5 ⟨rfl, hb5⟩
  have B5 : Hid (Below w.heap.size w (w5.alloc (.cells C 30))) := Lib.hid ((B4.out.trans (hb5.mono B4.out.size)).alloc (Nat.le_trans B4.out.size hb5.size) _)
  have A05 := Lib.hid ((A0.out.below hb5 A0.out.lt).alloc (.cells C 30)); have A15 := Lib.hid ((A1.out.below hb5 A1.out.lt).alloc (.cells C 30)); have A25 := Lib.hid ((A2.out.below hb5 A2.out.lt).alloc (.cells C 30)); have AZ5 := Lib.hid ((AZ.out.below hb5 AZ.out.lt).alloc (.cells C 30))
  have C5 := Lib.hid (at_new w5 C 30)
  clear hb5
  go_upto_region 2 with (refine wpList_store_new (by rfl) 30 _ _ (by rfl) (by rfl) C _ _ (by rfl) (by rfl) (by rw [CS.out]; exact infoPS) (by rw [CS.out, YS.out]) CO.out ?_)
  clear hx A0 A1 A2 AZ B4
  obtain ⟨bs, hbs⟩ : ∃ bs, bs = w5.heap.size := ⟨_, rfl⟩
  rw [← hbs] at C5 ⊢
  clear hbs
  generalize (w5.alloc (.cells C 30)) = w6 at *
  go_wp2_with fail
  refine (AR.out _ B5.out).mono ?_
  rintro e w7 ⟨rfl, rfl⟩
  go_wp2_with (refine wpList_load_all (by rfl) 30 _ (by rfl) bs (by rfl) _ Tryd.underlying30 (by rfl) C _ C5.out (by rw [CS.out]; exact infoPS) ?_)
  refine (IT.out _).mono ?_
  rintro e w8 ⟨rfl, hb8⟩
  have B8 := Lib.hid hb8
  have C8 := Lib.hid (C5.out.below hb8 C5.out.lt)
  clear hb8
  go_upto_region 5 with (first
    | (refine wpList_make_own _ (by rfl) _ _ 59 (by rfl) w7.heap.size 84 i1 (.agg #[.int .i64 0, .slice none 0 0]) 2 Tryd.underlying59 I1.out Z1.out S1.out .i64 .i64 (m : Int) m (by rfl) (by rfl) rfl (by rw [B1.out]; omega) (by simp [maxLen]; omega) B8.out.size ?_; intro w9 ho9 hg9; have O9 := Lib.hid ho9; have B9 : Hid (Below w7.heap.size w7 w9) := Lib.hid (B8.out.grown hg9 B8.out.size (fun k e => by cases e)); clear ho9 hg9)
    | (refine Mem.wpList_store_one (by rfl) 59 _ _ (by rfl) (by rfl) w9.heap.size 0 (.slice (some ⟨w8.heap.size, 0, none⟩) 0 m) (by rfl) (by rfl) (by rfl) infoPts _ 59 (at_new w9 #[.slice none 0 0] 59) (by simp) ?_; intro w10 ha10 ho10 hb10; have P10 : Hid (At w10 w9.heap.size #[.slice (some ⟨w8.heap.size, 0, none⟩) 0 m] 59) := Lib.hid ha10; have O10 : Hid (w10.ownsRow w7.heap.size 84 2 (.slice (some ⟨w8.heap.size, 0, none⟩) 0 m) 0 []) := Lib.hid (ownsRow_keep (World.ownsRow.alloc O9.out (.cells #[.slice none 0 0] 59)) fun g hg => ho10 g (by have := (World.ownsRow.lt O9.out g hg).2; omega)); have B10 : Hid (Below w7.heap.size w7 w10) := Lib.hid (hb10 _ _ (B9.out.alloc B9.out.size _) B9.out.size); clear ha10 ho10 hb10))
  have G9 := Lib.hid B9.out.size
  obtain ⟨bp, hbp⟩ : ∃ bp, bp = w9.heap.size := ⟨_, rfl⟩
  rw [← hbp] at P10 G9 ⊢
  clear hbp
  obtain ⟨VP, hVP⟩ : ∃ V, V = Value.slice (some ⟨w8.heap.size, 0, none⟩) 0 m := ⟨_, rfl⟩
  rw [← hVP] at P10 O10
  have C10 := Lib.hid (C5.out.below B10.out C5.out.lt)
  clear hVP O9 B9 C8 B8
  go_wp2_with (refine wpList_load_all (by rfl) 30 _ (by rfl) bs (by rfl) _ Tryd.underlying30 (by rfl) C _ C10.out (by rw [CS.out]; exact infoPS) ?_)
  refine (IT.out _).mono ?_
  rintro e w11 ⟨rfl, hb11⟩
  have P11 := Lib.hid (P10.out.below hb11 P10.out.lt); have O11 := Lib.hid (ownsRow_below O10.out hb11); have B11 : Hid (Below w7.heap.size w7 w11) := Lib.hid (B10.out.trans (hb11.mono B10.out.size))
  clear hb11 P10 O10 B10 C10
  go_upto_region 6 with (first
    | (refine wpList_make_own _ (by rfl) _ _ 35 (by rfl) w7.heap.size 32 i2 (.agg (refC zref)) 34 Tryd.underlying35 I2.out Z2.out S2.out .i64 .i64 (m : Int) m (by rfl) (by rfl) rfl (by rw [B2.out]; omega) (by simp [maxLen]; omega) B11.out.size ?_; intro w12 ho12 hg12; have O12 := Lib.hid ho12; have B12 : Hid (Below w7.heap.size w7 w12) := Lib.hid (B11.out.grown hg12 B11.out.size (fun k e => by cases e)); have Q12 : Hid (Below w11.heap.size w11 w12) := Lib.hid ((Below.refl _ _).grown hg12 (Nat.le_refl _) (fun k e => by cases e)); clear ho12 hg12)
    | (refine Mem.wpList_store_one (by rfl) 35 _ _ (by rfl) (by rfl) w12.heap.size 0 (.slice (some ⟨w11.heap.size, 0, none⟩) 0 m) (by rfl) (by rfl) (by rfl) infoRfs _ 35 (at_new w12 #[.slice none 0 0] 35) (by simp) ?_; intro w13 ha13 ho13 hb13; have R13 : Hid (At w13 w12.heap.size #[.slice (some ⟨w11.heap.size, 0, none⟩) 0 m] 35) := Lib.hid ha13; have O13 : Hid (w13.ownsRow w7.heap.size 32 34 (.slice (some ⟨w11.heap.size, 0, none⟩) 0 m) 0 []) := Lib.hid (ownsRow_keep (World.ownsRow.alloc O12.out (.cells #[.slice none 0 0] 35)) fun g hg => ho13 g (by have := (World.ownsRow.lt O12.out g hg).2; omega)); have B13 : Hid (Below w7.heap.size w7 w13) := Lib.hid (hb13 _ _ (B12.out.alloc B12.out.size _) B12.out.size); have Q13 : Hid (Below w11.heap.size w11 w13) := Lib.hid (hb13 _ _ (Q12.out.alloc Q12.out.size _) Q12.out.size); clear ha13 ho13 hb13))
  have G12 := Lib.hid B12.out.size
  obtain ⟨br, hbr⟩ : ∃ br, br = w12.heap.size := ⟨_, rfl⟩
  rw [← hbr] at R13 G12 ⊢
  clear hbr
  obtain ⟨VR, hVR⟩ : ∃ V, V = Value.slice (some ⟨w11.heap.size, 0, none⟩) 0 m := ⟨_, rfl⟩
  rw [← hVR] at R13 O13
  have J13 : Hid (MkI w7 w13 bp br VP VR (fun _ => False) [] (PL 0) (RF 0)) := Lib.hid (by
    rw [PZ1.out, RZ1.out]
    exact ⟨B13.out, G9.out, G12.out, P11.out.below Q13.out P11.out.lt, R13.out, trivial, ownsRow_below O11.out Q13.out, O13.out, fun k hk => hk.elim⟩)
  have C13 := Lib.hid (C5.out.below B13.out C5.out.lt)
  clear hVR O12 B12 Q12 Q13 R13 O13 P11 O11 B11 G9 G12
  go_wp2_with (refine wpList_load_all (by rfl) 30 _ (by rfl) bs (by rfl) _ Tryd.underlying30 (by rfl) C _ C13.out (by rw [CS.out]; exact infoPS) ?_)
  refine (IT.out _).mono ?_
  rintro e w14 ⟨rfl, hb14⟩
  have J14 := Lib.hid (J13.out.below hb14)
  clear hb14 J13 C13 B13
  go_wp2_with fail
  go_loopw [42] (fun vi wr => ∃ i : Nat, i ≤ m ∧ vi = .int .i64 (i : Int) ∧ ∃ vp vr D ws, MkI w7 wr bp br vp vr D ws (PL i) (RF i)) (fun vi _ => m - (intOf vi).toNat)
  case atStart => exact ⟨0, by omega, rfl, _, _, _, _, J14.out⟩
  case round =>
    obtain ⟨i, hi, rfl, vp, vr, D, ws, hI⟩ := hrel
    have IW := Lib.hid hI
    have CW := Lib.hid (C5.out.below hI.b C5.out.lt)
    have BW : Hid (Below w.heap.size w wr) := Lib.hid (B5.out.trans (hI.b.mono B5.out.size))
    have hown : OwnRf wr w7.heap.size 32 vr (RF i) := hI.ro
    have SW := Lib.hid (own_slrf hown (RW.out i))
    obtain ⟨ar, cr, rfl⟩ := rows_hd hI.ro
    obtain ⟨ap, cp, rfl⟩ := rows_hd hI.po
    have cr0 := (hI.rb.cell 0).trans rfl
    have cp0 := (hI.pb.cell 0).trans rfl
    clear hI hown
    by_cases hlt : i < m
    · have hlt2 : (i : Int) < (m : Int) := by omega
      have CR := Lib.hid cr0
      clear cr0 cp0
      obtain ⟨N, hN⟩ : ∃ N, N = (RF i).length := ⟨_, rfl⟩
      rw [← hN] at CR SW IW
      clear hN
      have cr0 := CR.out
      go_wp2_with (refine wpList_load_all (by rfl) 30 _ (by rfl) bs (by rfl) _ Tryd.underlying30 (by rfl) C _ CW.out (by rw [CS.out]; exact infoPS) ?_)
      refine (CT.out i _ wr hlt BW.out SW.out).mono ?_
      rintro e w15 ⟨vg, rfl, hg, hb15⟩
      have G15 := Lib.hid hg; have I15 := Lib.hid (IW.out.below hb15)
      clear hg hb15 cr0 CR
      go_wp2_with fail
      refine (PT.out i w7 w15 w.heap.size (w.heap.size + 1) (w.heap.size + 1 + 1) bs bp br _ _ vg D ws hlt B5.out I15.out A05.out A15.out A25.out C5.out G15.out).mono ?_
      rintro e w16 ⟨rfl, vp', vr', D', ws', hI'⟩
      have I16 := Lib.hid hI'
      clear hI'
      go_wp2_with fail
      go_roundw
      case rel => exact ⟨i + 1, by omega, by go_num, vp', vr', D', ws', I16.out⟩
      case measure => simp [intOf]; omega
    · have him : i = m := by omega
      subst him
      have hge : ¬ (i : Int) < (i : Int) := by omega
      clear hlt
      obtain ⟨rg, ro, ea, hrgl, hrr⟩ := slrf_at (i := i - 1) SW.out rfl (by rw [RL.out]; omega)
      rw [HL.out, HM.out] at hrr
      subst ea
      have hN := RL.out i
      have hrge : w7.heap.size ≤ rg := (World.ownsRow.lt IW.out.ro rg rfl).1
      have cr1 : wr.cell? ⟨br, 0, none⟩ = some (.slice (some ⟨rg, ro, none⟩) i cr) := by rw [← hN]; exact cr0
      obtain ⟨q, hq⟩ : ∃ q, q = (PL i).length := ⟨_, rfl⟩
      rw [← hq] at cp0 IW
      have ne1 : w.heap.size + 1 + 1 + 1 ≠ bs := at_ne AZ5.out C5.out (by decide)
      have nz := AZ5.out.lt
      have hbs := C5.out.lt
      have gp := IW.out.gp; have gr := IW.out.gr
      have AZW := Lib.hid (AZ5.out.below IW.out.b AZ5.out.lt)
      have S0 : Hid (wr.drew.cell? ⟨bp, 0, none⟩ = some (.slice ap q cp) ∧ wr.drew.cell? ⟨br, 0, none⟩ = some (.slice (some ⟨rg, ro, none⟩) i cr) ∧ At wr.drew bs C 30 ∧ wr.drew.rangeAt rg (ro + (i - 1) * 34) M.toList) := Lib.hid ⟨cp0, cr1, CW.out.drew, fun j u hu => hrr j u hu⟩
      have S1 : Hid (∀ y, Below wr.heap.size wr y → y.cell? ⟨bp, 0, none⟩ = some (.slice ap q cp) ∧ y.cell? ⟨br, 0, none⟩ = some (.slice (some ⟨rg, ro, none⟩) i cr) ∧ At y bs C 30 ∧ y.rangeAt rg (ro + (i - 1) * 34) M.toList) := Lib.hid fun y hb =>
        ⟨(hb.cell (p := ⟨bp, 0, none⟩) IW.out.pb.lt).trans cp0, (hb.cell (p := ⟨br, 0, none⟩) IW.out.rb.lt).trans cr1, CW.out.below hb CW.out.lt, range_block hrr (hb.block rg hrgl)⟩
      have LP := Lib.hid IW.out.pb.lt; have LR := Lib.hid IW.out.rb.lt; have LG := Lib.hid hrgl; have LC := Lib.hid CW.out.lt
      have NE : Hid (w.heap.size + 1 + 1 + 1 ≠ bs ∧ w.heap.size + 1 + 1 + 1 < w7.heap.size ∧ w7.heap.size ≤ bp ∧ w7.heap.size ≤ br ∧ w7.heap.size ≤ rg) := Lib.hid ⟨ne1, nz, gp, gr, hrge⟩
      clear cp0 cr0 cr1 hrr hrge hq hrgl ne1 nz hbs gp gr hN SW
      go_upto_region 16 with fail
      refine wp_region_plan_in (fun y => y.cell? ⟨bp, 0, none⟩ = some (.slice ap q cp) ∧ y.cell? ⟨br, 0, none⟩ = some (.slice (some ⟨rg, ro, none⟩) i cr) ∧ At y bs C 30 ∧ y.rangeAt rg (ro + (i - 1) * 34) M.toList) (.take 0 (.take 1 (.take 2 (.sole 3 (.take 4 (.take 5 (.take 6 (.sole 7 (.take 8 .done))))))))) (by kernel_rfl) (by kernel_rfl) (by kernel_rfl) S0.out ?_
      refine plan_cell 59 _ _ (.slice ap q cp) _ (by rfl) (by rfl) (by rfl) Mem.ev_a (fun w' hw' => hw'.1) Tryd.underlying59 (by rfl) ?_
      (simp only [Act.put, List.setIfInBounds_toArray, List.set_cons_zero, List.set_cons_succ])
      refine plan_cell 35 _ _ (.slice (some ⟨rg, ro, none⟩) i cr) _ (by rfl) (by rfl) (by rfl) Mem.ev_a (fun w' hw' => hw'.2.1) Tryd.underlying35 (by rfl) ?_
      (simp only [Act.put, List.setIfInBounds_toArray, List.set_cons_zero, List.set_cons_succ])
      refine plan_row 30 _ bs _ C 30 (by rfl) (by rfl) (by rfl) Mem.ev_a (fun w' hw' => hw'.2.2.1) Tryd.underlying30 (by rfl) (by rw [CS.out]; exact infoPS) ?_
      (simp only [Act.put, List.setIfInBounds_toArray, List.set_cons_zero, List.set_cons_succ])
      refine plan_call 23 _ _ _ (by kernel_rfl) (by rfl) (by rfl) (by rfl) (by first | exact Mem.ev_none _ | (simp only [List.map_toArray, List.map_cons, List.map_nil, Mem.ev_tmp, List.getD_cons_succ, List.getD_cons_zero] <;> rfl)) ?_
      refine (RT.out wr.drew).mono ?_
      rintro e w15 ⟨rfl, hb15⟩
      have Q15 : Hid (Below wr.heap.size wr w15) := Lib.hid (((Below.refl _ _).drew).trans (hb15.mono (Nat.le_refl _)))
      clear hb15
      refine ⟨_, rfl, S1.out _ Q15.out, ?_⟩
      (simp only [Act.put, List.setIfInBounds_toArray, List.set_cons_zero, List.set_cons_succ])
      refine plan_index_z 35 32 _ _ rg ro i cr 34 (i - 1) (by rfl) (by rfl) (by rfl) Mem.ev_a Mem.ev_a (by omega) Tryd.underlying35 infoRfP ?_
      (simp only [Act.put, List.setIfInBounds_toArray, List.set_cons_zero, List.set_cons_succ])
      refine plan_load_range 32 _ rg (ro + (i - 1) * 34) _ M (by rfl) (by rfl) (by rfl) Mem.ev_a (fun w' hw' => hw'.2.2.2) Tryd.underlying32 (by rfl) (by rw [MS.out]; exact infoRfP) ?_
      (simp only [Act.put, List.setIfInBounds_toArray, List.set_cons_zero, List.set_cons_succ])
      (first | (refine plan_move _ _ (by rfl) (by rfl) (.inl (by rfl)) Mem.ev_a ?_) | (refine plan_move _ _ (by rfl) (by rfl) (.inr (by rfl)) Mem.ev_a ?_) | (refine plan_pick_t _ _ _ _ (by rfl) (by rfl) (by rfl) Mem.ev_a Mem.ev_a ?_) | (refine plan_pick_f _ _ _ _ (by rfl) (by rfl) (by rfl) Mem.ev_a Mem.ev_a ?_))
      (simp only [Act.put, List.setIfInBounds_toArray, List.set_cons_zero, List.set_cons_succ])
      have AZ15 := Lib.hid (AZW.out.below Q15.out AZW.out.lt)
      have S15 := Lib.hid (S1.out _ Q15.out)
      obtain ⟨n1, n2, n3, n4, n5⟩ := NE.out
      have hother : ∀ k, k ≠ w.heap.size + 1 + 1 + 1 → (w15.setRow (w.heap.size + 1 + 1 + 1) M).heap[k]? = w15.heap[k]? := fun k hne => setRow_other w15 (w.heap.size + 1 + 1 + 1) k M hne
      refine plan_store 32 _ _ (w.heap.size + 1 + 1 + 1) M Z 32 (by rfl) (by rfl) (by rfl) (by rfl) Mem.ev_a Mem.ev_a (by rw [MS.out]; exact infoRfP) AZ15.out (by rw [MS.out, ZS.out]) MO.out ⟨(World.cell?_of_block (a := ⟨bp, 0, none⟩) (hother bp (by omega))).trans S15.out.1, (World.cell?_of_block (a := ⟨br, 0, none⟩) (hother br (by omega))).trans S15.out.2.1, S15.out.2.2.1.row_other M (fun e => n1 e.symm), range_block S15.out.2.2.2 (hother rg (by omega))⟩ ?_
      (first | (refine plan_move _ _ (by rfl) (by rfl) (.inl (by rfl)) Mem.ev_a ?_) | (refine plan_move _ _ (by rfl) (by rfl) (.inr (by rfl)) Mem.ev_a ?_) | (refine plan_pick_t _ _ _ _ (by rfl) (by rfl) (by rfl) Mem.ev_a Mem.ev_a ?_) | (refine plan_pick_f _ _ _ _ (by rfl) (by rfl) (by rfl) Mem.ev_a Mem.ev_a ?_))
      (simp only [Act.put, List.setIfInBounds_toArray, List.set_cons_zero, List.set_cons_succ])
      refine plan_nil ?_
      have WP : Hid (WPut (fun k => w7.heap.size ≤ k) (w15.setRow (w.heap.size + 1 + 1 + 1) M) (.slice ap q cp) (PL i)) := Lib.hid (MkI.out IW.out (by have := Q15.out.size; simpa using this) fun k hk hl => by rw [hother k (by omega)]; exact Q15.out.block k hl)
      have BE : Hid (Below w.heap.size w (w15.setRow (w.heap.size + 1 + 1 + 1) M)) := Lib.hid (below_row (BW.out.trans (Q15.out.mono BW.out.size)) (by omega) M)
      have hsz := B5.out.size
      go_wp2_with fail
      try simp only [Exit.inBlock, Exit.then]
      refine ret_tmp_row_tmp (by rfl) (w.heap.size + 1 + 1 + 1) 32 M _ _ _ (by rfl) (by rfl) (by rfl) (AZ15.out.row M) Tryd.underlying32 (by rfl) (by rw [MS.out]; exact infoRfP) ?_
      exact ⟨_, rfl, WP.out.mono fun k hk _ => Nat.le_trans hsz hk, BE.out⟩
theorem pmake14_any (key : List (BitVec 8)) (ep : BitVec 32) (P : List (List (BitVec 8))) (v : Value) (w : World) (hT : TT w) (lk : key.length = 32) (hs : Sls w v P) (hn : P.length ≤ 1000) (hl : ∀ x ∈ P, x.length ≤ 1000) :
    Calls Tryd.prog 20 #[.pointer none, .agg (u8s key).toArray, .int .u32 (V ep), v] w (MkEnd w (makeT key ep P)) := by
  by_cases h : 1 ≤ P.length ∧ P.length ≤ 216 ∧ allP P = true
  · have hP : GoodP P := ⟨h.1, h.2.1, fun x hx => by
      have g := List.all_eq_true.1 h.2.2 x hx
      simpa using g⟩
    rw [makeT_ok key ep hP]
    exact pmake_good key ep P v w hT lk hs hP
  · rw [makeT_no h]
    exact pmake_bad key ep P v w lk hs hl hn h
end Sha
end Go.Proofs.YtajdpbbbocnfiaaDoor
