/- The document's Same: its walk. Layer 11, what its laws use: both Lays, alive. -/
import Derived.Test.YtbnjihpafipbnaaBA
import Derived.Test.YtbnjihpafipbnaaBE
import Derived.Test.YtbnjihpafipbnaaBD
import Derived.Test.YtbnjihpafipbnaaBC
import Derived.Deep.DeepCutAuto
namespace Go.Proofs.Ytbnjihpafipbnaa
namespace Sha
open Go.RowKit Mem
set_option maxRecDepth 100000 in
set_option maxHeartbeats 1000000 in
theorem same_any (l m : List (BitVec 8)) (vl vm : Value) (w : World) (hl : Sl w vl l) (hm : Sl w vm m) (_bl : l.length ≤ 9223372036854775807) (bm : m.length ≤ 9223372036854775807) :
    Calls Try.prog 13 #[vl, vm] w fun e w' => e = .returned (.bool (sameB l m)) ∧ Below w.heap.size w w' := by
  have hl0 := hl
  have hm0 := hm
  obtain ⟨a1, c1, rfl, hc1, _⟩ := hl
  obtain ⟨a2, c2, rfl, hc2, _⟩ := hm
  obtain ⟨n, hn⟩ : ∃ n, n = l.length := ⟨_, rfl⟩
  obtain ⟨k, hk⟩ : ∃ k, k = m.length := ⟨_, rfl⟩
  have HL := Lib.hid hl0; have HM := Lib.hid hm0
  clear hl0 hm0
  by_cases hne : n ≠ k
  · have hs := sameB_len l m (by omega)
    rw [hs]
    rw [← hn, ← hk]
    have hne' : ¬ (n : Int) = (k : Int) := by omega
    rw [← hn] at _bl; rw [← hk] at bm
    clear hs hn hk hc1 hc2 hne HL HM
    go_enter Try.func13, Try.ntmps13
    go_wp2
    go_ret
    exact ⟨rfl, Below.refl _ _⟩
  · have hnk : n = k := by omega
    subst hnk
    rw [← hn] at hc1 _bl
    rw [← hk] at hc2 bm
    have heq : (n : Int) = (n : Int) := rfl
    have HN := Lib.hid hn; have HK := Lib.hid hk
    rw [← hn, ← hk]
    clear hn hk hne heq
    go_enter Try.func13, Try.ntmps13
    go_wp2
    go_loopw [5] (fun i wr => ∃ j : Nat, j ≤ n ∧ i = .int .i64 j ∧ l.take j = m.take j ∧ ∃ q, wr = w.drewN q) (fun i _ => n - (intOf i).toNat)
    case atStart => exact ⟨0, Nat.zero_le _, rfl, rfl, 0, rfl⟩
    case round =>
      obtain ⟨j, hj, rfl, htk, q, rfl⟩ := hrel
      have HT := Lib.hid htk; clear htk
      by_cases hlt : j < n
      · obtain ⟨b1, o1, rfl, cl⟩ := sl_at (i := j) HL.out (by rw [← HN.out]; exact hlt)
        obtain ⟨b2, o2, rfl, cm⟩ := sl_at (i := j) HM.out (by rw [← HK.out]; exact hlt)
        have z0 : (0 : Int) ≤ (j : Int) := by omega
        have zn : (j : Int) < (n : Int) := by omega
        by_cases hxy : l.getD j 0 = m.getD j 0
        · have htn := take_next l m j (by rw [← HN.out]; exact hlt) (by rw [← HK.out]; exact hlt) HT.out hxy
          rw [← hxy] at cm
          obtain ⟨x, hx⟩ : ∃ x, x = l.getD j 0 := ⟨_, rfl⟩
          rw [← hx] at cl cm
          have HTN := Lib.hid htn
          clear hxy hx htn
          go_wp2
          go_quiet (fail)
          go_wp2
          go_roundw
          case rel => exact ⟨j + 1, by omega, by go_num, HTN.out, _, rfl⟩
          case measure => simp [intOf]; omega
        · have hs := sameB_at l m j hxy
          obtain ⟨x, hx⟩ : ∃ x, x = l.getD j 0 := ⟨_, rfl⟩
          obtain ⟨y, hy⟩ : ∃ y, y = m.getD j 0 := ⟨_, rfl⟩
          rw [← hx] at cl hxy
          rw [← hy] at cm hxy
          have hbn : (B8 x != B8 y) = true := by
            rw [bne_iff_ne]; exact fun e => hxy (B8_inj e)
          have hbe : ¬ B8 x = B8 y := fun e => hxy (B8_inj e)
          have HS := Lib.hid hs
          clear hs hx hy hxy
          go_wp2
          go_quiet (fail)
          go_wp2
          go_ret
          exact ⟨by rw [HS.out]; rfl, ⟨rfl, rfl, rfl, Nat.le_refl _, fun _ _ => rfl⟩⟩
      · have hjn : j = n := by omega
        have hge : ¬ (j : Int) < (n : Int) := by omega
        have hs : Hid (sameB l m = true) := by
          have h := HT.out
          rw [hjn, HN.out, List.take_length] at h
          have h2 : l.length = m.length := by rw [← HN.out, ← HK.out]
          rw [h2, List.take_length] at h
          show sameB l m = true
          rw [h]; exact sameB_self m
        clear hjn hlt
        go_wp2
        go_ret
        exact ⟨by rw [hs.out]; rfl, ⟨rfl, rfl, rfl, Nat.le_refl _, fun _ _ => rfl⟩⟩
end Sha
end Go.Proofs.Ytbnjihpafipbnaa
namespace Go.Proofs.Ytbnjihpafipbnaa
namespace Sha
open Go.RowKit Mem
set_option maxRecDepth 100000
/-- What Lay tells: bytes, a number. -/
def layB (h : HdV) : List (BitVec 8) := if mayH h then layH h else []
def layE (h : HdV) : Nat := if mayH h then 0 else 1
theorem layB_len (h : HdV) (w : h.Wf) : (layB h).length ≤ 256 := by
  unfold layB
  by_cases hm : mayH h = true
  · rw [if_pos hm, layH_length w (((mayH_iff h).1 hm).2.2.2.2.2.2)]; exact Nat.le_refl _
  · rw [if_neg hm]; exact Nat.zero_le _
theorem play11_any (h : HdV) (hw : h.Wf) (w : World) : Calls Try.prog 8 #[.agg (hdC h)] w (TwoEnd w (layB h) (layE h : Int)) := by
  unfold layB layE
  by_cases hm : mayH h = true
  · rw [if_pos hm, if_pos hm]
    exact (play11_good h hw hm w).mono fun e w' ⟨g, he, ha, _, hb⟩ => ⟨_, he, at_sl ha rfl, hb⟩
  · rw [if_neg hm, if_neg hm]
    exact (play11_bad h hw (by simpa using hm) w).mono fun e w' ⟨he, hb⟩ => ⟨_, he, sl_none _, hb⟩
theorem rlay11_any (h : HdV) (hw : h.Wf) (w : World) : Calls Try.prog 10 #[.agg (hdC h)] w (TwoEnd w (layB h) (layE h : Int)) := by
  unfold layB layE
  by_cases hm : mayH h = true
  · rw [if_pos hm, if_pos hm]; exact rlay11_good h hw hm w
  · rw [if_neg hm, if_neg hm]
    exact (rlay11_bad h hw (by simpa using hm) w).mono fun e w' ⟨he, hb⟩ => ⟨_, he, sl_none _, hb⟩
theorem parse_zeros : parseH (List.replicate 256 0) = (zhd, 3) := by
  unfold parseH
  rw [if_neg (by simp), if_pos (by decide)]
theorem lay9_first : (u8s (layH hd9)).toArray[0]? = some (.int .u8 67) := rfl
set_option maxHeartbeats 8000000 in
theorem alive11_any (w : World) : Calls Try.prog 7 #[] w fun e w' => e = .returned (.bool true) ∧ Below w.heap.size w w' := by
  have hm : mayH hd9 = true := by decide
  have hly := fun wx => play11_good hd9 hd9_wf hm wx
  have hlen : (layH hd9).length = 256 := layH_length hd9_wf (by decide)
  have hpar := fun v wx (h : Sl wx v (layH hd9)) => pparse11_any (layH hd9) v wx h (by rw [hlen]; decide)
  rw [parse_lay hd9 hd9_wf hm] at hpar
  have hup := fun wx => pup11_any hd9 hd9_wf wx
  rw [(up_twice hd9 hm (by decide)).1] at hup
  have hzp := fun v wx (h : Sl wx v (List.replicate 256 0)) => pparse11_any (List.replicate 256 0) v wx h (by simp)
  rw [parse_zeros] at hzp
  simp only at hpar hup hzp
  have wf2 : HdV.Wf { hd9 with ver := 2 } := ⟨by decide, by decide, by decide, by decide, wr3_wf, by decide⟩
  have eq9 := fun x y wx => eqlHP hd9_wf hd9_wf x y wx
  rw [sameHd_self] at eq9
  have bh := buildH9
  have bw := buildW3
  have hv2 : (hdC { hd9 with ver := 2 })[0]? = some (.int .i64 2) := hd_ver { hd9 with ver := 2 }
  have hf9 := lay9_first
  obtain ⟨i8, hi8, hz8, hs8, hb8⟩ := info_parts infoU8
  obtain ⟨L, hL⟩ : ∃ L, L = layH hd9 := ⟨_, rfl⟩
  rw [← hL] at hly hlen hpar hf9
  obtain ⟨M, hM⟩ : ∃ M, M = hdC hd9 := ⟨_, rfl⟩
  have ms : M.size = 84 := by rw [hM]; exact hdC_size hd9_wf
  have mo : M.all (·.oneCell') = true := by rw [hM]; exact hdC_one _
  obtain ⟨U, hU⟩ : ∃ U, U = hdC { hd9 with ver := 2 } := ⟨_, rfl⟩
  have us : U.size = 84 := by rw [hU]; exact hdC_size wf2
  have uo : U.all (·.oneCell') = true := by rw [hU]; exact hdC_one _
  obtain ⟨Z, hZ⟩ : ∃ Z, Z = hdC zhd := ⟨_, rfl⟩
  have zs : Z.size = 84 := by rw [hZ]; exact hdC_size zhd_wf
  have zo : Z.all (·.oneCell') = true := by rw [hZ]; exact hdC_one _
  have hx : ∀ w, (zeroValue 35).run Try.prog w = .ok (.agg Z) w := by rw [hZ]; exact zeroHdP
  obtain ⟨Wr, hWr⟩ : ∃ C, C = wrC wr3 := ⟨_, rfl⟩
  rw [← hM] at hly hpar hup eq9 bh
  rw [← hU] at hup hv2
  rw [← hZ] at hzp
  rw [← hWr] at bw bh
  have a1 := at_new w M 35
  have b1 : Below w.heap.size w (w.alloc (.cells M 35)) := (Below.refl _ _).alloc (Nat.le_refl _) _
  have LY := Lib.hid hly; have PA := Lib.hid hpar; have UP := Lib.hid hup; have ZP := Lib.hid hzp; have EQ9 := Lib.hid eq9; have BH := Lib.hid bh; have BW := Lib.hid bw; have HV2 := Lib.hid hv2; have HF := Lib.hid hf9; have LLEN := Lib.hid hlen; have MS := Lib.hid ms; have MO := Lib.hid mo; have US := Lib.hid us; have UO := Lib.hid uo; have ZS := Lib.hid zs; have ZO := Lib.hid zo; have HX := Lib.hid hx; have A1 := Lib.hid a1; have G0 := Lib.hid b1
  have I8 := Lib.hid hi8; have Z8 := Lib.hid hz8; have S8 := Lib.hid hs8; have B8' := Lib.hid hb8
  clear hm hly hlen hpar hup hzp wf2 eq9 bh bw hv2 hf9 ms mo us uo zs zo a1 b1 hL hM hU hZ hWr hi8 hz8 hs8 hb8
  go_enter Try.func7, Try.ntmps7
  go_wp2_with (first
    | (refine Mem.wpList_build (by rfl) 33 _ #[(1, .int .i64 3)] (.agg Wr) (by rfl) (by first | rfl | simp [Act.eval]) BW.out ?_)
    | (refine Mem.wpList_build (by rfl) 35 _ #[(0, .int .i64 1), (1, .int .i64 9), (2, .agg Wr), (3, .string { data := #[120] })] (.agg M) (by rfl) (by first | rfl | (simp [Act.eval]; rfl)) BH.out ?_)
    | (refine wpList_store_new (by rfl) 35 _ _ (by rfl) (by rfl) M _ _ (by rfl) (by rfl) (by rw [MS.out]; exact infoHdP) (by rw [MS.out, ZS.out]) MO.out ?_; clear hx)
    | (refine wpList_load_all (by rfl) 35 _ (by rfl) w.heap.size (by rfl) _ Try.underlying35 (by rfl) M _ A1.out (by rw [MS.out]; exact infoHdP) ?_))
  generalize w.alloc (.cells M 35) = w1 at *
  refine (LY.out w1).mono ?_
  rintro e w2 ⟨gb, rfl, ha, hgb, hb⟩
  rw [LLEN.out]
  have hs := at_sl ha LLEN.out
  have G2 : Hid (Below w.heap.size w w2) := Lib.hid (G0.out.trans (hb.mono G0.out.size))
  have A1_2 := Lib.hid (A1.out.below hb A1.out.lt); have S5 := Lib.hid hs; have CB := Lib.hid ha
  clear ha hgb hb hs A1 G0 LY
  go_wp2_with (first
    | (refine wpList_load_wanted (by rfl) 35 _ (by rfl) w.heap.size (by rfl) _ Try.underlying35 (by rfl) M _ A1_2.out (by rw [MS.out]; exact infoHdP) ?_))
  refine (PA.out _ _ S5.out).mono ?_
  rintro e x1 ⟨rfl, hb⟩
  have G1 : Hid (Below w.heap.size w x1) := Lib.hid (G2.out.trans (hb.mono G2.out.size))
  have A1_1 := Lib.hid (A1_2.out.below hb A1_2.out.lt)
  have CB_1 := Lib.hid (CB.out.below hb CB.out.lt)
  have S5_1 := Lib.hid (S5.out.below hb)
  clear hb
  clear A1_2 CB S5 G2
  have S5_2 := Lib.hid (S5_1.out.below ((Below.refl _ _).alloc (Nat.le_refl _) (.cells M 35)))
  have G2 : Hid (Below w.heap.size w (x1.alloc (.cells M 35))) := Lib.hid (G1.out.alloc G1.out.size _)
  have A1_2 := Lib.hid (A1_1.out.alloc (.cells M 35))
  have CB_2 := Lib.hid (CB_1.out.alloc (.cells M 35))
  have A4 := Lib.hid (at_new x1 M 35)
  have hz := HX.out
  go_upto_region 4 with (refine wpList_store_new (by rfl) 35 _ _ (by rfl) (by rfl) M _ _ (by rfl) (by rfl) (by rw [MS.out]; exact infoHdP) (by first | rfl | rw [MS.out, ZS.out]) MO.out ?_)
  clear hz
  obtain ⟨g2, hg⟩ : ∃ g, g = x1.heap.size := ⟨_, rfl⟩
  rw [← hg] at A4 ⊢
  clear hg
  generalize (x1.alloc (.cells M 35)) = y2 at *
  clear S5_1 A1_1 CB_1 G1
  go_wp2_with (first
    | (refine wpList_load_wanted (by rfl) 35 _ (by rfl) w.heap.size (by rfl) _ Try.underlying35 (by rfl) M _ A1_2.out (by rw [MS.out]; exact infoHdP) ?_)
    | (refine wpList_load_wanted (by rfl) 35 _ (by rfl) g2 (by rfl) _ Try.underlying35 (by rfl) M _ A4.out (by rw [MS.out]; exact infoHdP) ?_))
  refine (UP.out _).mono ?_
  rintro e x3 ⟨rfl, hb⟩
  have G3 : Hid (Below w.heap.size w x3) := Lib.hid (G2.out.trans (hb.mono G2.out.size))
  have A1_3 := Lib.hid (A1_2.out.below hb A1_2.out.lt)
  have CB_3 := Lib.hid (CB_2.out.below hb CB_2.out.lt)
  have A4_3 := Lib.hid (A4.out.below hb A4.out.lt)
  have S5_3 := Lib.hid (S5_2.out.below hb)
  clear hb
  clear A1_2 CB_2 A4 S5_2 G2
  have S5_4 := Lib.hid (S5_3.out.below ((Below.refl _ _).alloc (Nat.le_refl _) (.cells U 35)))
  have G4 : Hid (Below w.heap.size w (x3.alloc (.cells U 35))) := Lib.hid (G3.out.alloc G3.out.size _)
  have A1_4 := Lib.hid (A1_3.out.alloc (.cells U 35))
  have CB_4 := Lib.hid (CB_3.out.alloc (.cells U 35))
  have A4_4 := Lib.hid (A4_3.out.alloc (.cells U 35))
  have A6 := Lib.hid (at_new x3 U 35)
  have hz := HX.out
  go_upto_region 5 with (refine wpList_store_new (by rfl) 35 _ _ (by rfl) (by rfl) U _ _ (by rfl) (by rfl) (by rw [US.out]; exact infoHdP) (by first | rfl | rw [US.out, ZS.out]) UO.out ?_)
  clear hz
  obtain ⟨g4, hg⟩ : ∃ g, g = x3.heap.size := ⟨_, rfl⟩
  rw [← hg] at A6 ⊢
  clear hg
  generalize (x3.alloc (.cells U 35)) = y4 at *
  clear S5_3 A1_3 CB_3 A4_3 G3
  go_wp2_with (refine wpList_make_full _ (by rfl) _ _ 28 (by rfl) y4.heap.size 5 i8 (.int .u8 0) 1 Try.underlying28 I8.out Z8.out S8.out .i64 .i64 256 256 256 (by rfl) (by rfl) (by rfl) (by rfl) (by rw [B8'.out]; decide) (by decide) (Nat.le_refl _) ?_; intro wm hom hgm; have RM : Hid (At wm y4.heap.size (u8s (List.replicate 256 0)).toArray 5) := (by have h := own_full hom; rw [made_zeros] at h; exact h); have KM : Hid (Below y4.heap.size y4 wm) := Lib.hid ((Below.refl _ _).grown hgm (Nat.le_refl _) (fun _ h => by cases h)); clear hom hgm)
  have GM : Hid (Below w.heap.size w wm) := Lib.hid (G4.out.trans (KM.out.mono G4.out.size))
  have A1_m := Lib.hid (A1_4.out.below KM.out A1_4.out.lt)
  have CB_m := Lib.hid (CB_4.out.below KM.out CB_4.out.lt)
  have A4_m := Lib.hid (A4_4.out.below KM.out A4_4.out.lt)
  have A6_m := Lib.hid (A6.out.below KM.out A6.out.lt)
  have SZ := Lib.hid (at_sl RM.out (show (List.replicate 256 (0 : BitVec 8)).length = 256 by simp))
  clear KM RM
  clear A1_4 CB_4 A4_4 A6 G4 S5_4
  refine (ZP.out _ _ SZ.out).mono ?_
  rintro e x5 ⟨rfl, hb⟩
  have G5 : Hid (Below w.heap.size w x5) := Lib.hid (GM.out.trans (hb.mono GM.out.size))
  have A1_5 := Lib.hid (A1_m.out.below hb A1_m.out.lt)
  have CB_5 := Lib.hid (CB_m.out.below hb CB_m.out.lt)
  have A4_5 := Lib.hid (A4_m.out.below hb A4_m.out.lt)
  have A6_5 := Lib.hid (A6_m.out.below hb A6_m.out.lt)
  have SZ_5 := Lib.hid (SZ.out.below hb)
  clear hb
  clear A1_m CB_m A4_m A6_m SZ GM
  have SZ_6 := Lib.hid (SZ_5.out.below ((Below.refl _ _).alloc (Nat.le_refl _) (.cells Z 35)))
  have G6 : Hid (Below w.heap.size w (x5.alloc (.cells Z 35))) := Lib.hid (G5.out.alloc G5.out.size _)
  have A1_6 := Lib.hid (A1_5.out.alloc (.cells Z 35))
  have CB_6 := Lib.hid (CB_5.out.alloc (.cells Z 35))
  have A4_6 := Lib.hid (A4_5.out.alloc (.cells Z 35))
  have A6_6 := Lib.hid (A6_5.out.alloc (.cells Z 35))
  have A8 := Lib.hid (at_new x5 Z 35)
  have hz := HX.out
  go_upto_region 6 with (refine wpList_store_new (by rfl) 35 _ _ (by rfl) (by rfl) Z _ _ (by rfl) (by rfl) (by rw [ZS.out]; exact infoHdP) (by first | rfl | rw [ZS.out, ZS.out]) ZO.out ?_)
  clear hz
  obtain ⟨g6, hg⟩ : ∃ g, g = x5.heap.size := ⟨_, rfl⟩
  rw [← hg] at A8 ⊢
  clear hg
  generalize (x5.alloc (.cells Z 35)) = y6 at *
  clear SZ_5 A1_5 CB_5 A4_5 A6_5 G5
  have c67 := (CB_6.out.cell 0).trans HF.out
  have c2 := (A6_6.out.cell 0).trans HV2.out
  go_wp2_with (first
    | (refine wpList_load_wanted (by rfl) 35 _ (by rfl) w.heap.size (by rfl) _ Try.underlying35 (by rfl) M _ A1_6.out (by rw [MS.out]; exact infoHdP) ?_)
    | (refine wpList_load_wanted (by rfl) 35 _ (by rfl) g2 (by rfl) _ Try.underlying35 (by rfl) M _ A4_6.out (by rw [MS.out]; exact infoHdP) ?_)
    | (refine wpList_load_wanted (by rfl) 35 _ (by rfl) g4 (by rfl) _ Try.underlying35 (by rfl) U _ A6_6.out (by rw [US.out]; exact infoHdP) ?_)
    | (refine wpList_load_wanted (by rfl) 35 _ (by rfl) g6 (by rfl) _ Try.underlying35 (by rfl) Z _ A8.out (by rw [ZS.out]; exact infoHdP) ?_)
    | (refine wpList_bin (by rfl) .eql _ _ _ _ _ _ (.bool true) (by rfl) (by rfl) (by rfl) (fun wx => EQ9.out _ _ wx) ?_))
  go_ret
  exact ⟨rfl, G6.out⟩
end Sha
end Go.Proofs.Ytbnjihpafipbnaa
