/- Layer 12: ShapeItems, over the contracts. -/
import Derived.Test.YtbboljmemomcnaaShpMakes
import Derived.Deep.DeepCutAuto
namespace Go.Proofs.Ytbboljmemomcnaa
namespace Sha
open Go.RowKit Mem
set_option maxRecDepth 100000
set_option maxHeartbeats 8000000 in
theorem items12_bad (S : ShP) (z x y : Int) (w : World) (hz : z < 1 ∨ 216 < z) : Calls Try.prog 4 #[.int .i64 z, .int .i64 x, .int .i64 y] w fun e w' => e = .returned (.bool true) ∧ Below w.heap.size w w' := by
  have al := fun wx => alive12_any S wx
  have nw := S.bad z w hz
  have nr := fun wx => rnew_bad z wx hz
  obtain ⟨Z, hZ⟩ : ∃ Z, Z = S.Z := ⟨_, rfl⟩
  obtain ⟨Y, hY⟩ : ∃ Y, Y = rsC 0 (.slice none 0 0) (.slice none 0 0) := ⟨_, rfl⟩
  have zs := S.zsize; have zx := S.zero
  have zo := S.one w _ _ (S.nil w)
  have ys : Y.size = 3 := by rw [hY]; rfl
  have yo : Y.all (·.oneCell') = true := by rw [hY]; exact rsC_one _ _ _ _ _ _ _
  have yx : ∀ w, (zeroValue 29).run Try.prog w = .ok (.agg Y) w := by rw [hY]; exact zeroShR
  rw [← hZ] at zs zx zo nw
  rw [← hY] at nr
  have HX := Lib.hid zx; have ZS := Lib.hid zs; have ZO := Lib.hid zo; have YS := Lib.hid ys; have YO := Lib.hid yo; have YX := Lib.hid yx; have INF := Lib.hid S.info
  have AL := Lib.hid al; have NW := Lib.hid nw; have NR := Lib.hid nr
  have G0 := Lib.hid (Below.refl w.heap.size w)
  clear al nw nr zs zx zo ys yo yx hz hZ hY
  go_enter Try.func4, Try.ntmps4
  go_wp2_with fail
  refine (NW.out).mono ?_
  rintro e x1 ⟨rfl, hb⟩
  have G1 : Hid (Below w.heap.size w x1) := Lib.hid (G0.out.trans (hb.mono G0.out.size))
  clear hb
  clear G0
  have G2 : Hid (Below w.heap.size w (x1.alloc (.cells Z 23))) := Lib.hid (G1.out.alloc G1.out.size _)
  have K1 := Lib.hid (at_new x1 Z 23)
  have hz := HX.out
  go_upto_region 2 with (refine wpList_store_new (by rfl) 23 _ _ (by rfl) (by rfl) Z _ _ (by rfl) (by rfl) (by rw [ZS.out]; exact INF.out) (by first | rfl | rw [ZS.out, ZS.out]) ZO.out ?_)
  clear hz
  obtain ⟨g2, hg⟩ : ∃ g, g = x1.heap.size := ⟨_, rfl⟩
  rw [← hg] at K1 ⊢
  clear hg
  generalize (x1.alloc (.cells Z 23)) = y2 at *
  clear G1
  go_wp2_with (first
    | (refine wpList_load_wanted (by rfl) 23 _ (by rfl) g2 (by rfl) _ Try.underlying23 (by rfl) Z _ K1.out (by rw [ZS.out]; exact INF.out) ?_))
  refine (NR.out _).mono ?_
  rintro e x3 ⟨rfl, hb⟩
  have G3 : Hid (Below w.heap.size w x3) := Lib.hid (G2.out.trans (hb.mono G2.out.size))
  have K1_3 := Lib.hid (K1.out.below hb K1.out.lt)
  clear hb
  clear K1 G2
  have G4 : Hid (Below w.heap.size w (x3.alloc (.cells Y 29))) := Lib.hid (G3.out.alloc G3.out.size _)
  have K1_4 := Lib.hid (K1_3.out.alloc (.cells Y 29))
  have K2 := Lib.hid (at_new x3 Y 29)
  have hz := YX.out
  go_upto_region 3 with (refine wpList_store_new (by rfl) 29 _ _ (by rfl) (by rfl) Y _ _ (by rfl) (by rfl) (by rw [YS.out]; exact infoRS) (by first | rfl | rw [YS.out, YS.out]) YO.out ?_)
  clear hz
  obtain ⟨g4, hg⟩ : ∃ g, g = x3.heap.size := ⟨_, rfl⟩
  rw [← hg] at K2 ⊢
  clear hg
  generalize (x3.alloc (.cells Y 29)) = y4 at *
  clear K1_3 G3
  go_wp2_with (first
    | (refine wpList_load_wanted (by rfl) 23 _ (by rfl) g2 (by rfl) _ Try.underlying23 (by rfl) Z _ K1_4.out (by rw [ZS.out]; exact INF.out) ?_)
    | (refine wpList_load_wanted (by rfl) 29 _ (by rfl) g4 (by rfl) _ Try.underlying29 (by rfl) Y _ K2.out (by rw [YS.out]; exact infoRS) ?_))
  refine (AL.out _).mono ?_
  rintro e x5 ⟨rfl, hb⟩
  have G5 : Hid (Below w.heap.size w x5) := Lib.hid (G4.out.trans (hb.mono G4.out.size))
  have K1_5 := Lib.hid (K1_4.out.below hb K1_4.out.lt)
  have K2_5 := Lib.hid (K2.out.below hb K2.out.lt)
  clear hb
  clear K1_4 K2 G4
  go_wp2_with (first
    | (refine wpList_load_wanted (by rfl) 23 _ (by rfl) g2 (by rfl) _ Try.underlying23 (by rfl) Z _ K1_5.out (by rw [ZS.out]; exact INF.out) ?_)
    | (refine wpList_load_wanted (by rfl) 29 _ (by rfl) g4 (by rfl) _ Try.underlying29 (by rfl) Y _ K2_5.out (by rw [YS.out]; exact infoRS) ?_))
  go_ret
  exact ⟨rfl, G5.out⟩
set_option maxHeartbeats 8000000 in
theorem items12_many (S : ShP) (p : Nat) (x y : Int) (w : World) (h0 : 1 ≤ p) (h1 : p ≤ 216) (h6 : 60 < p) : Calls Try.prog 4 #[.int .i64 p, .int .i64 x, .int .i64 y] w fun e w' => e = .returned (.bool true) ∧ Below w.heap.size w w' := by
  have al := fun wx => alive12_any S wx
  have nw := S.good p w h0 h1
  have nr := fun wx => rnew_any p wx h0 h1
  have z0 := S.zero; have zs := S.zsize
  obtain ⟨Z, hZ⟩ : ∃ Z, Z = S.Z := ⟨_, rfl⟩
  rw [← hZ] at z0 zs
  obtain ⟨O, hO⟩ : ∃ Z, Z = rsC 0 (.slice none 0 0) (.slice none 0 0) := ⟨_, rfl⟩
  have os : O.size = 3 := by rw [hO]; rfl
  have yx : ∀ w, (zeroValue 29).run Try.prog w = .ok (.agg O) w := by rw [hO]; exact zeroShR
  have HX := Lib.hid z0; have ZS := Lib.hid zs; have YX := Lib.hid yx; have OS := Lib.hid os; have INF := Lib.hid S.info
  have AL := Lib.hid al; have NW := Lib.hid nw; have NR := Lib.hid nr
  have G0 := Lib.hid (Below.refl w.heap.size w)
  have hp : (60 : Int) < (p : Int) := by omega
  clear al nw nr z0 zs hZ hO os yx h0 h6
  go_enter Try.func4, Try.ntmps4
  go_wp2_with fail
  refine (NW.out).mono ?_
  rintro e x1 ⟨C, rfl, hr, hb⟩
  have G1 : Hid (Below w.heap.size w x1) := Lib.hid (G0.out.trans (hb.mono G0.out.size))
  have CS := Lib.hid (S.size _ _ _ hr); have CO := Lib.hid (S.one _ _ _ hr)
  clear hr
  clear hb
  clear G0
  have G2 : Hid (Below w.heap.size w (x1.alloc (.cells C 23))) := Lib.hid (G1.out.alloc G1.out.size _)
  have K1 := Lib.hid (at_new x1 C 23)
  have hz := HX.out
  go_upto_region 2 with (refine wpList_store_new (by rfl) 23 _ _ (by rfl) (by rfl) C _ _ (by rfl) (by rfl) (by rw [CS.out]; exact INF.out) (by first | rfl | rw [CS.out, ZS.out]) CO.out ?_)
  clear hz
  obtain ⟨g2, hg⟩ : ∃ g, g = x1.heap.size := ⟨_, rfl⟩
  rw [← hg] at K1 ⊢
  clear hg
  generalize (x1.alloc (.cells C 23)) = y2 at *
  clear G1
  go_wp2_with (first
    | (refine wpList_load_wanted (by rfl) 23 _ (by rfl) g2 (by rfl) _ Try.underlying23 (by rfl) C _ K1.out (by rw [CS.out]; exact INF.out) ?_))
  refine (NR.out _).mono ?_
  rintro e x3 ⟨vL, vF, rfl, hrs, hb⟩
  have G3 : Hid (Below w.heap.size w x3) := Lib.hid (G2.out.trans (hb.mono G2.out.size))
  have K1_3 := Lib.hid (K1.out.below hb K1.out.lt)
  have hone := hrs.one
  obtain ⟨Y, hY⟩ : ∃ Y, Y = rsC p vL vF := ⟨_, rfl⟩
  have ys : Y.size = 3 := by rw [hY]; rfl
  rw [← hY] at hone ⊢
  have YS := Lib.hid ys; have YO := Lib.hid hone
  clear ys hone hY hrs
  clear hb
  clear K1 G2
  have G4 : Hid (Below w.heap.size w (x3.alloc (.cells Y 29))) := Lib.hid (G3.out.alloc G3.out.size _)
  have K1_4 := Lib.hid (K1_3.out.alloc (.cells Y 29))
  have K2 := Lib.hid (at_new x3 Y 29)
  have hz := YX.out
  go_upto_region 3 with (refine wpList_store_new (by rfl) 29 _ _ (by rfl) (by rfl) Y _ _ (by rfl) (by rfl) (by rw [YS.out]; exact infoRS) (by first | rfl | rw [YS.out, OS.out]) YO.out ?_)
  clear hz
  obtain ⟨g4, hg⟩ : ∃ g, g = x3.heap.size := ⟨_, rfl⟩
  rw [← hg] at K2 ⊢
  clear hg
  generalize (x3.alloc (.cells Y 29)) = y4 at *
  clear K1_3 G3
  go_wp2_with (first
    | (refine wpList_load_wanted (by rfl) 23 _ (by rfl) g2 (by rfl) _ Try.underlying23 (by rfl) C _ K1_4.out (by rw [CS.out]; exact INF.out) ?_)
    | (refine wpList_load_wanted (by rfl) 29 _ (by rfl) g4 (by rfl) _ Try.underlying29 (by rfl) Y _ K2.out (by rw [YS.out]; exact infoRS) ?_))
  refine (AL.out _).mono ?_
  rintro e x5 ⟨rfl, hb⟩
  have G5 : Hid (Below w.heap.size w x5) := Lib.hid (G4.out.trans (hb.mono G4.out.size))
  have K1_5 := Lib.hid (K1_4.out.below hb K1_4.out.lt)
  have K2_5 := Lib.hid (K2.out.below hb K2.out.lt)
  clear hb
  clear K1_4 K2 G4
  go_wp2_with (first
    | (refine wpList_load_wanted (by rfl) 23 _ (by rfl) g2 (by rfl) _ Try.underlying23 (by rfl) C _ K1_5.out (by rw [CS.out]; exact INF.out) ?_)
    | (refine wpList_load_wanted (by rfl) 29 _ (by rfl) g4 (by rfl) _ Try.underlying29 (by rfl) Y _ K2_5.out (by rw [YS.out]; exact infoRS) ?_))
  go_ret
  exact ⟨rfl, G5.out⟩
theorem KZ_len (p : Nat) (z : Int) : (KZ p z).length ≤ 9223372036854775807 := by
  unfold KZ
  split
  · rw [kz_length]; have := many_le p z.toNat; omega
  · simp
theorem WZ_len (p : Nat) (z : Int) : (WZ p z).length ≤ 9223372036854775807 := by
  unfold WZ
  split
  · rw [pathZ_length]; have := top_le p; omega
  · simp
theorem UZ_lenp (p : Nat) (z : Int) (h1 : p ≤ 216) : (UZ p z p).length ≤ 9223372036854775807 := by
  have := UZ_len p z p; omega
theorem o_bne (b : Bool) (x y : Operand) (w : World) : (do eqGuard .neq 4 x y (.bool b) (.bool b); binOp .neq 4 (.bool b) (.bool b) : Sem Value).run Try.prog w = .ok (.bool false) w := by
  cases b <;> go_simp
theorem sameS_any (l : List Int) (vl vm : Value) (w : World) (hl : SlI w vl l) (hm : SlI w vm l) (bl : l.length ≤ 9223372036854775807) : Calls Try.prog 25 #[vl, vm] w fun e w' => e = .returned (.bool true) ∧ Below w.heap.size w w' := by
  have h := sameI_any l l vl vm w hl hm bl bl
  rw [sameI_self] at h
  exact h
set_option maxHeartbeats 16000000 in
theorem items12_in (S : ShP) (p : Nat) (i : Nat) (y : Int) (w : World) (h0 : 1 ≤ p) (h1 : p ≤ 60) (hi : i < itn p) : Calls Try.prog 4 #[.int .i64 p, .int .i64 (i : Int), .int .i64 y] w fun e w' => e = .returned (.bool true) ∧ Below w.heap.size w w' := by
  have hw : p ≤ 216 := by omega
  have al := fun wx => alive12_any S wx
  have nw := S.good p w h0 hw
  have nr := fun wx => rnew_any p wx h0 hw
  have z0 := S.zero; have zs := S.zsize
  obtain ⟨Z, hZ⟩ : ∃ Z, Z = S.Z := ⟨_, rfl⟩
  rw [← hZ] at z0 zs
  obtain ⟨O, hO⟩ : ∃ Z, Z = rsC 0 (.slice none 0 0) (.slice none 0 0) := ⟨_, rfl⟩
  have os : O.size = 3 := by rw [hO]; rfl
  have yx : ∀ w, (zeroValue 29).run Try.prog w = .ok (.agg O) w := by rw [hO]; exact zeroShR
  have HX := Lib.hid z0; have ZS := Lib.hid zs; have YX := Lib.hid yx; have OS := Lib.hid os; have INF := Lib.hid S.info
  have AL := Lib.hid al; have NW := Lib.hid nw; have NR := Lib.hid nr
  have G0 := Lib.hid (Below.refl w.heap.size w)
  have hp : ¬ (60 : Int) < (p : Int) := by omega
  have hlv : lvlP p (i : Int) = (lev p i : Int) := by unfold lvlP; rw [if_pos ⟨by omega, by omega⟩, Int.toNat_natCast]
  have lv := fun wx C h => S.level wx C p (i : Int) hw h
  rw [hlv] at lv
  obtain ⟨t, ht⟩ : ∃ t : Int, t = (lev p i : Int) := ⟨_, rfl⟩
  rw [← ht] at lv
  have hzk : (zL p).getD i 0 = t := by rw [zL_get p i hi, ht]
  have pr := fun wx C h => S.parent wx C p (i : Int) hw h
  have rpr := fun vL vF wx h => rparent_any p vL vF (i : Int) wx h h0 hw
  have it := fun wx C h => S.item wx C p y hw h
  have hb9 := (itn_big p h0 hw).2
  have rit := fun vL vF wx h => ritem_any p vL vF y wx h hb9
  obtain ⟨⟨pa, pb, pc⟩, hP⟩ : ∃ q, q = PZ p (i : Int) := ⟨_, rfl⟩
  obtain ⟨⟨ia, ib, ic⟩, hI⟩ : ∃ q, q = IZ p y := ⟨_, rfl⟩
  rw [← hP] at pr rpr
  rw [← hI] at it rit
  have pr2 : ∀ wx C, S.R wx C p → Calls Try.prog 20 #[.agg C, .int .i64 (i : Int)] wx fun e w' => e = .returned (.tuple #[.int .i64 pa, .int .i64 pb, .bool pc]) ∧ Below wx.heap.size wx w' := pr
  have rpr2 : ∀ vL vF wx, RS wx p vL vF → Calls Try.prog 21 #[.agg (rsC p vL vF), .int .i64 (i : Int)] wx fun e w' => e = .returned (.tuple #[.int .i64 pa, .int .i64 pb, .bool pc]) ∧ Below wx.heap.size wx w' := rpr
  have it2 : ∀ wx C, S.R wx C p → Calls Try.prog 22 #[.agg C, .int .i64 y] wx fun e w' => e = .returned (.tuple #[.int .i64 ia, .int .i64 ib, .bool ic]) ∧ Below wx.heap.size wx w' := it
  have rit2 : ∀ vL vF wx, RS wx p vL vF → Calls Try.prog 23 #[.agg (rsC p vL vF), .int .i64 y] wx fun e w' => e = .returned (.tuple #[.int .i64 ia, .int .i64 ib, .bool ic]) ∧ Below wx.heap.size wx w' := rit
  have bl := fun k wx C h => S.block wx C p (i : Int) k hw h
  have rbl := fun k vL vF wx h => rblock_any p vL vF (i : Int) k wx h hb9
  have kd := fun wx C h => S.kids wx C p (i : Int) hw h
  have pt := fun wx C h => S.path wx C p (i : Int) hw h
  have un := fun wx C h => S.under wx C p (i : Int) hw h
  have rkd := fun vL vF wx h => rkids_any p vL vF (i : Int) wx h h0 hw
  have rpt := fun vL vF wx h => (rpath_any p vL vF (i : Int) wx h h0 hw).mono fun e w' h => h.I
  have run := fun vL vF wx h => (runder_any p vL vF (i : Int) wx h h0 hw).mono fun e w' h => h.I
  have kl := KZ_len p (i : Int)
  have wl := WZ_len p (i : Int)
  have ul := UZ_lenp p (i : Int) hw
  obtain ⟨lk, hlk⟩ : ∃ l, l = KZ p (i : Int) := ⟨_, rfl⟩
  obtain ⟨lw, hlw⟩ : ∃ l, l = WZ p (i : Int) := ⟨_, rfl⟩
  obtain ⟨lu, hlu⟩ : ∃ l, l = UZ p (i : Int) p := ⟨_, rfl⟩
  rw [← hlk] at kd rkd kl
  rw [← hlw] at pt rpt wl
  rw [← hlu] at un run ul
  obtain ⟨m, hm⟩ : ∃ m, m = itn p := ⟨_, rfl⟩
  have hzl : (zL p).length = m := by rw [zL_length, hm]
  rw [← hm] at hi hb9
  have LV := Lib.hid lv; have PR := Lib.hid pr2; have RPR := Lib.hid rpr2; have IT := Lib.hid it2; have RIT := Lib.hid rit2; have BL := Lib.hid bl; have RBL := Lib.hid rbl; have KD := Lib.hid kd; have PT := Lib.hid pt; have UN := Lib.hid un; have RKD := Lib.hid rkd; have RPT := Lib.hid rpt; have RUN := Lib.hid run; have KL := Lib.hid kl; have WL := Lib.hid wl; have UL := Lib.hid ul; have ZL := Lib.hid hzl; have ZK := Lib.hid hzk
  clear lv pr2 rpr2 it2 rit2 bl rbl kd pt un rkd rpt run kl wl ul hzl hzk pr rpr it rit hlv al nw nr z0 zs hZ hO os yx h0 h1 hw hP hI hlk hlw hlu hm ht
  go_enter Try.func4, Try.ntmps4
  go_wp2_with fail
  refine (NW.out).mono ?_
  rintro e x1 ⟨C, rfl, hr, hb⟩
  have G1 : Hid (Below w.heap.size w x1) := Lib.hid (G0.out.trans (hb.mono G0.out.size))
  have RR := Lib.hid hr; have CS := Lib.hid (S.size _ _ _ hr); have CO := Lib.hid (S.one _ _ _ hr)
  clear hr
  clear hb
  clear G0
  have RR_2 := Lib.hid (S.below _ _ _ _ RR.out ((Below.refl _ _).alloc (Nat.le_refl _) (.cells C 23)))
  have G2 : Hid (Below w.heap.size w (x1.alloc (.cells C 23))) := Lib.hid (G1.out.alloc G1.out.size _)
  have K1 := Lib.hid (at_new x1 C 23)
  have hz := HX.out
  go_upto_region 2 with (refine wpList_store_new (by rfl) 23 _ _ (by rfl) (by rfl) C _ _ (by rfl) (by rfl) (by rw [CS.out]; exact INF.out) (by first | rfl | rw [CS.out, ZS.out]) CO.out ?_)
  clear hz
  obtain ⟨g2, hg⟩ : ∃ g, g = x1.heap.size := ⟨_, rfl⟩
  rw [← hg] at K1 ⊢
  clear hg
  generalize (x1.alloc (.cells C 23)) = y2 at *
  clear RR G1
  go_wp2_with (first
    | (refine wpList_load_wanted (by rfl) 23 _ (by rfl) g2 (by rfl) _ Try.underlying23 (by rfl) C _ K1.out (by rw [CS.out]; exact INF.out) ?_))
  refine (NR.out _).mono ?_
  rintro e x3 ⟨vL, vF, rfl, hrs, hb⟩
  have G3 : Hid (Below w.heap.size w x3) := Lib.hid (G2.out.trans (hb.mono G2.out.size))
  have K1_3 := Lib.hid (K1.out.below hb K1.out.lt)
  have RR_3 := Lib.hid (S.below _ _ _ _ RR_2.out hb)
  have hone := hrs.one
  obtain ⟨aL, cL, rfl⟩ := hrs.l.hdn ZL.out
  obtain ⟨bl, ol, rfl, hblt, hcx⟩ := sli_at (i := i) hrs.l ZL.out.symm hi
  rw [ZK.out] at hcx
  have CX := Lib.hid hcx; have LX := Lib.hid hblt
  clear hcx hblt
  have RPR2 := Lib.hid (RPR.out (.slice (some ⟨bl, ol, none⟩) m cL) vF)
  have RIT2 := Lib.hid (RIT.out (.slice (some ⟨bl, ol, none⟩) m cL) vF)
  have RKD2 := Lib.hid (RKD.out (.slice (some ⟨bl, ol, none⟩) m cL) vF)
  have RPT2 := Lib.hid (RPT.out (.slice (some ⟨bl, ol, none⟩) m cL) vF)
  have RUN2 := Lib.hid (RUN.out (.slice (some ⟨bl, ol, none⟩) m cL) vF)
  have RBL2 := Lib.hid (fun k => RBL.out k (.slice (some ⟨bl, ol, none⟩) m cL) vF)
  clear RPR RIT RKD RPT RUN RBL
  have RA := Lib.hid hrs
  obtain ⟨Y, hY⟩ : ∃ Y, Y = rsC p (.slice (some ⟨bl, ol, none⟩) m cL) vF := ⟨_, rfl⟩
  have y1 : Y[1]? = some (.slice (some ⟨bl, ol, none⟩) m cL) := by rw [hY]; rfl
  have ys : Y.size = 3 := by rw [hY]; rfl
  rw [← hY] at hone RPR2 RIT2 RKD2 RPT2 RUN2 RBL2 ⊢
  have YS := Lib.hid ys; have YO := Lib.hid hone; have Y1 := Lib.hid y1
  clear ys hone y1 hY hrs
  clear hb
  clear K1 RR_2 G2
  have CXN : Hid ((x3.alloc (.cells Y 29)).cell? ⟨bl, ol + i, none⟩ = some (.int .i64 t)) := Lib.hid (((((Below.refl _ _).alloc (Nat.le_refl _) (.cells Y 29))).cell (p := ⟨bl, ol + i, none⟩) LX.out).trans CX.out)
  clear CX LX
  have RR_4 := Lib.hid (S.below _ _ _ _ RR_3.out ((Below.refl _ _).alloc (Nat.le_refl _) (.cells Y 29)))
  have RA_4 := Lib.hid (RS.below RA.out ((Below.refl _ _).alloc (Nat.le_refl _) (.cells Y 29)))
  have G4 : Hid (Below w.heap.size w (x3.alloc (.cells Y 29))) := Lib.hid (G3.out.alloc G3.out.size _)
  have K1_4 := Lib.hid (K1_3.out.alloc (.cells Y 29))
  have K2 := Lib.hid (at_new x3 Y 29)
  have hz := YX.out
  go_upto_region 6 with (refine wpList_store_new (by rfl) 29 _ _ (by rfl) (by rfl) Y _ _ (by rfl) (by rfl) (by rw [YS.out]; exact infoRS) (by first | rfl | rw [YS.out, OS.out]) YO.out ?_)
  clear hz
  obtain ⟨g4, hg⟩ : ∃ g, g = x3.heap.size := ⟨_, rfl⟩
  rw [← hg] at K2 ⊢
  clear hg
  generalize (x3.alloc (.cells Y 29)) = y4 at *
  clear RR_3 RA K1_3 G3
  have hcx := CXN.out
  have hi2 : (i : Int) < (m : Int) := by omega
  have hi0 : 0 ≤ (i : Int) := by omega
  have cf5 : y4.cell? ⟨g4, 1, none⟩ = some (.slice (some ⟨bl, ol, none⟩) m cL) := (K2.out.cell 1).trans Y1.out
  go_upto_region 8 with (first
    | (refine wpList_load_wanted (by rfl) 23 _ (by rfl) g2 (by rfl) _ Try.underlying23 (by rfl) C _ K1_4.out (by rw [CS.out]; exact INF.out) ?_)
    | (refine wpList_load_wanted (by rfl) 29 _ (by rfl) g4 (by rfl) _ Try.underlying29 (by rfl) Y _ K2.out (by rw [YS.out]; exact infoRS) ?_))
  clear hcx CXN cf5
  go_wp2_with (first
    | (refine wpList_load_wanted (by rfl) 23 _ (by rfl) g2 (by rfl) _ Try.underlying23 (by rfl) C _ K1_4.out (by rw [CS.out]; exact INF.out) ?_)
    | (refine wpList_load_wanted (by rfl) 29 _ (by rfl) g4 (by rfl) _ Try.underlying29 (by rfl) Y _ K2.out (by rw [YS.out]; exact infoRS) ?_))
  refine (PR.out _ _ RR_4.out).mono ?_
  rintro e x6 ⟨rfl, hb⟩
  have G6 : Hid (Below w.heap.size w x6) := Lib.hid (G4.out.trans (hb.mono G4.out.size))
  have K1_6 := Lib.hid (K1_4.out.below hb K1_4.out.lt)
  have K2_6 := Lib.hid (K2.out.below hb K2.out.lt)
  have RR_6 := Lib.hid (S.below _ _ _ _ RR_4.out hb)
  have RA_6 := Lib.hid (RS.below RA_4.out hb)
  clear hb
  clear K1_4 K2 RR_4 RA_4 G4
  go_wp2_with (first
    | (refine wpList_load_wanted (by rfl) 23 _ (by rfl) g2 (by rfl) _ Try.underlying23 (by rfl) C _ K1_6.out (by rw [CS.out]; exact INF.out) ?_)
    | (refine wpList_load_wanted (by rfl) 29 _ (by rfl) g4 (by rfl) _ Try.underlying29 (by rfl) Y _ K2_6.out (by rw [YS.out]; exact infoRS) ?_))
  refine (RPR2.out _ RA_6.out).mono ?_
  rintro e x7 ⟨rfl, hb⟩
  have G7 : Hid (Below w.heap.size w x7) := Lib.hid (G6.out.trans (hb.mono G6.out.size))
  have K1_7 := Lib.hid (K1_6.out.below hb K1_6.out.lt)
  have K2_7 := Lib.hid (K2_6.out.below hb K2_6.out.lt)
  have RR_7 := Lib.hid (S.below _ _ _ _ RR_6.out hb)
  have RA_7 := Lib.hid (RS.below RA_6.out hb)
  clear hb
  clear K1_6 K2_6 RR_6 RA_6 G6
  go_wp2_with (first
    | (refine wpList_load_wanted (by rfl) 23 _ (by rfl) g2 (by rfl) _ Try.underlying23 (by rfl) C _ K1_7.out (by rw [CS.out]; exact INF.out) ?_)
    | (refine wpList_load_wanted (by rfl) 29 _ (by rfl) g4 (by rfl) _ Try.underlying29 (by rfl) Y _ K2_7.out (by rw [YS.out]; exact infoRS) ?_))
  refine (IT.out _ _ RR_7.out).mono ?_
  rintro e x8 ⟨rfl, hb⟩
  have G8 : Hid (Below w.heap.size w x8) := Lib.hid (G7.out.trans (hb.mono G7.out.size))
  have K1_8 := Lib.hid (K1_7.out.below hb K1_7.out.lt)
  have K2_8 := Lib.hid (K2_7.out.below hb K2_7.out.lt)
  have RR_8 := Lib.hid (S.below _ _ _ _ RR_7.out hb)
  have RA_8 := Lib.hid (RS.below RA_7.out hb)
  clear hb
  clear K1_7 K2_7 RR_7 RA_7 G7
  go_wp2_with (first
    | (refine wpList_load_wanted (by rfl) 23 _ (by rfl) g2 (by rfl) _ Try.underlying23 (by rfl) C _ K1_8.out (by rw [CS.out]; exact INF.out) ?_)
    | (refine wpList_load_wanted (by rfl) 29 _ (by rfl) g4 (by rfl) _ Try.underlying29 (by rfl) Y _ K2_8.out (by rw [YS.out]; exact infoRS) ?_))
  refine (RIT2.out _ RA_8.out).mono ?_
  rintro e x9 ⟨rfl, hb⟩
  have G9 : Hid (Below w.heap.size w x9) := Lib.hid (G8.out.trans (hb.mono G8.out.size))
  have K1_9 := Lib.hid (K1_8.out.below hb K1_8.out.lt)
  have K2_9 := Lib.hid (K2_8.out.below hb K2_8.out.lt)
  have RR_9 := Lib.hid (S.below _ _ _ _ RR_8.out hb)
  have RA_9 := Lib.hid (RS.below RA_8.out hb)
  clear hb
  clear K1_8 K2_8 RR_8 RA_8 G8
  go_wp2_with (first
    | (refine wpList_load_wanted (by rfl) 23 _ (by rfl) g2 (by rfl) _ Try.underlying23 (by rfl) C _ K1_9.out (by rw [CS.out]; exact INF.out) ?_)
    | (refine wpList_load_wanted (by rfl) 29 _ (by rfl) g4 (by rfl) _ Try.underlying29 (by rfl) Y _ K2_9.out (by rw [YS.out]; exact infoRS) ?_))
  refine (LV.out _ _ RR_9.out).mono ?_
  rintro e x10 ⟨rfl, hb⟩
  have G10 : Hid (Below w.heap.size w x10) := Lib.hid (G9.out.trans (hb.mono G9.out.size))
  have K1_10 := Lib.hid (K1_9.out.below hb K1_9.out.lt)
  have K2_10 := Lib.hid (K2_9.out.below hb K2_9.out.lt)
  have RR_10 := Lib.hid (S.below _ _ _ _ RR_9.out hb)
  have RA_10 := Lib.hid (RS.below RA_9.out hb)
  clear hb
  clear K1_9 K2_9 RR_9 RA_9 G9
  go_wp2_with (first
    | (refine wpList_load_wanted (by rfl) 23 _ (by rfl) g2 (by rfl) _ Try.underlying23 (by rfl) C _ K1_10.out (by rw [CS.out]; exact INF.out) ?_)
    | (refine wpList_load_wanted (by rfl) 29 _ (by rfl) g4 (by rfl) _ Try.underlying29 (by rfl) Y _ K2_10.out (by rw [YS.out]; exact infoRS) ?_)
    | (refine wpList_bin (by rfl) .neq _ _ _ _ _ _ (.bool false) (by rfl) (by rfl) (by rfl) (fun wx => o_bne _ _ _ wx) ?_)
    | (refine wpList_bin (by rfl) .neq _ _ _ _ _ _ (.bool false) (by rfl) (by rfl) (by rfl) (fun wx => o_ine _ _ _ _ _ wx) ?_))
  go_loopw [24] (fun v wr => ∃ k : Int, -1 ≤ k ∧ k ≤ 3 ∧ v = .int .i64 k ∧ Below x10.heap.size x10 wr) (fun v _ => (3 - intOf v).toNat)
  case atStart => exact ⟨-1, by omega, by omega, rfl, Below.refl _ _⟩
  case round =>
    obtain ⟨k, hk0, hk1, rfl, hbw⟩ := hrel
    have BW := Lib.hid hbw; have AW := Lib.hid (K1_10.out.below hbw K1_10.out.lt); have AY := Lib.hid (K2_10.out.below hbw K2_10.out.lt); have RW := Lib.hid (S.below _ _ _ _ RR_10.out hbw); have RY := Lib.hid (RS.below RA_10.out hbw)
    clear hbw
    have D0 : Hid (Below wr.heap.size wr wr.drew) := Lib.hid (Below.refl _ _).drew
    by_cases hk : k < 3
    · go_wp2_with fail
      refine wp_region_plan_in (fun x' => Below wr.heap.size wr x') (.take 0 (.take 1 (.take 2 (.take 4 (.take 5 (.take 6 (.sole 3 (.sole 7 (.take 8 .done))))))))) (by kernel_rfl) (by kernel_rfl) (by kernel_rfl) D0.out ?_
      refine plan_row 23 _ g2 _ C 23 (by rfl) (by rfl) (by rfl) (by first | (with_reducible exact Mem.ev_const _ _) | (with_reducible exact Mem.ev_zero _ _ _) | (with_reducible (apply Eq.trans (Mem.ev_tmp _ _ _)); simp only [List.getD_cons_succ, List.getD_cons_zero] <;> rfl)) (fun w' hw' => AW.out.below hw' AW.out.lt) Try.underlying23 (by rfl) (by rw [CS.out]; exact INF.out) ?_
      (simp only [Act.put, List.setIfInBounds_toArray, List.set_cons_zero, List.set_cons_succ])
      (first | (refine plan_move _ _ (by rfl) (by rfl) (.inl (by rfl)) (by first | (with_reducible exact Mem.ev_const _ _) | (with_reducible exact Mem.ev_zero _ _ _) | (with_reducible (apply Eq.trans (Mem.ev_tmp _ _ _)); simp only [List.getD_cons_succ, List.getD_cons_zero] <;> rfl)) ?_) | (refine plan_move _ _ (by rfl) (by rfl) (.inr (by rfl)) (by first | (with_reducible exact Mem.ev_const _ _) | (with_reducible exact Mem.ev_zero _ _ _) | (with_reducible (apply Eq.trans (Mem.ev_tmp _ _ _)); simp only [List.getD_cons_succ, List.getD_cons_zero] <;> rfl)) ?_) | (refine plan_pick_t _ _ _ _ (by rfl) (by rfl) (by rfl) (by first | (with_reducible exact Mem.ev_const _ _) | (with_reducible exact Mem.ev_zero _ _ _) | (with_reducible (apply Eq.trans (Mem.ev_tmp _ _ _)); simp only [List.getD_cons_succ, List.getD_cons_zero] <;> rfl)) (by first | (with_reducible exact Mem.ev_const _ _) | (with_reducible exact Mem.ev_zero _ _ _) | (with_reducible (apply Eq.trans (Mem.ev_tmp _ _ _)); simp only [List.getD_cons_succ, List.getD_cons_zero] <;> rfl)) ?_) | (refine plan_pick_f _ _ _ _ (by rfl) (by rfl) (by rfl) (by first | (with_reducible exact Mem.ev_const _ _) | (with_reducible exact Mem.ev_zero _ _ _) | (with_reducible (apply Eq.trans (Mem.ev_tmp _ _ _)); simp only [List.getD_cons_succ, List.getD_cons_zero] <;> rfl)) (by first | (with_reducible exact Mem.ev_const _ _) | (with_reducible exact Mem.ev_zero _ _ _) | (with_reducible (apply Eq.trans (Mem.ev_tmp _ _ _)); simp only [List.getD_cons_succ, List.getD_cons_zero] <;> rfl)) ?_))
      (simp only [Act.put, List.setIfInBounds_toArray, List.set_cons_zero, List.set_cons_succ])
      (first | (refine plan_move _ _ (by rfl) (by rfl) (.inl (by rfl)) (by first | (with_reducible exact Mem.ev_const _ _) | (with_reducible exact Mem.ev_zero _ _ _) | (with_reducible (apply Eq.trans (Mem.ev_tmp _ _ _)); simp only [List.getD_cons_succ, List.getD_cons_zero] <;> rfl)) ?_) | (refine plan_move _ _ (by rfl) (by rfl) (.inr (by rfl)) (by first | (with_reducible exact Mem.ev_const _ _) | (with_reducible exact Mem.ev_zero _ _ _) | (with_reducible (apply Eq.trans (Mem.ev_tmp _ _ _)); simp only [List.getD_cons_succ, List.getD_cons_zero] <;> rfl)) ?_) | (refine plan_pick_t _ _ _ _ (by rfl) (by rfl) (by rfl) (by first | (with_reducible exact Mem.ev_const _ _) | (with_reducible exact Mem.ev_zero _ _ _) | (with_reducible (apply Eq.trans (Mem.ev_tmp _ _ _)); simp only [List.getD_cons_succ, List.getD_cons_zero] <;> rfl)) (by first | (with_reducible exact Mem.ev_const _ _) | (with_reducible exact Mem.ev_zero _ _ _) | (with_reducible (apply Eq.trans (Mem.ev_tmp _ _ _)); simp only [List.getD_cons_succ, List.getD_cons_zero] <;> rfl)) ?_) | (refine plan_pick_f _ _ _ _ (by rfl) (by rfl) (by rfl) (by first | (with_reducible exact Mem.ev_const _ _) | (with_reducible exact Mem.ev_zero _ _ _) | (with_reducible (apply Eq.trans (Mem.ev_tmp _ _ _)); simp only [List.getD_cons_succ, List.getD_cons_zero] <;> rfl)) (by first | (with_reducible exact Mem.ev_const _ _) | (with_reducible exact Mem.ev_zero _ _ _) | (with_reducible (apply Eq.trans (Mem.ev_tmp _ _ _)); simp only [List.getD_cons_succ, List.getD_cons_zero] <;> rfl)) ?_))
      (simp only [Act.put, List.setIfInBounds_toArray, List.set_cons_zero, List.set_cons_succ])
      refine plan_row 29 _ g4 _ Y 29 (by rfl) (by rfl) (by rfl) (by first | (with_reducible exact Mem.ev_const _ _) | (with_reducible exact Mem.ev_zero _ _ _) | (with_reducible (apply Eq.trans (Mem.ev_tmp _ _ _)); simp only [List.getD_cons_succ, List.getD_cons_zero] <;> rfl)) (fun w' hw' => AY.out.below hw' AY.out.lt) Try.underlying29 (by rfl) (by rw [YS.out]; exact infoRS) ?_
      (simp only [Act.put, List.setIfInBounds_toArray, List.set_cons_zero, List.set_cons_succ])
      (first | (refine plan_move _ _ (by rfl) (by rfl) (.inl (by rfl)) (by first | (with_reducible exact Mem.ev_const _ _) | (with_reducible exact Mem.ev_zero _ _ _) | (with_reducible (apply Eq.trans (Mem.ev_tmp _ _ _)); simp only [List.getD_cons_succ, List.getD_cons_zero] <;> rfl)) ?_) | (refine plan_move _ _ (by rfl) (by rfl) (.inr (by rfl)) (by first | (with_reducible exact Mem.ev_const _ _) | (with_reducible exact Mem.ev_zero _ _ _) | (with_reducible (apply Eq.trans (Mem.ev_tmp _ _ _)); simp only [List.getD_cons_succ, List.getD_cons_zero] <;> rfl)) ?_) | (refine plan_pick_t _ _ _ _ (by rfl) (by rfl) (by rfl) (by first | (with_reducible exact Mem.ev_const _ _) | (with_reducible exact Mem.ev_zero _ _ _) | (with_reducible (apply Eq.trans (Mem.ev_tmp _ _ _)); simp only [List.getD_cons_succ, List.getD_cons_zero] <;> rfl)) (by first | (with_reducible exact Mem.ev_const _ _) | (with_reducible exact Mem.ev_zero _ _ _) | (with_reducible (apply Eq.trans (Mem.ev_tmp _ _ _)); simp only [List.getD_cons_succ, List.getD_cons_zero] <;> rfl)) ?_) | (refine plan_pick_f _ _ _ _ (by rfl) (by rfl) (by rfl) (by first | (with_reducible exact Mem.ev_const _ _) | (with_reducible exact Mem.ev_zero _ _ _) | (with_reducible (apply Eq.trans (Mem.ev_tmp _ _ _)); simp only [List.getD_cons_succ, List.getD_cons_zero] <;> rfl)) (by first | (with_reducible exact Mem.ev_const _ _) | (with_reducible exact Mem.ev_zero _ _ _) | (with_reducible (apply Eq.trans (Mem.ev_tmp _ _ _)); simp only [List.getD_cons_succ, List.getD_cons_zero] <;> rfl)) ?_))
      (simp only [Act.put, List.setIfInBounds_toArray, List.set_cons_zero, List.set_cons_succ])
      (first | (refine plan_move _ _ (by rfl) (by rfl) (.inl (by rfl)) (by first | (with_reducible exact Mem.ev_const _ _) | (with_reducible exact Mem.ev_zero _ _ _) | (with_reducible (apply Eq.trans (Mem.ev_tmp _ _ _)); simp only [List.getD_cons_succ, List.getD_cons_zero] <;> rfl)) ?_) | (refine plan_move _ _ (by rfl) (by rfl) (.inr (by rfl)) (by first | (with_reducible exact Mem.ev_const _ _) | (with_reducible exact Mem.ev_zero _ _ _) | (with_reducible (apply Eq.trans (Mem.ev_tmp _ _ _)); simp only [List.getD_cons_succ, List.getD_cons_zero] <;> rfl)) ?_) | (refine plan_pick_t _ _ _ _ (by rfl) (by rfl) (by rfl) (by first | (with_reducible exact Mem.ev_const _ _) | (with_reducible exact Mem.ev_zero _ _ _) | (with_reducible (apply Eq.trans (Mem.ev_tmp _ _ _)); simp only [List.getD_cons_succ, List.getD_cons_zero] <;> rfl)) (by first | (with_reducible exact Mem.ev_const _ _) | (with_reducible exact Mem.ev_zero _ _ _) | (with_reducible (apply Eq.trans (Mem.ev_tmp _ _ _)); simp only [List.getD_cons_succ, List.getD_cons_zero] <;> rfl)) ?_) | (refine plan_pick_f _ _ _ _ (by rfl) (by rfl) (by rfl) (by first | (with_reducible exact Mem.ev_const _ _) | (with_reducible exact Mem.ev_zero _ _ _) | (with_reducible (apply Eq.trans (Mem.ev_tmp _ _ _)); simp only [List.getD_cons_succ, List.getD_cons_zero] <;> rfl)) (by first | (with_reducible exact Mem.ev_const _ _) | (with_reducible exact Mem.ev_zero _ _ _) | (with_reducible (apply Eq.trans (Mem.ev_tmp _ _ _)); simp only [List.getD_cons_succ, List.getD_cons_zero] <;> rfl)) ?_))
      (simp only [Act.put, List.setIfInBounds_toArray, List.set_cons_zero, List.set_cons_succ])
      refine plan_call 18 _ _ _ (by kernel_rfl) (by rfl) (by rfl) (by rfl) (by first | exact Mem.ev_none _ | (simp only [List.map_toArray, List.map_cons, List.map_nil, Mem.ev_tmp, List.getD_cons_succ, List.getD_cons_zero] <;> rfl)) ?_
      refine (BL.out k _ _ (S.below _ _ _ _ RW.out D0.out)).mono ?_
      rintro e z3 ⟨rfl, hb3⟩
      have E3 : Hid (Below wr.heap.size wr z3) := Lib.hid (D0.out.trans (hb3.mono D0.out.size))
      have H3 := Lib.hid hb3
      clear hb3
      refine ⟨_, rfl, E3.out, ?_⟩
      (simp only [Act.put, List.setIfInBounds_toArray, List.set_cons_zero, List.set_cons_succ])
      refine plan_call 24 _ _ _ (by kernel_rfl) (by rfl) (by rfl) (by rfl) (by first | exact Mem.ev_none _ | (simp only [List.map_toArray, List.map_cons, List.map_nil, Mem.ev_tmp, List.getD_cons_succ, List.getD_cons_zero] <;> rfl)) ?_
      refine (RBL2.out k _ (RS.below RY.out E3.out)).mono ?_
      rintro e z7 ⟨rfl, hb7⟩
      have E7 : Hid (Below wr.heap.size wr z7) := Lib.hid (E3.out.trans (hb7.mono E3.out.size))
      have H7 := Lib.hid hb7
      clear hb7
      refine ⟨_, rfl, E7.out, ?_⟩
      (simp only [Act.put, List.setIfInBounds_toArray, List.set_cons_zero, List.set_cons_succ])
      refine plan_bin _ _ _ _ _ _ _ (.bool false) (by rfl) (by rfl) (by rfl) (by first | (with_reducible exact Mem.ev_const _ _) | (with_reducible exact Mem.ev_zero _ _ _) | (with_reducible (apply Eq.trans (Mem.ev_tmp _ _ _)); simp only [List.getD_cons_succ, List.getD_cons_zero] <;> rfl)) (by first | (with_reducible exact Mem.ev_const _ _) | (with_reducible exact Mem.ev_zero _ _ _) | (with_reducible (apply Eq.trans (Mem.ev_tmp _ _ _)); simp only [List.getD_cons_succ, List.getD_cons_zero] <;> rfl)) (fun wx => o_ine _ _ _ _ _ wx) ?_
      (simp only [Act.put, List.setIfInBounds_toArray, List.set_cons_zero, List.set_cons_succ])
      refine plan_nil ?_
      go_wp2_with fail
      go_roundw
      case rel => exact ⟨k + 1, by omega, by omega, rfl, BW.out.trans (E7.out.mono BW.out.size)⟩
      case measure => simp [intOf]; omega
    · go_wp2_with fail
      refine wp_region_plan_in (fun x' => Below wr.heap.size wr x') (.take 0 (.take 1 (.take 3 (.take 4 (.sole 2 (.sole 5 (.sole 6 (.take 7 (.take 8 (.take 9 (.take 11 (.take 12 (.sole 10 (.sole 13 (.sole 14 (.take 15 (.take 16 (.take 17 (.take 18 (.take 20 (.take 21 (.sole 19 (.sole 22 (.sole 23 (.take 24 (.take 25 (.sole 26 (.take 27 (.take 28 .done))))))))))))))))))))))))))))) (by kernel_rfl) (by kernel_rfl) (by kernel_rfl) D0.out ?_
      refine plan_row 23 _ g2 _ C 23 (by rfl) (by rfl) (by rfl) (by first | (with_reducible exact Mem.ev_const _ _) | (with_reducible exact Mem.ev_zero _ _ _) | (with_reducible (apply Eq.trans (Mem.ev_tmp _ _ _)); simp only [List.getD_cons_succ, List.getD_cons_zero] <;> rfl)) (fun w' hw' => AW.out.below hw' AW.out.lt) Try.underlying23 (by rfl) (by rw [CS.out]; exact INF.out) ?_
      (simp only [Act.put, List.setIfInBounds_toArray, List.set_cons_zero, List.set_cons_succ])
      (first | (refine plan_move _ _ (by rfl) (by rfl) (.inl (by rfl)) (by first | (with_reducible exact Mem.ev_const _ _) | (with_reducible exact Mem.ev_zero _ _ _) | (with_reducible (apply Eq.trans (Mem.ev_tmp _ _ _)); simp only [List.getD_cons_succ, List.getD_cons_zero] <;> rfl)) ?_) | (refine plan_move _ _ (by rfl) (by rfl) (.inr (by rfl)) (by first | (with_reducible exact Mem.ev_const _ _) | (with_reducible exact Mem.ev_zero _ _ _) | (with_reducible (apply Eq.trans (Mem.ev_tmp _ _ _)); simp only [List.getD_cons_succ, List.getD_cons_zero] <;> rfl)) ?_) | (refine plan_pick_t _ _ _ _ (by rfl) (by rfl) (by rfl) (by first | (with_reducible exact Mem.ev_const _ _) | (with_reducible exact Mem.ev_zero _ _ _) | (with_reducible (apply Eq.trans (Mem.ev_tmp _ _ _)); simp only [List.getD_cons_succ, List.getD_cons_zero] <;> rfl)) (by first | (with_reducible exact Mem.ev_const _ _) | (with_reducible exact Mem.ev_zero _ _ _) | (with_reducible (apply Eq.trans (Mem.ev_tmp _ _ _)); simp only [List.getD_cons_succ, List.getD_cons_zero] <;> rfl)) ?_) | (refine plan_pick_f _ _ _ _ (by rfl) (by rfl) (by rfl) (by first | (with_reducible exact Mem.ev_const _ _) | (with_reducible exact Mem.ev_zero _ _ _) | (with_reducible (apply Eq.trans (Mem.ev_tmp _ _ _)); simp only [List.getD_cons_succ, List.getD_cons_zero] <;> rfl)) (by first | (with_reducible exact Mem.ev_const _ _) | (with_reducible exact Mem.ev_zero _ _ _) | (with_reducible (apply Eq.trans (Mem.ev_tmp _ _ _)); simp only [List.getD_cons_succ, List.getD_cons_zero] <;> rfl)) ?_))
      (simp only [Act.put, List.setIfInBounds_toArray, List.set_cons_zero, List.set_cons_succ])
      refine plan_row 29 _ g4 _ Y 29 (by rfl) (by rfl) (by rfl) (by first | (with_reducible exact Mem.ev_const _ _) | (with_reducible exact Mem.ev_zero _ _ _) | (with_reducible (apply Eq.trans (Mem.ev_tmp _ _ _)); simp only [List.getD_cons_succ, List.getD_cons_zero] <;> rfl)) (fun w' hw' => AY.out.below hw' AY.out.lt) Try.underlying29 (by rfl) (by rw [YS.out]; exact infoRS) ?_
      (simp only [Act.put, List.setIfInBounds_toArray, List.set_cons_zero, List.set_cons_succ])
      (first | (refine plan_move _ _ (by rfl) (by rfl) (.inl (by rfl)) (by first | (with_reducible exact Mem.ev_const _ _) | (with_reducible exact Mem.ev_zero _ _ _) | (with_reducible (apply Eq.trans (Mem.ev_tmp _ _ _)); simp only [List.getD_cons_succ, List.getD_cons_zero] <;> rfl)) ?_) | (refine plan_move _ _ (by rfl) (by rfl) (.inr (by rfl)) (by first | (with_reducible exact Mem.ev_const _ _) | (with_reducible exact Mem.ev_zero _ _ _) | (with_reducible (apply Eq.trans (Mem.ev_tmp _ _ _)); simp only [List.getD_cons_succ, List.getD_cons_zero] <;> rfl)) ?_) | (refine plan_pick_t _ _ _ _ (by rfl) (by rfl) (by rfl) (by first | (with_reducible exact Mem.ev_const _ _) | (with_reducible exact Mem.ev_zero _ _ _) | (with_reducible (apply Eq.trans (Mem.ev_tmp _ _ _)); simp only [List.getD_cons_succ, List.getD_cons_zero] <;> rfl)) (by first | (with_reducible exact Mem.ev_const _ _) | (with_reducible exact Mem.ev_zero _ _ _) | (with_reducible (apply Eq.trans (Mem.ev_tmp _ _ _)); simp only [List.getD_cons_succ, List.getD_cons_zero] <;> rfl)) ?_) | (refine plan_pick_f _ _ _ _ (by rfl) (by rfl) (by rfl) (by first | (with_reducible exact Mem.ev_const _ _) | (with_reducible exact Mem.ev_zero _ _ _) | (with_reducible (apply Eq.trans (Mem.ev_tmp _ _ _)); simp only [List.getD_cons_succ, List.getD_cons_zero] <;> rfl)) (by first | (with_reducible exact Mem.ev_const _ _) | (with_reducible exact Mem.ev_zero _ _ _) | (with_reducible (apply Eq.trans (Mem.ev_tmp _ _ _)); simp only [List.getD_cons_succ, List.getD_cons_zero] <;> rfl)) ?_))
      (simp only [Act.put, List.setIfInBounds_toArray, List.set_cons_zero, List.set_cons_succ])
      refine plan_call 15 _ _ _ (by kernel_rfl) (by rfl) (by rfl) (by rfl) (by first | exact Mem.ev_none _ | (simp only [List.map_toArray, List.map_cons, List.map_nil, Mem.ev_tmp, List.getD_cons_succ, List.getD_cons_zero] <;> rfl)) ?_
      refine (KD.out _ _ (S.below _ _ _ _ RW.out D0.out)).mono ?_
      rintro e z2 ⟨v2, rfl, hs2, hb2⟩
      have E2 : Hid (Below wr.heap.size wr z2) := Lib.hid (D0.out.trans (hb2.mono D0.out.size))
      have H2 := Lib.hid hb2
      clear hb2
      have T2 := Lib.hid hs2
      clear hs2
      refine ⟨_, rfl, E2.out, ?_⟩
      (simp only [Act.put, List.setIfInBounds_toArray, List.set_cons_zero, List.set_cons_succ])
      refine plan_call 26 _ _ _ (by kernel_rfl) (by rfl) (by rfl) (by rfl) (by first | exact Mem.ev_none _ | (simp only [List.map_toArray, List.map_cons, List.map_nil, Mem.ev_tmp, List.getD_cons_succ, List.getD_cons_zero] <;> rfl)) ?_
      refine (RKD2.out _ (RS.below RY.out E2.out)).mono ?_
      rintro e z5 ⟨v5, rfl, hs5, hb5⟩
      have E5 : Hid (Below wr.heap.size wr z5) := Lib.hid (E2.out.trans (hb5.mono E2.out.size))
      have H5 := Lib.hid hb5
      clear hb5
      have T5 := Lib.hid hs5
      clear hs5
      refine ⟨_, rfl, E5.out, ?_⟩
      (simp only [Act.put, List.setIfInBounds_toArray, List.set_cons_zero, List.set_cons_succ])
      refine plan_call 25 _ _ _ (by kernel_rfl) (by rfl) (by rfl) (by rfl) (by first | exact Mem.ev_none _ | (simp only [List.map_toArray, List.map_cons, List.map_nil, Mem.ev_tmp, List.getD_cons_succ, List.getD_cons_zero] <;> rfl)) ?_
      refine (sameS_any lk _ _ _ (T2.out.below H5.out) T5.out KL.out).mono ?_
      rintro e z6 ⟨rfl, hb6⟩
      have E6 : Hid (Below wr.heap.size wr z6) := Lib.hid (E5.out.trans (hb6.mono E5.out.size))
      have H6 := Lib.hid hb6
      clear hb6
      refine ⟨_, rfl, E6.out, ?_⟩
      (simp only [Act.put, List.setIfInBounds_toArray, List.set_cons_zero, List.set_cons_succ])
      (first | (refine plan_move _ _ (by rfl) (by rfl) (.inl (by rfl)) (by first | (with_reducible exact Mem.ev_const _ _) | (with_reducible exact Mem.ev_zero _ _ _) | (with_reducible (apply Eq.trans (Mem.ev_tmp _ _ _)); simp only [List.getD_cons_succ, List.getD_cons_zero] <;> rfl)) ?_) | (refine plan_move _ _ (by rfl) (by rfl) (.inr (by rfl)) (by first | (with_reducible exact Mem.ev_const _ _) | (with_reducible exact Mem.ev_zero _ _ _) | (with_reducible (apply Eq.trans (Mem.ev_tmp _ _ _)); simp only [List.getD_cons_succ, List.getD_cons_zero] <;> rfl)) ?_) | (refine plan_pick_t _ _ _ _ (by rfl) (by rfl) (by rfl) (by first | (with_reducible exact Mem.ev_const _ _) | (with_reducible exact Mem.ev_zero _ _ _) | (with_reducible (apply Eq.trans (Mem.ev_tmp _ _ _)); simp only [List.getD_cons_succ, List.getD_cons_zero] <;> rfl)) (by first | (with_reducible exact Mem.ev_const _ _) | (with_reducible exact Mem.ev_zero _ _ _) | (with_reducible (apply Eq.trans (Mem.ev_tmp _ _ _)); simp only [List.getD_cons_succ, List.getD_cons_zero] <;> rfl)) ?_) | (refine plan_pick_f _ _ _ _ (by rfl) (by rfl) (by rfl) (by first | (with_reducible exact Mem.ev_const _ _) | (with_reducible exact Mem.ev_zero _ _ _) | (with_reducible (apply Eq.trans (Mem.ev_tmp _ _ _)); simp only [List.getD_cons_succ, List.getD_cons_zero] <;> rfl)) (by first | (with_reducible exact Mem.ev_const _ _) | (with_reducible exact Mem.ev_zero _ _ _) | (with_reducible (apply Eq.trans (Mem.ev_tmp _ _ _)); simp only [List.getD_cons_succ, List.getD_cons_zero] <;> rfl)) ?_))
      (simp only [Act.put, List.setIfInBounds_toArray, List.set_cons_zero, List.set_cons_succ])
      refine plan_row 23 _ g2 _ C 23 (by rfl) (by rfl) (by rfl) (by first | (with_reducible exact Mem.ev_const _ _) | (with_reducible exact Mem.ev_zero _ _ _) | (with_reducible (apply Eq.trans (Mem.ev_tmp _ _ _)); simp only [List.getD_cons_succ, List.getD_cons_zero] <;> rfl)) (fun w' hw' => AW.out.below hw' AW.out.lt) Try.underlying23 (by rfl) (by rw [CS.out]; exact INF.out) ?_
      (simp only [Act.put, List.setIfInBounds_toArray, List.set_cons_zero, List.set_cons_succ])
      (first | (refine plan_move _ _ (by rfl) (by rfl) (.inl (by rfl)) (by first | (with_reducible exact Mem.ev_const _ _) | (with_reducible exact Mem.ev_zero _ _ _) | (with_reducible (apply Eq.trans (Mem.ev_tmp _ _ _)); simp only [List.getD_cons_succ, List.getD_cons_zero] <;> rfl)) ?_) | (refine plan_move _ _ (by rfl) (by rfl) (.inr (by rfl)) (by first | (with_reducible exact Mem.ev_const _ _) | (with_reducible exact Mem.ev_zero _ _ _) | (with_reducible (apply Eq.trans (Mem.ev_tmp _ _ _)); simp only [List.getD_cons_succ, List.getD_cons_zero] <;> rfl)) ?_) | (refine plan_pick_t _ _ _ _ (by rfl) (by rfl) (by rfl) (by first | (with_reducible exact Mem.ev_const _ _) | (with_reducible exact Mem.ev_zero _ _ _) | (with_reducible (apply Eq.trans (Mem.ev_tmp _ _ _)); simp only [List.getD_cons_succ, List.getD_cons_zero] <;> rfl)) (by first | (with_reducible exact Mem.ev_const _ _) | (with_reducible exact Mem.ev_zero _ _ _) | (with_reducible (apply Eq.trans (Mem.ev_tmp _ _ _)); simp only [List.getD_cons_succ, List.getD_cons_zero] <;> rfl)) ?_) | (refine plan_pick_f _ _ _ _ (by rfl) (by rfl) (by rfl) (by first | (with_reducible exact Mem.ev_const _ _) | (with_reducible exact Mem.ev_zero _ _ _) | (with_reducible (apply Eq.trans (Mem.ev_tmp _ _ _)); simp only [List.getD_cons_succ, List.getD_cons_zero] <;> rfl)) (by first | (with_reducible exact Mem.ev_const _ _) | (with_reducible exact Mem.ev_zero _ _ _) | (with_reducible (apply Eq.trans (Mem.ev_tmp _ _ _)); simp only [List.getD_cons_succ, List.getD_cons_zero] <;> rfl)) ?_))
      (simp only [Act.put, List.setIfInBounds_toArray, List.set_cons_zero, List.set_cons_succ])
      refine plan_row 29 _ g4 _ Y 29 (by rfl) (by rfl) (by rfl) (by first | (with_reducible exact Mem.ev_const _ _) | (with_reducible exact Mem.ev_zero _ _ _) | (with_reducible (apply Eq.trans (Mem.ev_tmp _ _ _)); simp only [List.getD_cons_succ, List.getD_cons_zero] <;> rfl)) (fun w' hw' => AY.out.below hw' AY.out.lt) Try.underlying29 (by rfl) (by rw [YS.out]; exact infoRS) ?_
      (simp only [Act.put, List.setIfInBounds_toArray, List.set_cons_zero, List.set_cons_succ])
      (first | (refine plan_move _ _ (by rfl) (by rfl) (.inl (by rfl)) (by first | (with_reducible exact Mem.ev_const _ _) | (with_reducible exact Mem.ev_zero _ _ _) | (with_reducible (apply Eq.trans (Mem.ev_tmp _ _ _)); simp only [List.getD_cons_succ, List.getD_cons_zero] <;> rfl)) ?_) | (refine plan_move _ _ (by rfl) (by rfl) (.inr (by rfl)) (by first | (with_reducible exact Mem.ev_const _ _) | (with_reducible exact Mem.ev_zero _ _ _) | (with_reducible (apply Eq.trans (Mem.ev_tmp _ _ _)); simp only [List.getD_cons_succ, List.getD_cons_zero] <;> rfl)) ?_) | (refine plan_pick_t _ _ _ _ (by rfl) (by rfl) (by rfl) (by first | (with_reducible exact Mem.ev_const _ _) | (with_reducible exact Mem.ev_zero _ _ _) | (with_reducible (apply Eq.trans (Mem.ev_tmp _ _ _)); simp only [List.getD_cons_succ, List.getD_cons_zero] <;> rfl)) (by first | (with_reducible exact Mem.ev_const _ _) | (with_reducible exact Mem.ev_zero _ _ _) | (with_reducible (apply Eq.trans (Mem.ev_tmp _ _ _)); simp only [List.getD_cons_succ, List.getD_cons_zero] <;> rfl)) ?_) | (refine plan_pick_f _ _ _ _ (by rfl) (by rfl) (by rfl) (by first | (with_reducible exact Mem.ev_const _ _) | (with_reducible exact Mem.ev_zero _ _ _) | (with_reducible (apply Eq.trans (Mem.ev_tmp _ _ _)); simp only [List.getD_cons_succ, List.getD_cons_zero] <;> rfl)) (by first | (with_reducible exact Mem.ev_const _ _) | (with_reducible exact Mem.ev_zero _ _ _) | (with_reducible (apply Eq.trans (Mem.ev_tmp _ _ _)); simp only [List.getD_cons_succ, List.getD_cons_zero] <;> rfl)) ?_))
      (simp only [Act.put, List.setIfInBounds_toArray, List.set_cons_zero, List.set_cons_succ])
      refine plan_call 16 _ _ _ (by kernel_rfl) (by rfl) (by rfl) (by rfl) (by first | exact Mem.ev_none _ | (simp only [List.map_toArray, List.map_cons, List.map_nil, Mem.ev_tmp, List.getD_cons_succ, List.getD_cons_zero] <;> rfl)) ?_
      refine (PT.out _ _ (S.below _ _ _ _ RW.out E6.out)).mono ?_
      rintro e z10 ⟨v10, rfl, hs10, hb10⟩
      have E10 : Hid (Below wr.heap.size wr z10) := Lib.hid (E6.out.trans (hb10.mono E6.out.size))
      have H10 := Lib.hid hb10
      clear hb10
      have T10 := Lib.hid hs10
      clear hs10
      refine ⟨_, rfl, E10.out, ?_⟩
      (simp only [Act.put, List.setIfInBounds_toArray, List.set_cons_zero, List.set_cons_succ])
      refine plan_call 27 _ _ _ (by kernel_rfl) (by rfl) (by rfl) (by rfl) (by first | exact Mem.ev_none _ | (simp only [List.map_toArray, List.map_cons, List.map_nil, Mem.ev_tmp, List.getD_cons_succ, List.getD_cons_zero] <;> rfl)) ?_
      refine (RPT2.out _ (RS.below RY.out E10.out)).mono ?_
      rintro e z13 ⟨v13, rfl, hs13, hb13⟩
      have E13 : Hid (Below wr.heap.size wr z13) := Lib.hid (E10.out.trans (hb13.mono E10.out.size))
      have H13 := Lib.hid hb13
      clear hb13
      have T13 := Lib.hid hs13
      clear hs13
      refine ⟨_, rfl, E13.out, ?_⟩
      (simp only [Act.put, List.setIfInBounds_toArray, List.set_cons_zero, List.set_cons_succ])
      refine plan_call 25 _ _ _ (by kernel_rfl) (by rfl) (by rfl) (by rfl) (by first | exact Mem.ev_none _ | (simp only [List.map_toArray, List.map_cons, List.map_nil, Mem.ev_tmp, List.getD_cons_succ, List.getD_cons_zero] <;> rfl)) ?_
      refine (sameS_any lw _ _ _ (T10.out.below H13.out) T13.out WL.out).mono ?_
      rintro e z14 ⟨rfl, hb14⟩
      have E14 : Hid (Below wr.heap.size wr z14) := Lib.hid (E13.out.trans (hb14.mono E13.out.size))
      have H14 := Lib.hid hb14
      clear hb14
      refine ⟨_, rfl, E14.out, ?_⟩
      (simp only [Act.put, List.setIfInBounds_toArray, List.set_cons_zero, List.set_cons_succ])
      refine plan_pick_t _ _ _ _ (by rfl) (by rfl) (by rfl) (by first | (with_reducible exact Mem.ev_const _ _) | (with_reducible exact Mem.ev_zero _ _ _) | (with_reducible (apply Eq.trans (Mem.ev_tmp _ _ _)); simp only [List.getD_cons_succ, List.getD_cons_zero] <;> rfl)) (by first | (with_reducible exact Mem.ev_const _ _) | (with_reducible exact Mem.ev_zero _ _ _) | (with_reducible (apply Eq.trans (Mem.ev_tmp _ _ _)); simp only [List.getD_cons_succ, List.getD_cons_zero] <;> rfl)) ?_
      (simp only [Act.put, List.setIfInBounds_toArray, List.set_cons_zero, List.set_cons_succ])
      (first | (refine plan_move _ _ (by rfl) (by rfl) (.inl (by rfl)) (by first | (with_reducible exact Mem.ev_const _ _) | (with_reducible exact Mem.ev_zero _ _ _) | (with_reducible (apply Eq.trans (Mem.ev_tmp _ _ _)); simp only [List.getD_cons_succ, List.getD_cons_zero] <;> rfl)) ?_) | (refine plan_move _ _ (by rfl) (by rfl) (.inr (by rfl)) (by first | (with_reducible exact Mem.ev_const _ _) | (with_reducible exact Mem.ev_zero _ _ _) | (with_reducible (apply Eq.trans (Mem.ev_tmp _ _ _)); simp only [List.getD_cons_succ, List.getD_cons_zero] <;> rfl)) ?_) | (refine plan_pick_t _ _ _ _ (by rfl) (by rfl) (by rfl) (by first | (with_reducible exact Mem.ev_const _ _) | (with_reducible exact Mem.ev_zero _ _ _) | (with_reducible (apply Eq.trans (Mem.ev_tmp _ _ _)); simp only [List.getD_cons_succ, List.getD_cons_zero] <;> rfl)) (by first | (with_reducible exact Mem.ev_const _ _) | (with_reducible exact Mem.ev_zero _ _ _) | (with_reducible (apply Eq.trans (Mem.ev_tmp _ _ _)); simp only [List.getD_cons_succ, List.getD_cons_zero] <;> rfl)) ?_) | (refine plan_pick_f _ _ _ _ (by rfl) (by rfl) (by rfl) (by first | (with_reducible exact Mem.ev_const _ _) | (with_reducible exact Mem.ev_zero _ _ _) | (with_reducible (apply Eq.trans (Mem.ev_tmp _ _ _)); simp only [List.getD_cons_succ, List.getD_cons_zero] <;> rfl)) (by first | (with_reducible exact Mem.ev_const _ _) | (with_reducible exact Mem.ev_zero _ _ _) | (with_reducible (apply Eq.trans (Mem.ev_tmp _ _ _)); simp only [List.getD_cons_succ, List.getD_cons_zero] <;> rfl)) ?_))
      (simp only [Act.put, List.setIfInBounds_toArray, List.set_cons_zero, List.set_cons_succ])
      refine plan_row 23 _ g2 _ C 23 (by rfl) (by rfl) (by rfl) (by first | (with_reducible exact Mem.ev_const _ _) | (with_reducible exact Mem.ev_zero _ _ _) | (with_reducible (apply Eq.trans (Mem.ev_tmp _ _ _)); simp only [List.getD_cons_succ, List.getD_cons_zero] <;> rfl)) (fun w' hw' => AW.out.below hw' AW.out.lt) Try.underlying23 (by rfl) (by rw [CS.out]; exact INF.out) ?_
      (simp only [Act.put, List.setIfInBounds_toArray, List.set_cons_zero, List.set_cons_succ])
      (first | (refine plan_move _ _ (by rfl) (by rfl) (.inl (by rfl)) (by first | (with_reducible exact Mem.ev_const _ _) | (with_reducible exact Mem.ev_zero _ _ _) | (with_reducible (apply Eq.trans (Mem.ev_tmp _ _ _)); simp only [List.getD_cons_succ, List.getD_cons_zero] <;> rfl)) ?_) | (refine plan_move _ _ (by rfl) (by rfl) (.inr (by rfl)) (by first | (with_reducible exact Mem.ev_const _ _) | (with_reducible exact Mem.ev_zero _ _ _) | (with_reducible (apply Eq.trans (Mem.ev_tmp _ _ _)); simp only [List.getD_cons_succ, List.getD_cons_zero] <;> rfl)) ?_) | (refine plan_pick_t _ _ _ _ (by rfl) (by rfl) (by rfl) (by first | (with_reducible exact Mem.ev_const _ _) | (with_reducible exact Mem.ev_zero _ _ _) | (with_reducible (apply Eq.trans (Mem.ev_tmp _ _ _)); simp only [List.getD_cons_succ, List.getD_cons_zero] <;> rfl)) (by first | (with_reducible exact Mem.ev_const _ _) | (with_reducible exact Mem.ev_zero _ _ _) | (with_reducible (apply Eq.trans (Mem.ev_tmp _ _ _)); simp only [List.getD_cons_succ, List.getD_cons_zero] <;> rfl)) ?_) | (refine plan_pick_f _ _ _ _ (by rfl) (by rfl) (by rfl) (by first | (with_reducible exact Mem.ev_const _ _) | (with_reducible exact Mem.ev_zero _ _ _) | (with_reducible (apply Eq.trans (Mem.ev_tmp _ _ _)); simp only [List.getD_cons_succ, List.getD_cons_zero] <;> rfl)) (by first | (with_reducible exact Mem.ev_const _ _) | (with_reducible exact Mem.ev_zero _ _ _) | (with_reducible (apply Eq.trans (Mem.ev_tmp _ _ _)); simp only [List.getD_cons_succ, List.getD_cons_zero] <;> rfl)) ?_))
      (simp only [Act.put, List.setIfInBounds_toArray, List.set_cons_zero, List.set_cons_succ])
      refine plan_row 29 _ g4 _ Y 29 (by rfl) (by rfl) (by rfl) (by first | (with_reducible exact Mem.ev_const _ _) | (with_reducible exact Mem.ev_zero _ _ _) | (with_reducible (apply Eq.trans (Mem.ev_tmp _ _ _)); simp only [List.getD_cons_succ, List.getD_cons_zero] <;> rfl)) (fun w' hw' => AY.out.below hw' AY.out.lt) Try.underlying29 (by rfl) (by rw [YS.out]; exact infoRS) ?_
      (simp only [Act.put, List.setIfInBounds_toArray, List.set_cons_zero, List.set_cons_succ])
      (first | (refine plan_move _ _ (by rfl) (by rfl) (.inl (by rfl)) (by first | (with_reducible exact Mem.ev_const _ _) | (with_reducible exact Mem.ev_zero _ _ _) | (with_reducible (apply Eq.trans (Mem.ev_tmp _ _ _)); simp only [List.getD_cons_succ, List.getD_cons_zero] <;> rfl)) ?_) | (refine plan_move _ _ (by rfl) (by rfl) (.inr (by rfl)) (by first | (with_reducible exact Mem.ev_const _ _) | (with_reducible exact Mem.ev_zero _ _ _) | (with_reducible (apply Eq.trans (Mem.ev_tmp _ _ _)); simp only [List.getD_cons_succ, List.getD_cons_zero] <;> rfl)) ?_) | (refine plan_pick_t _ _ _ _ (by rfl) (by rfl) (by rfl) (by first | (with_reducible exact Mem.ev_const _ _) | (with_reducible exact Mem.ev_zero _ _ _) | (with_reducible (apply Eq.trans (Mem.ev_tmp _ _ _)); simp only [List.getD_cons_succ, List.getD_cons_zero] <;> rfl)) (by first | (with_reducible exact Mem.ev_const _ _) | (with_reducible exact Mem.ev_zero _ _ _) | (with_reducible (apply Eq.trans (Mem.ev_tmp _ _ _)); simp only [List.getD_cons_succ, List.getD_cons_zero] <;> rfl)) ?_) | (refine plan_pick_f _ _ _ _ (by rfl) (by rfl) (by rfl) (by first | (with_reducible exact Mem.ev_const _ _) | (with_reducible exact Mem.ev_zero _ _ _) | (with_reducible (apply Eq.trans (Mem.ev_tmp _ _ _)); simp only [List.getD_cons_succ, List.getD_cons_zero] <;> rfl)) (by first | (with_reducible exact Mem.ev_const _ _) | (with_reducible exact Mem.ev_zero _ _ _) | (with_reducible (apply Eq.trans (Mem.ev_tmp _ _ _)); simp only [List.getD_cons_succ, List.getD_cons_zero] <;> rfl)) ?_))
      (simp only [Act.put, List.setIfInBounds_toArray, List.set_cons_zero, List.set_cons_succ])
      refine plan_call 17 _ _ _ (by kernel_rfl) (by rfl) (by rfl) (by rfl) (by first | exact Mem.ev_none _ | (simp only [List.map_toArray, List.map_cons, List.map_nil, Mem.ev_tmp, List.getD_cons_succ, List.getD_cons_zero] <;> rfl)) ?_
      refine (UN.out _ _ (S.below _ _ _ _ RW.out E14.out)).mono ?_
      rintro e z19 ⟨v19, rfl, hs19, hb19⟩
      have E19 : Hid (Below wr.heap.size wr z19) := Lib.hid (E14.out.trans (hb19.mono E14.out.size))
      have H19 := Lib.hid hb19
      clear hb19
      have T19 := Lib.hid hs19
      clear hs19
      refine ⟨_, rfl, E19.out, ?_⟩
      (simp only [Act.put, List.setIfInBounds_toArray, List.set_cons_zero, List.set_cons_succ])
      refine plan_call 28 _ _ _ (by kernel_rfl) (by rfl) (by rfl) (by rfl) (by first | exact Mem.ev_none _ | (simp only [List.map_toArray, List.map_cons, List.map_nil, Mem.ev_tmp, List.getD_cons_succ, List.getD_cons_zero] <;> rfl)) ?_
      refine (RUN2.out _ (RS.below RY.out E19.out)).mono ?_
      rintro e z22 ⟨v22, rfl, hs22, hb22⟩
      have E22 : Hid (Below wr.heap.size wr z22) := Lib.hid (E19.out.trans (hb22.mono E19.out.size))
      have H22 := Lib.hid hb22
      clear hb22
      have T22 := Lib.hid hs22
      clear hs22
      refine ⟨_, rfl, E22.out, ?_⟩
      (simp only [Act.put, List.setIfInBounds_toArray, List.set_cons_zero, List.set_cons_succ])
      refine plan_call 25 _ _ _ (by kernel_rfl) (by rfl) (by rfl) (by rfl) (by first | exact Mem.ev_none _ | (simp only [List.map_toArray, List.map_cons, List.map_nil, Mem.ev_tmp, List.getD_cons_succ, List.getD_cons_zero] <;> rfl)) ?_
      refine (sameS_any lu _ _ _ (T19.out.below H22.out) T22.out UL.out).mono ?_
      rintro e z23 ⟨rfl, hb23⟩
      have E23 : Hid (Below wr.heap.size wr z23) := Lib.hid (E22.out.trans (hb23.mono E22.out.size))
      have H23 := Lib.hid hb23
      clear hb23
      refine ⟨_, rfl, E23.out, ?_⟩
      (simp only [Act.put, List.setIfInBounds_toArray, List.set_cons_zero, List.set_cons_succ])
      refine plan_pick_t _ _ _ _ (by rfl) (by rfl) (by rfl) (by first | (with_reducible exact Mem.ev_const _ _) | (with_reducible exact Mem.ev_zero _ _ _) | (with_reducible (apply Eq.trans (Mem.ev_tmp _ _ _)); simp only [List.getD_cons_succ, List.getD_cons_zero] <;> rfl)) (by first | (with_reducible exact Mem.ev_const _ _) | (with_reducible exact Mem.ev_zero _ _ _) | (with_reducible (apply Eq.trans (Mem.ev_tmp _ _ _)); simp only [List.getD_cons_succ, List.getD_cons_zero] <;> rfl)) ?_
      (simp only [Act.put, List.setIfInBounds_toArray, List.set_cons_zero, List.set_cons_succ])
      (first | (refine plan_move _ _ (by rfl) (by rfl) (.inl (by rfl)) (by first | (with_reducible exact Mem.ev_const _ _) | (with_reducible exact Mem.ev_zero _ _ _) | (with_reducible (apply Eq.trans (Mem.ev_tmp _ _ _)); simp only [List.getD_cons_succ, List.getD_cons_zero] <;> rfl)) ?_) | (refine plan_move _ _ (by rfl) (by rfl) (.inr (by rfl)) (by first | (with_reducible exact Mem.ev_const _ _) | (with_reducible exact Mem.ev_zero _ _ _) | (with_reducible (apply Eq.trans (Mem.ev_tmp _ _ _)); simp only [List.getD_cons_succ, List.getD_cons_zero] <;> rfl)) ?_) | (refine plan_pick_t _ _ _ _ (by rfl) (by rfl) (by rfl) (by first | (with_reducible exact Mem.ev_const _ _) | (with_reducible exact Mem.ev_zero _ _ _) | (with_reducible (apply Eq.trans (Mem.ev_tmp _ _ _)); simp only [List.getD_cons_succ, List.getD_cons_zero] <;> rfl)) (by first | (with_reducible exact Mem.ev_const _ _) | (with_reducible exact Mem.ev_zero _ _ _) | (with_reducible (apply Eq.trans (Mem.ev_tmp _ _ _)); simp only [List.getD_cons_succ, List.getD_cons_zero] <;> rfl)) ?_) | (refine plan_pick_f _ _ _ _ (by rfl) (by rfl) (by rfl) (by first | (with_reducible exact Mem.ev_const _ _) | (with_reducible exact Mem.ev_zero _ _ _) | (with_reducible (apply Eq.trans (Mem.ev_tmp _ _ _)); simp only [List.getD_cons_succ, List.getD_cons_zero] <;> rfl)) (by first | (with_reducible exact Mem.ev_const _ _) | (with_reducible exact Mem.ev_zero _ _ _) | (with_reducible (apply Eq.trans (Mem.ev_tmp _ _ _)); simp only [List.getD_cons_succ, List.getD_cons_zero] <;> rfl)) ?_))
      (simp only [Act.put, List.setIfInBounds_toArray, List.set_cons_zero, List.set_cons_succ])
      refine plan_call 19 _ _ _ (by kernel_rfl) (by rfl) (by rfl) (by rfl) (by first | exact Mem.ev_none _ | (simp only [List.map_toArray, List.map_cons, List.map_nil, Mem.ev_tmp, List.getD_cons_succ, List.getD_cons_zero] <;> rfl)) ?_
      refine (AL.out _).mono ?_
      rintro e z26 ⟨rfl, hb26⟩
      have E26 : Hid (Below wr.heap.size wr z26) := Lib.hid (E23.out.trans (hb26.mono E23.out.size))
      have H26 := Lib.hid hb26
      clear hb26
      refine ⟨_, rfl, E26.out, ?_⟩
      (simp only [Act.put, List.setIfInBounds_toArray, List.set_cons_zero, List.set_cons_succ])
      refine plan_pick_t _ _ _ _ (by rfl) (by rfl) (by rfl) (by first | (with_reducible exact Mem.ev_const _ _) | (with_reducible exact Mem.ev_zero _ _ _) | (with_reducible (apply Eq.trans (Mem.ev_tmp _ _ _)); simp only [List.getD_cons_succ, List.getD_cons_zero] <;> rfl)) (by first | (with_reducible exact Mem.ev_const _ _) | (with_reducible exact Mem.ev_zero _ _ _) | (with_reducible (apply Eq.trans (Mem.ev_tmp _ _ _)); simp only [List.getD_cons_succ, List.getD_cons_zero] <;> rfl)) ?_
      (simp only [Act.put, List.setIfInBounds_toArray, List.set_cons_zero, List.set_cons_succ])
      (first | (refine plan_move _ _ (by rfl) (by rfl) (.inl (by rfl)) (by first | (with_reducible exact Mem.ev_const _ _) | (with_reducible exact Mem.ev_zero _ _ _) | (with_reducible (apply Eq.trans (Mem.ev_tmp _ _ _)); simp only [List.getD_cons_succ, List.getD_cons_zero] <;> rfl)) ?_) | (refine plan_move _ _ (by rfl) (by rfl) (.inr (by rfl)) (by first | (with_reducible exact Mem.ev_const _ _) | (with_reducible exact Mem.ev_zero _ _ _) | (with_reducible (apply Eq.trans (Mem.ev_tmp _ _ _)); simp only [List.getD_cons_succ, List.getD_cons_zero] <;> rfl)) ?_) | (refine plan_pick_t _ _ _ _ (by rfl) (by rfl) (by rfl) (by first | (with_reducible exact Mem.ev_const _ _) | (with_reducible exact Mem.ev_zero _ _ _) | (with_reducible (apply Eq.trans (Mem.ev_tmp _ _ _)); simp only [List.getD_cons_succ, List.getD_cons_zero] <;> rfl)) (by first | (with_reducible exact Mem.ev_const _ _) | (with_reducible exact Mem.ev_zero _ _ _) | (with_reducible (apply Eq.trans (Mem.ev_tmp _ _ _)); simp only [List.getD_cons_succ, List.getD_cons_zero] <;> rfl)) ?_) | (refine plan_pick_f _ _ _ _ (by rfl) (by rfl) (by rfl) (by first | (with_reducible exact Mem.ev_const _ _) | (with_reducible exact Mem.ev_zero _ _ _) | (with_reducible (apply Eq.trans (Mem.ev_tmp _ _ _)); simp only [List.getD_cons_succ, List.getD_cons_zero] <;> rfl)) (by first | (with_reducible exact Mem.ev_const _ _) | (with_reducible exact Mem.ev_zero _ _ _) | (with_reducible (apply Eq.trans (Mem.ev_tmp _ _ _)); simp only [List.getD_cons_succ, List.getD_cons_zero] <;> rfl)) ?_))
      (simp only [Act.put, List.setIfInBounds_toArray, List.set_cons_zero, List.set_cons_succ])
      refine plan_nil ?_
      go_wp2_with fail
      go_ret
      exact ⟨rfl, G10.out.trans ((BW.out.trans (E26.out.mono BW.out.size)).mono G10.out.size)⟩
set_option maxHeartbeats 16000000 in
theorem items12_out (S : ShP) (p : Nat) (x : Int) (y : Int) (w : World) (h0 : 1 ≤ p) (h1 : p ≤ 60) (hx : ¬ (0 ≤ x ∧ x < (itn p : Int))) : Calls Try.prog 4 #[.int .i64 p, .int .i64 x, .int .i64 y] w fun e w' => e = .returned (.bool true) ∧ Below w.heap.size w w' := by
  have hw : p ≤ 216 := by omega
  have al := fun wx => alive12_any S wx
  have nw := S.good p w h0 hw
  have nr := fun wx => rnew_any p wx h0 hw
  have z0 := S.zero; have zs := S.zsize
  obtain ⟨Z, hZ⟩ : ∃ Z, Z = S.Z := ⟨_, rfl⟩
  rw [← hZ] at z0 zs
  obtain ⟨O, hO⟩ : ∃ Z, Z = rsC 0 (.slice none 0 0) (.slice none 0 0) := ⟨_, rfl⟩
  have os : O.size = 3 := by rw [hO]; rfl
  have yx : ∀ w, (zeroValue 29).run Try.prog w = .ok (.agg O) w := by rw [hO]; exact zeroShR
  have HX := Lib.hid z0; have ZS := Lib.hid zs; have YX := Lib.hid yx; have OS := Lib.hid os; have INF := Lib.hid S.info
  have AL := Lib.hid al; have NW := Lib.hid nw; have NR := Lib.hid nr
  have G0 := Lib.hid (Below.refl w.heap.size w)
  have hp : ¬ (60 : Int) < (p : Int) := by omega
  have hlv : lvlP p x = -1 := if_neg hx
  have lv := fun wx C h => S.level wx C p x hw h
  rw [hlv] at lv
  have pr := fun wx C h => S.parent wx C p x hw h
  have rpr := fun vL vF wx h => rparent_any p vL vF x wx h h0 hw
  have it := fun wx C h => S.item wx C p y hw h
  have hb9 := (itn_big p h0 hw).2
  have rit := fun vL vF wx h => ritem_any p vL vF y wx h hb9
  obtain ⟨⟨pa, pb, pc⟩, hP⟩ : ∃ q, q = PZ p x := ⟨_, rfl⟩
  obtain ⟨⟨ia, ib, ic⟩, hI⟩ : ∃ q, q = IZ p y := ⟨_, rfl⟩
  rw [← hP] at pr rpr
  rw [← hI] at it rit
  have pr2 : ∀ wx C, S.R wx C p → Calls Try.prog 20 #[.agg C, .int .i64 x] wx fun e w' => e = .returned (.tuple #[.int .i64 pa, .int .i64 pb, .bool pc]) ∧ Below wx.heap.size wx w' := pr
  have rpr2 : ∀ vL vF wx, RS wx p vL vF → Calls Try.prog 21 #[.agg (rsC p vL vF), .int .i64 x] wx fun e w' => e = .returned (.tuple #[.int .i64 pa, .int .i64 pb, .bool pc]) ∧ Below wx.heap.size wx w' := rpr
  have it2 : ∀ wx C, S.R wx C p → Calls Try.prog 22 #[.agg C, .int .i64 y] wx fun e w' => e = .returned (.tuple #[.int .i64 ia, .int .i64 ib, .bool ic]) ∧ Below wx.heap.size wx w' := it
  have rit2 : ∀ vL vF wx, RS wx p vL vF → Calls Try.prog 23 #[.agg (rsC p vL vF), .int .i64 y] wx fun e w' => e = .returned (.tuple #[.int .i64 ia, .int .i64 ib, .bool ic]) ∧ Below wx.heap.size wx w' := rit
  have bl := fun k wx C h => S.block wx C p x k hw h
  have rbl := fun k vL vF wx h => rblock_any p vL vF x k wx h hb9
  have kd := fun wx C h => S.kids wx C p x hw h
  have pt := fun wx C h => S.path wx C p x hw h
  have un := fun wx C h => S.under wx C p x hw h
  have rkd := fun vL vF wx h => rkids_any p vL vF x wx h h0 hw
  have rpt := fun vL vF wx h => (rpath_any p vL vF x wx h h0 hw).mono fun e w' h => h.I
  have run := fun vL vF wx h => (runder_any p vL vF x wx h h0 hw).mono fun e w' h => h.I
  have kl := KZ_len p x
  have wl := WZ_len p x
  have ul := UZ_lenp p x hw
  obtain ⟨lk, hlk⟩ : ∃ l, l = KZ p x := ⟨_, rfl⟩
  obtain ⟨lw, hlw⟩ : ∃ l, l = WZ p x := ⟨_, rfl⟩
  obtain ⟨lu, hlu⟩ : ∃ l, l = UZ p x p := ⟨_, rfl⟩
  rw [← hlk] at kd rkd kl
  rw [← hlw] at pt rpt wl
  rw [← hlu] at un run ul
  obtain ⟨m, hm⟩ : ∃ m, m = itn p := ⟨_, rfl⟩
  have hzl : (zL p).length = m := by rw [zL_length, hm]
  rw [← hm] at hx hb9
  have LV := Lib.hid lv; have PR := Lib.hid pr2; have RPR := Lib.hid rpr2; have IT := Lib.hid it2; have RIT := Lib.hid rit2; have BL := Lib.hid bl; have RBL := Lib.hid rbl; have KD := Lib.hid kd; have PT := Lib.hid pt; have UN := Lib.hid un; have RKD := Lib.hid rkd; have RPT := Lib.hid rpt; have RUN := Lib.hid run; have KL := Lib.hid kl; have WL := Lib.hid wl; have UL := Lib.hid ul; have ZL := Lib.hid hzl
  clear lv pr2 rpr2 it2 rit2 bl rbl kd pt un rkd rpt run kl wl ul hzl pr rpr it rit hlv al nw nr z0 zs hZ hO os yx h0 h1 hw hP hI hlk hlw hlu hm
  go_enter Try.func4, Try.ntmps4
  go_wp2_with fail
  refine (NW.out).mono ?_
  rintro e x1 ⟨C, rfl, hr, hb⟩
  have G1 : Hid (Below w.heap.size w x1) := Lib.hid (G0.out.trans (hb.mono G0.out.size))
  have RR := Lib.hid hr; have CS := Lib.hid (S.size _ _ _ hr); have CO := Lib.hid (S.one _ _ _ hr)
  clear hr
  clear hb
  clear G0
  have RR_2 := Lib.hid (S.below _ _ _ _ RR.out ((Below.refl _ _).alloc (Nat.le_refl _) (.cells C 23)))
  have G2 : Hid (Below w.heap.size w (x1.alloc (.cells C 23))) := Lib.hid (G1.out.alloc G1.out.size _)
  have K1 := Lib.hid (at_new x1 C 23)
  have hz := HX.out
  go_upto_region 2 with (refine wpList_store_new (by rfl) 23 _ _ (by rfl) (by rfl) C _ _ (by rfl) (by rfl) (by rw [CS.out]; exact INF.out) (by first | rfl | rw [CS.out, ZS.out]) CO.out ?_)
  clear hz
  obtain ⟨g2, hg⟩ : ∃ g, g = x1.heap.size := ⟨_, rfl⟩
  rw [← hg] at K1 ⊢
  clear hg
  generalize (x1.alloc (.cells C 23)) = y2 at *
  clear RR G1
  go_wp2_with (first
    | (refine wpList_load_wanted (by rfl) 23 _ (by rfl) g2 (by rfl) _ Try.underlying23 (by rfl) C _ K1.out (by rw [CS.out]; exact INF.out) ?_))
  refine (NR.out _).mono ?_
  rintro e x3 ⟨vL, vF, rfl, hrs, hb⟩
  have G3 : Hid (Below w.heap.size w x3) := Lib.hid (G2.out.trans (hb.mono G2.out.size))
  have K1_3 := Lib.hid (K1.out.below hb K1.out.lt)
  have RR_3 := Lib.hid (S.below _ _ _ _ RR_2.out hb)
  have hone := hrs.one
  obtain ⟨aL, cL, rfl⟩ := hrs.l.hdn ZL.out
  have RPR2 := Lib.hid (RPR.out (.slice aL m cL) vF)
  have RIT2 := Lib.hid (RIT.out (.slice aL m cL) vF)
  have RKD2 := Lib.hid (RKD.out (.slice aL m cL) vF)
  have RPT2 := Lib.hid (RPT.out (.slice aL m cL) vF)
  have RUN2 := Lib.hid (RUN.out (.slice aL m cL) vF)
  have RBL2 := Lib.hid (fun k => RBL.out k (.slice aL m cL) vF)
  clear RPR RIT RKD RPT RUN RBL
  have RA := Lib.hid hrs
  obtain ⟨Y, hY⟩ : ∃ Y, Y = rsC p (.slice aL m cL) vF := ⟨_, rfl⟩
  have y1 : Y[1]? = some (.slice aL m cL) := by rw [hY]; rfl
  have ys : Y.size = 3 := by rw [hY]; rfl
  rw [← hY] at hone RPR2 RIT2 RKD2 RPT2 RUN2 RBL2 ⊢
  have YS := Lib.hid ys; have YO := Lib.hid hone; have Y1 := Lib.hid y1
  clear ys hone y1 hY hrs
  clear hb
  clear K1 RR_2 G2
  have RR_4 := Lib.hid (S.below _ _ _ _ RR_3.out ((Below.refl _ _).alloc (Nat.le_refl _) (.cells Y 29)))
  have RA_4 := Lib.hid (RS.below RA.out ((Below.refl _ _).alloc (Nat.le_refl _) (.cells Y 29)))
  have G4 : Hid (Below w.heap.size w (x3.alloc (.cells Y 29))) := Lib.hid (G3.out.alloc G3.out.size _)
  have K1_4 := Lib.hid (K1_3.out.alloc (.cells Y 29))
  have K2 := Lib.hid (at_new x3 Y 29)
  have hz := YX.out
  go_upto_region 6 with (refine wpList_store_new (by rfl) 29 _ _ (by rfl) (by rfl) Y _ _ (by rfl) (by rfl) (by rw [YS.out]; exact infoRS) (by first | rfl | rw [YS.out, OS.out]) YO.out ?_)
  clear hz
  obtain ⟨g4, hg⟩ : ∃ g, g = x3.heap.size := ⟨_, rfl⟩
  rw [← hg] at K2 ⊢
  clear hg
  generalize (x3.alloc (.cells Y 29)) = y4 at *
  clear RR_3 RA K1_3 G3
  go_cut [59] (fun v wx => v = .bool false ∧ wx = y4)
  case first =>
    have cf5 : y4.cell? ⟨g4, 1, none⟩ = some (.slice aL m cL) := (K2.out.cell 1).trans Y1.out
    by_cases hx0 : 0 ≤ x
    · have hx1 : ¬ x < (m : Int) := fun h => hx ⟨hx0, h⟩
      clear hx
      go_wp2_with fail
      go_meet
      exact ⟨rfl, rfl⟩
    · clear hx
      go_wp2_with fail
      go_meet
      exact ⟨rfl, rfl⟩
  obtain ⟨rfl, rfl⟩ := hcut
  clear hx
  go_wp2_with (first
    | (refine wpList_load_wanted (by rfl) 23 _ (by rfl) g2 (by rfl) _ Try.underlying23 (by rfl) C _ K1_4.out (by rw [CS.out]; exact INF.out) ?_)
    | (refine wpList_load_wanted (by rfl) 29 _ (by rfl) g4 (by rfl) _ Try.underlying29 (by rfl) Y _ K2.out (by rw [YS.out]; exact infoRS) ?_))
  refine (PR.out _ _ RR_4.out).mono ?_
  rintro e x6 ⟨rfl, hb⟩
  have G6 : Hid (Below w.heap.size w x6) := Lib.hid (G4.out.trans (hb.mono G4.out.size))
  have K1_6 := Lib.hid (K1_4.out.below hb K1_4.out.lt)
  have K2_6 := Lib.hid (K2.out.below hb K2.out.lt)
  have RR_6 := Lib.hid (S.below _ _ _ _ RR_4.out hb)
  have RA_6 := Lib.hid (RS.below RA_4.out hb)
  clear hb
  clear K1_4 K2 RR_4 RA_4 G4
  go_wp2_with (first
    | (refine wpList_load_wanted (by rfl) 23 _ (by rfl) g2 (by rfl) _ Try.underlying23 (by rfl) C _ K1_6.out (by rw [CS.out]; exact INF.out) ?_)
    | (refine wpList_load_wanted (by rfl) 29 _ (by rfl) g4 (by rfl) _ Try.underlying29 (by rfl) Y _ K2_6.out (by rw [YS.out]; exact infoRS) ?_))
  refine (RPR2.out _ RA_6.out).mono ?_
  rintro e x7 ⟨rfl, hb⟩
  have G7 : Hid (Below w.heap.size w x7) := Lib.hid (G6.out.trans (hb.mono G6.out.size))
  have K1_7 := Lib.hid (K1_6.out.below hb K1_6.out.lt)
  have K2_7 := Lib.hid (K2_6.out.below hb K2_6.out.lt)
  have RR_7 := Lib.hid (S.below _ _ _ _ RR_6.out hb)
  have RA_7 := Lib.hid (RS.below RA_6.out hb)
  clear hb
  clear K1_6 K2_6 RR_6 RA_6 G6
  go_wp2_with (first
    | (refine wpList_load_wanted (by rfl) 23 _ (by rfl) g2 (by rfl) _ Try.underlying23 (by rfl) C _ K1_7.out (by rw [CS.out]; exact INF.out) ?_)
    | (refine wpList_load_wanted (by rfl) 29 _ (by rfl) g4 (by rfl) _ Try.underlying29 (by rfl) Y _ K2_7.out (by rw [YS.out]; exact infoRS) ?_))
  refine (IT.out _ _ RR_7.out).mono ?_
  rintro e x8 ⟨rfl, hb⟩
  have G8 : Hid (Below w.heap.size w x8) := Lib.hid (G7.out.trans (hb.mono G7.out.size))
  have K1_8 := Lib.hid (K1_7.out.below hb K1_7.out.lt)
  have K2_8 := Lib.hid (K2_7.out.below hb K2_7.out.lt)
  have RR_8 := Lib.hid (S.below _ _ _ _ RR_7.out hb)
  have RA_8 := Lib.hid (RS.below RA_7.out hb)
  clear hb
  clear K1_7 K2_7 RR_7 RA_7 G7
  go_wp2_with (first
    | (refine wpList_load_wanted (by rfl) 23 _ (by rfl) g2 (by rfl) _ Try.underlying23 (by rfl) C _ K1_8.out (by rw [CS.out]; exact INF.out) ?_)
    | (refine wpList_load_wanted (by rfl) 29 _ (by rfl) g4 (by rfl) _ Try.underlying29 (by rfl) Y _ K2_8.out (by rw [YS.out]; exact infoRS) ?_))
  refine (RIT2.out _ RA_8.out).mono ?_
  rintro e x9 ⟨rfl, hb⟩
  have G9 : Hid (Below w.heap.size w x9) := Lib.hid (G8.out.trans (hb.mono G8.out.size))
  have K1_9 := Lib.hid (K1_8.out.below hb K1_8.out.lt)
  have K2_9 := Lib.hid (K2_8.out.below hb K2_8.out.lt)
  have RR_9 := Lib.hid (S.below _ _ _ _ RR_8.out hb)
  have RA_9 := Lib.hid (RS.below RA_8.out hb)
  clear hb
  clear K1_8 K2_8 RR_8 RA_8 G8
  go_wp2_with (first
    | (refine wpList_load_wanted (by rfl) 23 _ (by rfl) g2 (by rfl) _ Try.underlying23 (by rfl) C _ K1_9.out (by rw [CS.out]; exact INF.out) ?_)
    | (refine wpList_load_wanted (by rfl) 29 _ (by rfl) g4 (by rfl) _ Try.underlying29 (by rfl) Y _ K2_9.out (by rw [YS.out]; exact infoRS) ?_))
  refine (LV.out _ _ RR_9.out).mono ?_
  rintro e x10 ⟨rfl, hb⟩
  have G10 : Hid (Below w.heap.size w x10) := Lib.hid (G9.out.trans (hb.mono G9.out.size))
  have K1_10 := Lib.hid (K1_9.out.below hb K1_9.out.lt)
  have K2_10 := Lib.hid (K2_9.out.below hb K2_9.out.lt)
  have RR_10 := Lib.hid (S.below _ _ _ _ RR_9.out hb)
  have RA_10 := Lib.hid (RS.below RA_9.out hb)
  clear hb
  clear K1_9 K2_9 RR_9 RA_9 G9
  go_wp2_with (first
    | (refine wpList_load_wanted (by rfl) 23 _ (by rfl) g2 (by rfl) _ Try.underlying23 (by rfl) C _ K1_10.out (by rw [CS.out]; exact INF.out) ?_)
    | (refine wpList_load_wanted (by rfl) 29 _ (by rfl) g4 (by rfl) _ Try.underlying29 (by rfl) Y _ K2_10.out (by rw [YS.out]; exact infoRS) ?_)
    | (refine wpList_bin (by rfl) .neq _ _ _ _ _ _ (.bool false) (by rfl) (by rfl) (by rfl) (fun wx => o_bne _ _ _ wx) ?_)
    | (refine wpList_bin (by rfl) .neq _ _ _ _ _ _ (.bool false) (by rfl) (by rfl) (by rfl) (fun wx => o_ine _ _ _ _ _ wx) ?_))
  go_loopw [24] (fun v wr => ∃ k : Int, -1 ≤ k ∧ k ≤ 3 ∧ v = .int .i64 k ∧ Below x10.heap.size x10 wr) (fun v _ => (3 - intOf v).toNat)
  case atStart => exact ⟨-1, by omega, by omega, rfl, Below.refl _ _⟩
  case round =>
    obtain ⟨k, hk0, hk1, rfl, hbw⟩ := hrel
    have BW := Lib.hid hbw; have AW := Lib.hid (K1_10.out.below hbw K1_10.out.lt); have AY := Lib.hid (K2_10.out.below hbw K2_10.out.lt); have RW := Lib.hid (S.below _ _ _ _ RR_10.out hbw); have RY := Lib.hid (RS.below RA_10.out hbw)
    clear hbw
    have D0 : Hid (Below wr.heap.size wr wr.drew) := Lib.hid (Below.refl _ _).drew
    by_cases hk : k < 3
    · go_wp2_with fail
      refine wp_region_plan_in (fun x' => Below wr.heap.size wr x') (.take 0 (.take 1 (.take 2 (.take 4 (.take 5 (.take 6 (.sole 3 (.sole 7 (.take 8 .done))))))))) (by kernel_rfl) (by kernel_rfl) (by kernel_rfl) D0.out ?_
      refine plan_row 23 _ g2 _ C 23 (by rfl) (by rfl) (by rfl) (by first | (with_reducible exact Mem.ev_const _ _) | (with_reducible exact Mem.ev_zero _ _ _) | (with_reducible (apply Eq.trans (Mem.ev_tmp _ _ _)); simp only [List.getD_cons_succ, List.getD_cons_zero] <;> rfl)) (fun w' hw' => AW.out.below hw' AW.out.lt) Try.underlying23 (by rfl) (by rw [CS.out]; exact INF.out) ?_
      (simp only [Act.put, List.setIfInBounds_toArray, List.set_cons_zero, List.set_cons_succ])
      (first | (refine plan_move _ _ (by rfl) (by rfl) (.inl (by rfl)) (by first | (with_reducible exact Mem.ev_const _ _) | (with_reducible exact Mem.ev_zero _ _ _) | (with_reducible (apply Eq.trans (Mem.ev_tmp _ _ _)); simp only [List.getD_cons_succ, List.getD_cons_zero] <;> rfl)) ?_) | (refine plan_move _ _ (by rfl) (by rfl) (.inr (by rfl)) (by first | (with_reducible exact Mem.ev_const _ _) | (with_reducible exact Mem.ev_zero _ _ _) | (with_reducible (apply Eq.trans (Mem.ev_tmp _ _ _)); simp only [List.getD_cons_succ, List.getD_cons_zero] <;> rfl)) ?_) | (refine plan_pick_t _ _ _ _ (by rfl) (by rfl) (by rfl) (by first | (with_reducible exact Mem.ev_const _ _) | (with_reducible exact Mem.ev_zero _ _ _) | (with_reducible (apply Eq.trans (Mem.ev_tmp _ _ _)); simp only [List.getD_cons_succ, List.getD_cons_zero] <;> rfl)) (by first | (with_reducible exact Mem.ev_const _ _) | (with_reducible exact Mem.ev_zero _ _ _) | (with_reducible (apply Eq.trans (Mem.ev_tmp _ _ _)); simp only [List.getD_cons_succ, List.getD_cons_zero] <;> rfl)) ?_) | (refine plan_pick_f _ _ _ _ (by rfl) (by rfl) (by rfl) (by first | (with_reducible exact Mem.ev_const _ _) | (with_reducible exact Mem.ev_zero _ _ _) | (with_reducible (apply Eq.trans (Mem.ev_tmp _ _ _)); simp only [List.getD_cons_succ, List.getD_cons_zero] <;> rfl)) (by first | (with_reducible exact Mem.ev_const _ _) | (with_reducible exact Mem.ev_zero _ _ _) | (with_reducible (apply Eq.trans (Mem.ev_tmp _ _ _)); simp only [List.getD_cons_succ, List.getD_cons_zero] <;> rfl)) ?_))
      (simp only [Act.put, List.setIfInBounds_toArray, List.set_cons_zero, List.set_cons_succ])
      (first | (refine plan_move _ _ (by rfl) (by rfl) (.inl (by rfl)) (by first | (with_reducible exact Mem.ev_const _ _) | (with_reducible exact Mem.ev_zero _ _ _) | (with_reducible (apply Eq.trans (Mem.ev_tmp _ _ _)); simp only [List.getD_cons_succ, List.getD_cons_zero] <;> rfl)) ?_) | (refine plan_move _ _ (by rfl) (by rfl) (.inr (by rfl)) (by first | (with_reducible exact Mem.ev_const _ _) | (with_reducible exact Mem.ev_zero _ _ _) | (with_reducible (apply Eq.trans (Mem.ev_tmp _ _ _)); simp only [List.getD_cons_succ, List.getD_cons_zero] <;> rfl)) ?_) | (refine plan_pick_t _ _ _ _ (by rfl) (by rfl) (by rfl) (by first | (with_reducible exact Mem.ev_const _ _) | (with_reducible exact Mem.ev_zero _ _ _) | (with_reducible (apply Eq.trans (Mem.ev_tmp _ _ _)); simp only [List.getD_cons_succ, List.getD_cons_zero] <;> rfl)) (by first | (with_reducible exact Mem.ev_const _ _) | (with_reducible exact Mem.ev_zero _ _ _) | (with_reducible (apply Eq.trans (Mem.ev_tmp _ _ _)); simp only [List.getD_cons_succ, List.getD_cons_zero] <;> rfl)) ?_) | (refine plan_pick_f _ _ _ _ (by rfl) (by rfl) (by rfl) (by first | (with_reducible exact Mem.ev_const _ _) | (with_reducible exact Mem.ev_zero _ _ _) | (with_reducible (apply Eq.trans (Mem.ev_tmp _ _ _)); simp only [List.getD_cons_succ, List.getD_cons_zero] <;> rfl)) (by first | (with_reducible exact Mem.ev_const _ _) | (with_reducible exact Mem.ev_zero _ _ _) | (with_reducible (apply Eq.trans (Mem.ev_tmp _ _ _)); simp only [List.getD_cons_succ, List.getD_cons_zero] <;> rfl)) ?_))
      (simp only [Act.put, List.setIfInBounds_toArray, List.set_cons_zero, List.set_cons_succ])
      refine plan_row 29 _ g4 _ Y 29 (by rfl) (by rfl) (by rfl) (by first | (with_reducible exact Mem.ev_const _ _) | (with_reducible exact Mem.ev_zero _ _ _) | (with_reducible (apply Eq.trans (Mem.ev_tmp _ _ _)); simp only [List.getD_cons_succ, List.getD_cons_zero] <;> rfl)) (fun w' hw' => AY.out.below hw' AY.out.lt) Try.underlying29 (by rfl) (by rw [YS.out]; exact infoRS) ?_
      (simp only [Act.put, List.setIfInBounds_toArray, List.set_cons_zero, List.set_cons_succ])
      (first | (refine plan_move _ _ (by rfl) (by rfl) (.inl (by rfl)) (by first | (with_reducible exact Mem.ev_const _ _) | (with_reducible exact Mem.ev_zero _ _ _) | (with_reducible (apply Eq.trans (Mem.ev_tmp _ _ _)); simp only [List.getD_cons_succ, List.getD_cons_zero] <;> rfl)) ?_) | (refine plan_move _ _ (by rfl) (by rfl) (.inr (by rfl)) (by first | (with_reducible exact Mem.ev_const _ _) | (with_reducible exact Mem.ev_zero _ _ _) | (with_reducible (apply Eq.trans (Mem.ev_tmp _ _ _)); simp only [List.getD_cons_succ, List.getD_cons_zero] <;> rfl)) ?_) | (refine plan_pick_t _ _ _ _ (by rfl) (by rfl) (by rfl) (by first | (with_reducible exact Mem.ev_const _ _) | (with_reducible exact Mem.ev_zero _ _ _) | (with_reducible (apply Eq.trans (Mem.ev_tmp _ _ _)); simp only [List.getD_cons_succ, List.getD_cons_zero] <;> rfl)) (by first | (with_reducible exact Mem.ev_const _ _) | (with_reducible exact Mem.ev_zero _ _ _) | (with_reducible (apply Eq.trans (Mem.ev_tmp _ _ _)); simp only [List.getD_cons_succ, List.getD_cons_zero] <;> rfl)) ?_) | (refine plan_pick_f _ _ _ _ (by rfl) (by rfl) (by rfl) (by first | (with_reducible exact Mem.ev_const _ _) | (with_reducible exact Mem.ev_zero _ _ _) | (with_reducible (apply Eq.trans (Mem.ev_tmp _ _ _)); simp only [List.getD_cons_succ, List.getD_cons_zero] <;> rfl)) (by first | (with_reducible exact Mem.ev_const _ _) | (with_reducible exact Mem.ev_zero _ _ _) | (with_reducible (apply Eq.trans (Mem.ev_tmp _ _ _)); simp only [List.getD_cons_succ, List.getD_cons_zero] <;> rfl)) ?_))
      (simp only [Act.put, List.setIfInBounds_toArray, List.set_cons_zero, List.set_cons_succ])
      (first | (refine plan_move _ _ (by rfl) (by rfl) (.inl (by rfl)) (by first | (with_reducible exact Mem.ev_const _ _) | (with_reducible exact Mem.ev_zero _ _ _) | (with_reducible (apply Eq.trans (Mem.ev_tmp _ _ _)); simp only [List.getD_cons_succ, List.getD_cons_zero] <;> rfl)) ?_) | (refine plan_move _ _ (by rfl) (by rfl) (.inr (by rfl)) (by first | (with_reducible exact Mem.ev_const _ _) | (with_reducible exact Mem.ev_zero _ _ _) | (with_reducible (apply Eq.trans (Mem.ev_tmp _ _ _)); simp only [List.getD_cons_succ, List.getD_cons_zero] <;> rfl)) ?_) | (refine plan_pick_t _ _ _ _ (by rfl) (by rfl) (by rfl) (by first | (with_reducible exact Mem.ev_const _ _) | (with_reducible exact Mem.ev_zero _ _ _) | (with_reducible (apply Eq.trans (Mem.ev_tmp _ _ _)); simp only [List.getD_cons_succ, List.getD_cons_zero] <;> rfl)) (by first | (with_reducible exact Mem.ev_const _ _) | (with_reducible exact Mem.ev_zero _ _ _) | (with_reducible (apply Eq.trans (Mem.ev_tmp _ _ _)); simp only [List.getD_cons_succ, List.getD_cons_zero] <;> rfl)) ?_) | (refine plan_pick_f _ _ _ _ (by rfl) (by rfl) (by rfl) (by first | (with_reducible exact Mem.ev_const _ _) | (with_reducible exact Mem.ev_zero _ _ _) | (with_reducible (apply Eq.trans (Mem.ev_tmp _ _ _)); simp only [List.getD_cons_succ, List.getD_cons_zero] <;> rfl)) (by first | (with_reducible exact Mem.ev_const _ _) | (with_reducible exact Mem.ev_zero _ _ _) | (with_reducible (apply Eq.trans (Mem.ev_tmp _ _ _)); simp only [List.getD_cons_succ, List.getD_cons_zero] <;> rfl)) ?_))
      (simp only [Act.put, List.setIfInBounds_toArray, List.set_cons_zero, List.set_cons_succ])
      refine plan_call 18 _ _ _ (by kernel_rfl) (by rfl) (by rfl) (by rfl) (by first | exact Mem.ev_none _ | (simp only [List.map_toArray, List.map_cons, List.map_nil, Mem.ev_tmp, List.getD_cons_succ, List.getD_cons_zero] <;> rfl)) ?_
      refine (BL.out k _ _ (S.below _ _ _ _ RW.out D0.out)).mono ?_
      rintro e z3 ⟨rfl, hb3⟩
      have E3 : Hid (Below wr.heap.size wr z3) := Lib.hid (D0.out.trans (hb3.mono D0.out.size))
      have H3 := Lib.hid hb3
      clear hb3
      refine ⟨_, rfl, E3.out, ?_⟩
      (simp only [Act.put, List.setIfInBounds_toArray, List.set_cons_zero, List.set_cons_succ])
      refine plan_call 24 _ _ _ (by kernel_rfl) (by rfl) (by rfl) (by rfl) (by first | exact Mem.ev_none _ | (simp only [List.map_toArray, List.map_cons, List.map_nil, Mem.ev_tmp, List.getD_cons_succ, List.getD_cons_zero] <;> rfl)) ?_
      refine (RBL2.out k _ (RS.below RY.out E3.out)).mono ?_
      rintro e z7 ⟨rfl, hb7⟩
      have E7 : Hid (Below wr.heap.size wr z7) := Lib.hid (E3.out.trans (hb7.mono E3.out.size))
      have H7 := Lib.hid hb7
      clear hb7
      refine ⟨_, rfl, E7.out, ?_⟩
      (simp only [Act.put, List.setIfInBounds_toArray, List.set_cons_zero, List.set_cons_succ])
      refine plan_bin _ _ _ _ _ _ _ (.bool false) (by rfl) (by rfl) (by rfl) (by first | (with_reducible exact Mem.ev_const _ _) | (with_reducible exact Mem.ev_zero _ _ _) | (with_reducible (apply Eq.trans (Mem.ev_tmp _ _ _)); simp only [List.getD_cons_succ, List.getD_cons_zero] <;> rfl)) (by first | (with_reducible exact Mem.ev_const _ _) | (with_reducible exact Mem.ev_zero _ _ _) | (with_reducible (apply Eq.trans (Mem.ev_tmp _ _ _)); simp only [List.getD_cons_succ, List.getD_cons_zero] <;> rfl)) (fun wx => o_ine _ _ _ _ _ wx) ?_
      (simp only [Act.put, List.setIfInBounds_toArray, List.set_cons_zero, List.set_cons_succ])
      refine plan_nil ?_
      go_wp2_with fail
      go_roundw
      case rel => exact ⟨k + 1, by omega, by omega, rfl, BW.out.trans (E7.out.mono BW.out.size)⟩
      case measure => simp [intOf]; omega
    · go_wp2_with fail
      refine wp_region_plan_in (fun x' => Below wr.heap.size wr x') (.take 0 (.take 1 (.take 3 (.take 4 (.sole 2 (.sole 5 (.sole 6 (.take 7 (.take 8 (.take 9 (.take 11 (.take 12 (.sole 10 (.sole 13 (.sole 14 (.take 15 (.take 16 (.take 17 (.take 18 (.take 20 (.take 21 (.sole 19 (.sole 22 (.sole 23 (.take 24 (.take 25 (.sole 26 (.take 27 (.take 28 .done))))))))))))))))))))))))))))) (by kernel_rfl) (by kernel_rfl) (by kernel_rfl) D0.out ?_
      refine plan_row 23 _ g2 _ C 23 (by rfl) (by rfl) (by rfl) (by first | (with_reducible exact Mem.ev_const _ _) | (with_reducible exact Mem.ev_zero _ _ _) | (with_reducible (apply Eq.trans (Mem.ev_tmp _ _ _)); simp only [List.getD_cons_succ, List.getD_cons_zero] <;> rfl)) (fun w' hw' => AW.out.below hw' AW.out.lt) Try.underlying23 (by rfl) (by rw [CS.out]; exact INF.out) ?_
      (simp only [Act.put, List.setIfInBounds_toArray, List.set_cons_zero, List.set_cons_succ])
      (first | (refine plan_move _ _ (by rfl) (by rfl) (.inl (by rfl)) (by first | (with_reducible exact Mem.ev_const _ _) | (with_reducible exact Mem.ev_zero _ _ _) | (with_reducible (apply Eq.trans (Mem.ev_tmp _ _ _)); simp only [List.getD_cons_succ, List.getD_cons_zero] <;> rfl)) ?_) | (refine plan_move _ _ (by rfl) (by rfl) (.inr (by rfl)) (by first | (with_reducible exact Mem.ev_const _ _) | (with_reducible exact Mem.ev_zero _ _ _) | (with_reducible (apply Eq.trans (Mem.ev_tmp _ _ _)); simp only [List.getD_cons_succ, List.getD_cons_zero] <;> rfl)) ?_) | (refine plan_pick_t _ _ _ _ (by rfl) (by rfl) (by rfl) (by first | (with_reducible exact Mem.ev_const _ _) | (with_reducible exact Mem.ev_zero _ _ _) | (with_reducible (apply Eq.trans (Mem.ev_tmp _ _ _)); simp only [List.getD_cons_succ, List.getD_cons_zero] <;> rfl)) (by first | (with_reducible exact Mem.ev_const _ _) | (with_reducible exact Mem.ev_zero _ _ _) | (with_reducible (apply Eq.trans (Mem.ev_tmp _ _ _)); simp only [List.getD_cons_succ, List.getD_cons_zero] <;> rfl)) ?_) | (refine plan_pick_f _ _ _ _ (by rfl) (by rfl) (by rfl) (by first | (with_reducible exact Mem.ev_const _ _) | (with_reducible exact Mem.ev_zero _ _ _) | (with_reducible (apply Eq.trans (Mem.ev_tmp _ _ _)); simp only [List.getD_cons_succ, List.getD_cons_zero] <;> rfl)) (by first | (with_reducible exact Mem.ev_const _ _) | (with_reducible exact Mem.ev_zero _ _ _) | (with_reducible (apply Eq.trans (Mem.ev_tmp _ _ _)); simp only [List.getD_cons_succ, List.getD_cons_zero] <;> rfl)) ?_))
      (simp only [Act.put, List.setIfInBounds_toArray, List.set_cons_zero, List.set_cons_succ])
      refine plan_row 29 _ g4 _ Y 29 (by rfl) (by rfl) (by rfl) (by first | (with_reducible exact Mem.ev_const _ _) | (with_reducible exact Mem.ev_zero _ _ _) | (with_reducible (apply Eq.trans (Mem.ev_tmp _ _ _)); simp only [List.getD_cons_succ, List.getD_cons_zero] <;> rfl)) (fun w' hw' => AY.out.below hw' AY.out.lt) Try.underlying29 (by rfl) (by rw [YS.out]; exact infoRS) ?_
      (simp only [Act.put, List.setIfInBounds_toArray, List.set_cons_zero, List.set_cons_succ])
      (first | (refine plan_move _ _ (by rfl) (by rfl) (.inl (by rfl)) (by first | (with_reducible exact Mem.ev_const _ _) | (with_reducible exact Mem.ev_zero _ _ _) | (with_reducible (apply Eq.trans (Mem.ev_tmp _ _ _)); simp only [List.getD_cons_succ, List.getD_cons_zero] <;> rfl)) ?_) | (refine plan_move _ _ (by rfl) (by rfl) (.inr (by rfl)) (by first | (with_reducible exact Mem.ev_const _ _) | (with_reducible exact Mem.ev_zero _ _ _) | (with_reducible (apply Eq.trans (Mem.ev_tmp _ _ _)); simp only [List.getD_cons_succ, List.getD_cons_zero] <;> rfl)) ?_) | (refine plan_pick_t _ _ _ _ (by rfl) (by rfl) (by rfl) (by first | (with_reducible exact Mem.ev_const _ _) | (with_reducible exact Mem.ev_zero _ _ _) | (with_reducible (apply Eq.trans (Mem.ev_tmp _ _ _)); simp only [List.getD_cons_succ, List.getD_cons_zero] <;> rfl)) (by first | (with_reducible exact Mem.ev_const _ _) | (with_reducible exact Mem.ev_zero _ _ _) | (with_reducible (apply Eq.trans (Mem.ev_tmp _ _ _)); simp only [List.getD_cons_succ, List.getD_cons_zero] <;> rfl)) ?_) | (refine plan_pick_f _ _ _ _ (by rfl) (by rfl) (by rfl) (by first | (with_reducible exact Mem.ev_const _ _) | (with_reducible exact Mem.ev_zero _ _ _) | (with_reducible (apply Eq.trans (Mem.ev_tmp _ _ _)); simp only [List.getD_cons_succ, List.getD_cons_zero] <;> rfl)) (by first | (with_reducible exact Mem.ev_const _ _) | (with_reducible exact Mem.ev_zero _ _ _) | (with_reducible (apply Eq.trans (Mem.ev_tmp _ _ _)); simp only [List.getD_cons_succ, List.getD_cons_zero] <;> rfl)) ?_))
      (simp only [Act.put, List.setIfInBounds_toArray, List.set_cons_zero, List.set_cons_succ])
      refine plan_call 15 _ _ _ (by kernel_rfl) (by rfl) (by rfl) (by rfl) (by first | exact Mem.ev_none _ | (simp only [List.map_toArray, List.map_cons, List.map_nil, Mem.ev_tmp, List.getD_cons_succ, List.getD_cons_zero] <;> rfl)) ?_
      refine (KD.out _ _ (S.below _ _ _ _ RW.out D0.out)).mono ?_
      rintro e z2 ⟨v2, rfl, hs2, hb2⟩
      have E2 : Hid (Below wr.heap.size wr z2) := Lib.hid (D0.out.trans (hb2.mono D0.out.size))
      have H2 := Lib.hid hb2
      clear hb2
      have T2 := Lib.hid hs2
      clear hs2
      refine ⟨_, rfl, E2.out, ?_⟩
      (simp only [Act.put, List.setIfInBounds_toArray, List.set_cons_zero, List.set_cons_succ])
      refine plan_call 26 _ _ _ (by kernel_rfl) (by rfl) (by rfl) (by rfl) (by first | exact Mem.ev_none _ | (simp only [List.map_toArray, List.map_cons, List.map_nil, Mem.ev_tmp, List.getD_cons_succ, List.getD_cons_zero] <;> rfl)) ?_
      refine (RKD2.out _ (RS.below RY.out E2.out)).mono ?_
      rintro e z5 ⟨v5, rfl, hs5, hb5⟩
      have E5 : Hid (Below wr.heap.size wr z5) := Lib.hid (E2.out.trans (hb5.mono E2.out.size))
      have H5 := Lib.hid hb5
      clear hb5
      have T5 := Lib.hid hs5
      clear hs5
      refine ⟨_, rfl, E5.out, ?_⟩
      (simp only [Act.put, List.setIfInBounds_toArray, List.set_cons_zero, List.set_cons_succ])
      refine plan_call 25 _ _ _ (by kernel_rfl) (by rfl) (by rfl) (by rfl) (by first | exact Mem.ev_none _ | (simp only [List.map_toArray, List.map_cons, List.map_nil, Mem.ev_tmp, List.getD_cons_succ, List.getD_cons_zero] <;> rfl)) ?_
      refine (sameS_any lk _ _ _ (T2.out.below H5.out) T5.out KL.out).mono ?_
      rintro e z6 ⟨rfl, hb6⟩
      have E6 : Hid (Below wr.heap.size wr z6) := Lib.hid (E5.out.trans (hb6.mono E5.out.size))
      have H6 := Lib.hid hb6
      clear hb6
      refine ⟨_, rfl, E6.out, ?_⟩
      (simp only [Act.put, List.setIfInBounds_toArray, List.set_cons_zero, List.set_cons_succ])
      (first | (refine plan_move _ _ (by rfl) (by rfl) (.inl (by rfl)) (by first | (with_reducible exact Mem.ev_const _ _) | (with_reducible exact Mem.ev_zero _ _ _) | (with_reducible (apply Eq.trans (Mem.ev_tmp _ _ _)); simp only [List.getD_cons_succ, List.getD_cons_zero] <;> rfl)) ?_) | (refine plan_move _ _ (by rfl) (by rfl) (.inr (by rfl)) (by first | (with_reducible exact Mem.ev_const _ _) | (with_reducible exact Mem.ev_zero _ _ _) | (with_reducible (apply Eq.trans (Mem.ev_tmp _ _ _)); simp only [List.getD_cons_succ, List.getD_cons_zero] <;> rfl)) ?_) | (refine plan_pick_t _ _ _ _ (by rfl) (by rfl) (by rfl) (by first | (with_reducible exact Mem.ev_const _ _) | (with_reducible exact Mem.ev_zero _ _ _) | (with_reducible (apply Eq.trans (Mem.ev_tmp _ _ _)); simp only [List.getD_cons_succ, List.getD_cons_zero] <;> rfl)) (by first | (with_reducible exact Mem.ev_const _ _) | (with_reducible exact Mem.ev_zero _ _ _) | (with_reducible (apply Eq.trans (Mem.ev_tmp _ _ _)); simp only [List.getD_cons_succ, List.getD_cons_zero] <;> rfl)) ?_) | (refine plan_pick_f _ _ _ _ (by rfl) (by rfl) (by rfl) (by first | (with_reducible exact Mem.ev_const _ _) | (with_reducible exact Mem.ev_zero _ _ _) | (with_reducible (apply Eq.trans (Mem.ev_tmp _ _ _)); simp only [List.getD_cons_succ, List.getD_cons_zero] <;> rfl)) (by first | (with_reducible exact Mem.ev_const _ _) | (with_reducible exact Mem.ev_zero _ _ _) | (with_reducible (apply Eq.trans (Mem.ev_tmp _ _ _)); simp only [List.getD_cons_succ, List.getD_cons_zero] <;> rfl)) ?_))
      (simp only [Act.put, List.setIfInBounds_toArray, List.set_cons_zero, List.set_cons_succ])
      refine plan_row 23 _ g2 _ C 23 (by rfl) (by rfl) (by rfl) (by first | (with_reducible exact Mem.ev_const _ _) | (with_reducible exact Mem.ev_zero _ _ _) | (with_reducible (apply Eq.trans (Mem.ev_tmp _ _ _)); simp only [List.getD_cons_succ, List.getD_cons_zero] <;> rfl)) (fun w' hw' => AW.out.below hw' AW.out.lt) Try.underlying23 (by rfl) (by rw [CS.out]; exact INF.out) ?_
      (simp only [Act.put, List.setIfInBounds_toArray, List.set_cons_zero, List.set_cons_succ])
      (first | (refine plan_move _ _ (by rfl) (by rfl) (.inl (by rfl)) (by first | (with_reducible exact Mem.ev_const _ _) | (with_reducible exact Mem.ev_zero _ _ _) | (with_reducible (apply Eq.trans (Mem.ev_tmp _ _ _)); simp only [List.getD_cons_succ, List.getD_cons_zero] <;> rfl)) ?_) | (refine plan_move _ _ (by rfl) (by rfl) (.inr (by rfl)) (by first | (with_reducible exact Mem.ev_const _ _) | (with_reducible exact Mem.ev_zero _ _ _) | (with_reducible (apply Eq.trans (Mem.ev_tmp _ _ _)); simp only [List.getD_cons_succ, List.getD_cons_zero] <;> rfl)) ?_) | (refine plan_pick_t _ _ _ _ (by rfl) (by rfl) (by rfl) (by first | (with_reducible exact Mem.ev_const _ _) | (with_reducible exact Mem.ev_zero _ _ _) | (with_reducible (apply Eq.trans (Mem.ev_tmp _ _ _)); simp only [List.getD_cons_succ, List.getD_cons_zero] <;> rfl)) (by first | (with_reducible exact Mem.ev_const _ _) | (with_reducible exact Mem.ev_zero _ _ _) | (with_reducible (apply Eq.trans (Mem.ev_tmp _ _ _)); simp only [List.getD_cons_succ, List.getD_cons_zero] <;> rfl)) ?_) | (refine plan_pick_f _ _ _ _ (by rfl) (by rfl) (by rfl) (by first | (with_reducible exact Mem.ev_const _ _) | (with_reducible exact Mem.ev_zero _ _ _) | (with_reducible (apply Eq.trans (Mem.ev_tmp _ _ _)); simp only [List.getD_cons_succ, List.getD_cons_zero] <;> rfl)) (by first | (with_reducible exact Mem.ev_const _ _) | (with_reducible exact Mem.ev_zero _ _ _) | (with_reducible (apply Eq.trans (Mem.ev_tmp _ _ _)); simp only [List.getD_cons_succ, List.getD_cons_zero] <;> rfl)) ?_))
      (simp only [Act.put, List.setIfInBounds_toArray, List.set_cons_zero, List.set_cons_succ])
      refine plan_row 29 _ g4 _ Y 29 (by rfl) (by rfl) (by rfl) (by first | (with_reducible exact Mem.ev_const _ _) | (with_reducible exact Mem.ev_zero _ _ _) | (with_reducible (apply Eq.trans (Mem.ev_tmp _ _ _)); simp only [List.getD_cons_succ, List.getD_cons_zero] <;> rfl)) (fun w' hw' => AY.out.below hw' AY.out.lt) Try.underlying29 (by rfl) (by rw [YS.out]; exact infoRS) ?_
      (simp only [Act.put, List.setIfInBounds_toArray, List.set_cons_zero, List.set_cons_succ])
      (first | (refine plan_move _ _ (by rfl) (by rfl) (.inl (by rfl)) (by first | (with_reducible exact Mem.ev_const _ _) | (with_reducible exact Mem.ev_zero _ _ _) | (with_reducible (apply Eq.trans (Mem.ev_tmp _ _ _)); simp only [List.getD_cons_succ, List.getD_cons_zero] <;> rfl)) ?_) | (refine plan_move _ _ (by rfl) (by rfl) (.inr (by rfl)) (by first | (with_reducible exact Mem.ev_const _ _) | (with_reducible exact Mem.ev_zero _ _ _) | (with_reducible (apply Eq.trans (Mem.ev_tmp _ _ _)); simp only [List.getD_cons_succ, List.getD_cons_zero] <;> rfl)) ?_) | (refine plan_pick_t _ _ _ _ (by rfl) (by rfl) (by rfl) (by first | (with_reducible exact Mem.ev_const _ _) | (with_reducible exact Mem.ev_zero _ _ _) | (with_reducible (apply Eq.trans (Mem.ev_tmp _ _ _)); simp only [List.getD_cons_succ, List.getD_cons_zero] <;> rfl)) (by first | (with_reducible exact Mem.ev_const _ _) | (with_reducible exact Mem.ev_zero _ _ _) | (with_reducible (apply Eq.trans (Mem.ev_tmp _ _ _)); simp only [List.getD_cons_succ, List.getD_cons_zero] <;> rfl)) ?_) | (refine plan_pick_f _ _ _ _ (by rfl) (by rfl) (by rfl) (by first | (with_reducible exact Mem.ev_const _ _) | (with_reducible exact Mem.ev_zero _ _ _) | (with_reducible (apply Eq.trans (Mem.ev_tmp _ _ _)); simp only [List.getD_cons_succ, List.getD_cons_zero] <;> rfl)) (by first | (with_reducible exact Mem.ev_const _ _) | (with_reducible exact Mem.ev_zero _ _ _) | (with_reducible (apply Eq.trans (Mem.ev_tmp _ _ _)); simp only [List.getD_cons_succ, List.getD_cons_zero] <;> rfl)) ?_))
      (simp only [Act.put, List.setIfInBounds_toArray, List.set_cons_zero, List.set_cons_succ])
      refine plan_call 16 _ _ _ (by kernel_rfl) (by rfl) (by rfl) (by rfl) (by first | exact Mem.ev_none _ | (simp only [List.map_toArray, List.map_cons, List.map_nil, Mem.ev_tmp, List.getD_cons_succ, List.getD_cons_zero] <;> rfl)) ?_
      refine (PT.out _ _ (S.below _ _ _ _ RW.out E6.out)).mono ?_
      rintro e z10 ⟨v10, rfl, hs10, hb10⟩
      have E10 : Hid (Below wr.heap.size wr z10) := Lib.hid (E6.out.trans (hb10.mono E6.out.size))
      have H10 := Lib.hid hb10
      clear hb10
      have T10 := Lib.hid hs10
      clear hs10
      refine ⟨_, rfl, E10.out, ?_⟩
      (simp only [Act.put, List.setIfInBounds_toArray, List.set_cons_zero, List.set_cons_succ])
      refine plan_call 27 _ _ _ (by kernel_rfl) (by rfl) (by rfl) (by rfl) (by first | exact Mem.ev_none _ | (simp only [List.map_toArray, List.map_cons, List.map_nil, Mem.ev_tmp, List.getD_cons_succ, List.getD_cons_zero] <;> rfl)) ?_
      refine (RPT2.out _ (RS.below RY.out E10.out)).mono ?_
      rintro e z13 ⟨v13, rfl, hs13, hb13⟩
      have E13 : Hid (Below wr.heap.size wr z13) := Lib.hid (E10.out.trans (hb13.mono E10.out.size))
      have H13 := Lib.hid hb13
      clear hb13
      have T13 := Lib.hid hs13
      clear hs13
      refine ⟨_, rfl, E13.out, ?_⟩
      (simp only [Act.put, List.setIfInBounds_toArray, List.set_cons_zero, List.set_cons_succ])
      refine plan_call 25 _ _ _ (by kernel_rfl) (by rfl) (by rfl) (by rfl) (by first | exact Mem.ev_none _ | (simp only [List.map_toArray, List.map_cons, List.map_nil, Mem.ev_tmp, List.getD_cons_succ, List.getD_cons_zero] <;> rfl)) ?_
      refine (sameS_any lw _ _ _ (T10.out.below H13.out) T13.out WL.out).mono ?_
      rintro e z14 ⟨rfl, hb14⟩
      have E14 : Hid (Below wr.heap.size wr z14) := Lib.hid (E13.out.trans (hb14.mono E13.out.size))
      have H14 := Lib.hid hb14
      clear hb14
      refine ⟨_, rfl, E14.out, ?_⟩
      (simp only [Act.put, List.setIfInBounds_toArray, List.set_cons_zero, List.set_cons_succ])
      refine plan_pick_t _ _ _ _ (by rfl) (by rfl) (by rfl) (by first | (with_reducible exact Mem.ev_const _ _) | (with_reducible exact Mem.ev_zero _ _ _) | (with_reducible (apply Eq.trans (Mem.ev_tmp _ _ _)); simp only [List.getD_cons_succ, List.getD_cons_zero] <;> rfl)) (by first | (with_reducible exact Mem.ev_const _ _) | (with_reducible exact Mem.ev_zero _ _ _) | (with_reducible (apply Eq.trans (Mem.ev_tmp _ _ _)); simp only [List.getD_cons_succ, List.getD_cons_zero] <;> rfl)) ?_
      (simp only [Act.put, List.setIfInBounds_toArray, List.set_cons_zero, List.set_cons_succ])
      (first | (refine plan_move _ _ (by rfl) (by rfl) (.inl (by rfl)) (by first | (with_reducible exact Mem.ev_const _ _) | (with_reducible exact Mem.ev_zero _ _ _) | (with_reducible (apply Eq.trans (Mem.ev_tmp _ _ _)); simp only [List.getD_cons_succ, List.getD_cons_zero] <;> rfl)) ?_) | (refine plan_move _ _ (by rfl) (by rfl) (.inr (by rfl)) (by first | (with_reducible exact Mem.ev_const _ _) | (with_reducible exact Mem.ev_zero _ _ _) | (with_reducible (apply Eq.trans (Mem.ev_tmp _ _ _)); simp only [List.getD_cons_succ, List.getD_cons_zero] <;> rfl)) ?_) | (refine plan_pick_t _ _ _ _ (by rfl) (by rfl) (by rfl) (by first | (with_reducible exact Mem.ev_const _ _) | (with_reducible exact Mem.ev_zero _ _ _) | (with_reducible (apply Eq.trans (Mem.ev_tmp _ _ _)); simp only [List.getD_cons_succ, List.getD_cons_zero] <;> rfl)) (by first | (with_reducible exact Mem.ev_const _ _) | (with_reducible exact Mem.ev_zero _ _ _) | (with_reducible (apply Eq.trans (Mem.ev_tmp _ _ _)); simp only [List.getD_cons_succ, List.getD_cons_zero] <;> rfl)) ?_) | (refine plan_pick_f _ _ _ _ (by rfl) (by rfl) (by rfl) (by first | (with_reducible exact Mem.ev_const _ _) | (with_reducible exact Mem.ev_zero _ _ _) | (with_reducible (apply Eq.trans (Mem.ev_tmp _ _ _)); simp only [List.getD_cons_succ, List.getD_cons_zero] <;> rfl)) (by first | (with_reducible exact Mem.ev_const _ _) | (with_reducible exact Mem.ev_zero _ _ _) | (with_reducible (apply Eq.trans (Mem.ev_tmp _ _ _)); simp only [List.getD_cons_succ, List.getD_cons_zero] <;> rfl)) ?_))
      (simp only [Act.put, List.setIfInBounds_toArray, List.set_cons_zero, List.set_cons_succ])
      refine plan_row 23 _ g2 _ C 23 (by rfl) (by rfl) (by rfl) (by first | (with_reducible exact Mem.ev_const _ _) | (with_reducible exact Mem.ev_zero _ _ _) | (with_reducible (apply Eq.trans (Mem.ev_tmp _ _ _)); simp only [List.getD_cons_succ, List.getD_cons_zero] <;> rfl)) (fun w' hw' => AW.out.below hw' AW.out.lt) Try.underlying23 (by rfl) (by rw [CS.out]; exact INF.out) ?_
      (simp only [Act.put, List.setIfInBounds_toArray, List.set_cons_zero, List.set_cons_succ])
      (first | (refine plan_move _ _ (by rfl) (by rfl) (.inl (by rfl)) (by first | (with_reducible exact Mem.ev_const _ _) | (with_reducible exact Mem.ev_zero _ _ _) | (with_reducible (apply Eq.trans (Mem.ev_tmp _ _ _)); simp only [List.getD_cons_succ, List.getD_cons_zero] <;> rfl)) ?_) | (refine plan_move _ _ (by rfl) (by rfl) (.inr (by rfl)) (by first | (with_reducible exact Mem.ev_const _ _) | (with_reducible exact Mem.ev_zero _ _ _) | (with_reducible (apply Eq.trans (Mem.ev_tmp _ _ _)); simp only [List.getD_cons_succ, List.getD_cons_zero] <;> rfl)) ?_) | (refine plan_pick_t _ _ _ _ (by rfl) (by rfl) (by rfl) (by first | (with_reducible exact Mem.ev_const _ _) | (with_reducible exact Mem.ev_zero _ _ _) | (with_reducible (apply Eq.trans (Mem.ev_tmp _ _ _)); simp only [List.getD_cons_succ, List.getD_cons_zero] <;> rfl)) (by first | (with_reducible exact Mem.ev_const _ _) | (with_reducible exact Mem.ev_zero _ _ _) | (with_reducible (apply Eq.trans (Mem.ev_tmp _ _ _)); simp only [List.getD_cons_succ, List.getD_cons_zero] <;> rfl)) ?_) | (refine plan_pick_f _ _ _ _ (by rfl) (by rfl) (by rfl) (by first | (with_reducible exact Mem.ev_const _ _) | (with_reducible exact Mem.ev_zero _ _ _) | (with_reducible (apply Eq.trans (Mem.ev_tmp _ _ _)); simp only [List.getD_cons_succ, List.getD_cons_zero] <;> rfl)) (by first | (with_reducible exact Mem.ev_const _ _) | (with_reducible exact Mem.ev_zero _ _ _) | (with_reducible (apply Eq.trans (Mem.ev_tmp _ _ _)); simp only [List.getD_cons_succ, List.getD_cons_zero] <;> rfl)) ?_))
      (simp only [Act.put, List.setIfInBounds_toArray, List.set_cons_zero, List.set_cons_succ])
      refine plan_row 29 _ g4 _ Y 29 (by rfl) (by rfl) (by rfl) (by first | (with_reducible exact Mem.ev_const _ _) | (with_reducible exact Mem.ev_zero _ _ _) | (with_reducible (apply Eq.trans (Mem.ev_tmp _ _ _)); simp only [List.getD_cons_succ, List.getD_cons_zero] <;> rfl)) (fun w' hw' => AY.out.below hw' AY.out.lt) Try.underlying29 (by rfl) (by rw [YS.out]; exact infoRS) ?_
      (simp only [Act.put, List.setIfInBounds_toArray, List.set_cons_zero, List.set_cons_succ])
      (first | (refine plan_move _ _ (by rfl) (by rfl) (.inl (by rfl)) (by first | (with_reducible exact Mem.ev_const _ _) | (with_reducible exact Mem.ev_zero _ _ _) | (with_reducible (apply Eq.trans (Mem.ev_tmp _ _ _)); simp only [List.getD_cons_succ, List.getD_cons_zero] <;> rfl)) ?_) | (refine plan_move _ _ (by rfl) (by rfl) (.inr (by rfl)) (by first | (with_reducible exact Mem.ev_const _ _) | (with_reducible exact Mem.ev_zero _ _ _) | (with_reducible (apply Eq.trans (Mem.ev_tmp _ _ _)); simp only [List.getD_cons_succ, List.getD_cons_zero] <;> rfl)) ?_) | (refine plan_pick_t _ _ _ _ (by rfl) (by rfl) (by rfl) (by first | (with_reducible exact Mem.ev_const _ _) | (with_reducible exact Mem.ev_zero _ _ _) | (with_reducible (apply Eq.trans (Mem.ev_tmp _ _ _)); simp only [List.getD_cons_succ, List.getD_cons_zero] <;> rfl)) (by first | (with_reducible exact Mem.ev_const _ _) | (with_reducible exact Mem.ev_zero _ _ _) | (with_reducible (apply Eq.trans (Mem.ev_tmp _ _ _)); simp only [List.getD_cons_succ, List.getD_cons_zero] <;> rfl)) ?_) | (refine plan_pick_f _ _ _ _ (by rfl) (by rfl) (by rfl) (by first | (with_reducible exact Mem.ev_const _ _) | (with_reducible exact Mem.ev_zero _ _ _) | (with_reducible (apply Eq.trans (Mem.ev_tmp _ _ _)); simp only [List.getD_cons_succ, List.getD_cons_zero] <;> rfl)) (by first | (with_reducible exact Mem.ev_const _ _) | (with_reducible exact Mem.ev_zero _ _ _) | (with_reducible (apply Eq.trans (Mem.ev_tmp _ _ _)); simp only [List.getD_cons_succ, List.getD_cons_zero] <;> rfl)) ?_))
      (simp only [Act.put, List.setIfInBounds_toArray, List.set_cons_zero, List.set_cons_succ])
      refine plan_call 17 _ _ _ (by kernel_rfl) (by rfl) (by rfl) (by rfl) (by first | exact Mem.ev_none _ | (simp only [List.map_toArray, List.map_cons, List.map_nil, Mem.ev_tmp, List.getD_cons_succ, List.getD_cons_zero] <;> rfl)) ?_
      refine (UN.out _ _ (S.below _ _ _ _ RW.out E14.out)).mono ?_
      rintro e z19 ⟨v19, rfl, hs19, hb19⟩
      have E19 : Hid (Below wr.heap.size wr z19) := Lib.hid (E14.out.trans (hb19.mono E14.out.size))
      have H19 := Lib.hid hb19
      clear hb19
      have T19 := Lib.hid hs19
      clear hs19
      refine ⟨_, rfl, E19.out, ?_⟩
      (simp only [Act.put, List.setIfInBounds_toArray, List.set_cons_zero, List.set_cons_succ])
      refine plan_call 28 _ _ _ (by kernel_rfl) (by rfl) (by rfl) (by rfl) (by first | exact Mem.ev_none _ | (simp only [List.map_toArray, List.map_cons, List.map_nil, Mem.ev_tmp, List.getD_cons_succ, List.getD_cons_zero] <;> rfl)) ?_
      refine (RUN2.out _ (RS.below RY.out E19.out)).mono ?_
      rintro e z22 ⟨v22, rfl, hs22, hb22⟩
      have E22 : Hid (Below wr.heap.size wr z22) := Lib.hid (E19.out.trans (hb22.mono E19.out.size))
      have H22 := Lib.hid hb22
      clear hb22
      have T22 := Lib.hid hs22
      clear hs22
      refine ⟨_, rfl, E22.out, ?_⟩
      (simp only [Act.put, List.setIfInBounds_toArray, List.set_cons_zero, List.set_cons_succ])
      refine plan_call 25 _ _ _ (by kernel_rfl) (by rfl) (by rfl) (by rfl) (by first | exact Mem.ev_none _ | (simp only [List.map_toArray, List.map_cons, List.map_nil, Mem.ev_tmp, List.getD_cons_succ, List.getD_cons_zero] <;> rfl)) ?_
      refine (sameS_any lu _ _ _ (T19.out.below H22.out) T22.out UL.out).mono ?_
      rintro e z23 ⟨rfl, hb23⟩
      have E23 : Hid (Below wr.heap.size wr z23) := Lib.hid (E22.out.trans (hb23.mono E22.out.size))
      have H23 := Lib.hid hb23
      clear hb23
      refine ⟨_, rfl, E23.out, ?_⟩
      (simp only [Act.put, List.setIfInBounds_toArray, List.set_cons_zero, List.set_cons_succ])
      refine plan_pick_t _ _ _ _ (by rfl) (by rfl) (by rfl) (by first | (with_reducible exact Mem.ev_const _ _) | (with_reducible exact Mem.ev_zero _ _ _) | (with_reducible (apply Eq.trans (Mem.ev_tmp _ _ _)); simp only [List.getD_cons_succ, List.getD_cons_zero] <;> rfl)) (by first | (with_reducible exact Mem.ev_const _ _) | (with_reducible exact Mem.ev_zero _ _ _) | (with_reducible (apply Eq.trans (Mem.ev_tmp _ _ _)); simp only [List.getD_cons_succ, List.getD_cons_zero] <;> rfl)) ?_
      (simp only [Act.put, List.setIfInBounds_toArray, List.set_cons_zero, List.set_cons_succ])
      (first | (refine plan_move _ _ (by rfl) (by rfl) (.inl (by rfl)) (by first | (with_reducible exact Mem.ev_const _ _) | (with_reducible exact Mem.ev_zero _ _ _) | (with_reducible (apply Eq.trans (Mem.ev_tmp _ _ _)); simp only [List.getD_cons_succ, List.getD_cons_zero] <;> rfl)) ?_) | (refine plan_move _ _ (by rfl) (by rfl) (.inr (by rfl)) (by first | (with_reducible exact Mem.ev_const _ _) | (with_reducible exact Mem.ev_zero _ _ _) | (with_reducible (apply Eq.trans (Mem.ev_tmp _ _ _)); simp only [List.getD_cons_succ, List.getD_cons_zero] <;> rfl)) ?_) | (refine plan_pick_t _ _ _ _ (by rfl) (by rfl) (by rfl) (by first | (with_reducible exact Mem.ev_const _ _) | (with_reducible exact Mem.ev_zero _ _ _) | (with_reducible (apply Eq.trans (Mem.ev_tmp _ _ _)); simp only [List.getD_cons_succ, List.getD_cons_zero] <;> rfl)) (by first | (with_reducible exact Mem.ev_const _ _) | (with_reducible exact Mem.ev_zero _ _ _) | (with_reducible (apply Eq.trans (Mem.ev_tmp _ _ _)); simp only [List.getD_cons_succ, List.getD_cons_zero] <;> rfl)) ?_) | (refine plan_pick_f _ _ _ _ (by rfl) (by rfl) (by rfl) (by first | (with_reducible exact Mem.ev_const _ _) | (with_reducible exact Mem.ev_zero _ _ _) | (with_reducible (apply Eq.trans (Mem.ev_tmp _ _ _)); simp only [List.getD_cons_succ, List.getD_cons_zero] <;> rfl)) (by first | (with_reducible exact Mem.ev_const _ _) | (with_reducible exact Mem.ev_zero _ _ _) | (with_reducible (apply Eq.trans (Mem.ev_tmp _ _ _)); simp only [List.getD_cons_succ, List.getD_cons_zero] <;> rfl)) ?_))
      (simp only [Act.put, List.setIfInBounds_toArray, List.set_cons_zero, List.set_cons_succ])
      refine plan_call 19 _ _ _ (by kernel_rfl) (by rfl) (by rfl) (by rfl) (by first | exact Mem.ev_none _ | (simp only [List.map_toArray, List.map_cons, List.map_nil, Mem.ev_tmp, List.getD_cons_succ, List.getD_cons_zero] <;> rfl)) ?_
      refine (AL.out _).mono ?_
      rintro e z26 ⟨rfl, hb26⟩
      have E26 : Hid (Below wr.heap.size wr z26) := Lib.hid (E23.out.trans (hb26.mono E23.out.size))
      have H26 := Lib.hid hb26
      clear hb26
      refine ⟨_, rfl, E26.out, ?_⟩
      (simp only [Act.put, List.setIfInBounds_toArray, List.set_cons_zero, List.set_cons_succ])
      refine plan_pick_t _ _ _ _ (by rfl) (by rfl) (by rfl) (by first | (with_reducible exact Mem.ev_const _ _) | (with_reducible exact Mem.ev_zero _ _ _) | (with_reducible (apply Eq.trans (Mem.ev_tmp _ _ _)); simp only [List.getD_cons_succ, List.getD_cons_zero] <;> rfl)) (by first | (with_reducible exact Mem.ev_const _ _) | (with_reducible exact Mem.ev_zero _ _ _) | (with_reducible (apply Eq.trans (Mem.ev_tmp _ _ _)); simp only [List.getD_cons_succ, List.getD_cons_zero] <;> rfl)) ?_
      (simp only [Act.put, List.setIfInBounds_toArray, List.set_cons_zero, List.set_cons_succ])
      (first | (refine plan_move _ _ (by rfl) (by rfl) (.inl (by rfl)) (by first | (with_reducible exact Mem.ev_const _ _) | (with_reducible exact Mem.ev_zero _ _ _) | (with_reducible (apply Eq.trans (Mem.ev_tmp _ _ _)); simp only [List.getD_cons_succ, List.getD_cons_zero] <;> rfl)) ?_) | (refine plan_move _ _ (by rfl) (by rfl) (.inr (by rfl)) (by first | (with_reducible exact Mem.ev_const _ _) | (with_reducible exact Mem.ev_zero _ _ _) | (with_reducible (apply Eq.trans (Mem.ev_tmp _ _ _)); simp only [List.getD_cons_succ, List.getD_cons_zero] <;> rfl)) ?_) | (refine plan_pick_t _ _ _ _ (by rfl) (by rfl) (by rfl) (by first | (with_reducible exact Mem.ev_const _ _) | (with_reducible exact Mem.ev_zero _ _ _) | (with_reducible (apply Eq.trans (Mem.ev_tmp _ _ _)); simp only [List.getD_cons_succ, List.getD_cons_zero] <;> rfl)) (by first | (with_reducible exact Mem.ev_const _ _) | (with_reducible exact Mem.ev_zero _ _ _) | (with_reducible (apply Eq.trans (Mem.ev_tmp _ _ _)); simp only [List.getD_cons_succ, List.getD_cons_zero] <;> rfl)) ?_) | (refine plan_pick_f _ _ _ _ (by rfl) (by rfl) (by rfl) (by first | (with_reducible exact Mem.ev_const _ _) | (with_reducible exact Mem.ev_zero _ _ _) | (with_reducible (apply Eq.trans (Mem.ev_tmp _ _ _)); simp only [List.getD_cons_succ, List.getD_cons_zero] <;> rfl)) (by first | (with_reducible exact Mem.ev_const _ _) | (with_reducible exact Mem.ev_zero _ _ _) | (with_reducible (apply Eq.trans (Mem.ev_tmp _ _ _)); simp only [List.getD_cons_succ, List.getD_cons_zero] <;> rfl)) ?_))
      (simp only [Act.put, List.setIfInBounds_toArray, List.set_cons_zero, List.set_cons_succ])
      refine plan_nil ?_
      go_wp2_with fail
      go_ret
      exact ⟨rfl, G10.out.trans ((BW.out.trans (E26.out.mono BW.out.size)).mono G10.out.size)⟩
theorem items12_core (S : ShP) (z x y : Int) (w : World) : Calls Try.prog 4 #[.int .i64 z, .int .i64 x, .int .i64 y] w fun e w' => e = .returned (.bool true) ∧ Below w.heap.size w w' := by
  by_cases h : z < 1 ∨ 216 < z
  · exact items12_bad S z x y w h
  · obtain ⟨p, rfl⟩ : ∃ p : Nat, z = (p : Int) := ⟨z.toNat, by omega⟩
    by_cases h6 : 60 < p
    · exact items12_many S p x y w (by omega) (by omega) h6
    · by_cases hx : 0 ≤ x ∧ x < (itn p : Int)
      · obtain ⟨i, rfl⟩ : ∃ i : Nat, x = (i : Int) := ⟨x.toNat, by omega⟩
        exact items12_in S p i y w (by omega) (by omega) (by omega)
      · exact items12_out S p x y w (by omega) (by omega) hx
end Sha
end Go.Proofs.Ytbboljmemomcnaa
