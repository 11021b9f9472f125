/- Layer 11, HeadUpgrades: a head that is made newer is the same, but for its version, and is made newer once. -/
import Derived.Test.YtbnjihpafipbnaaCB
import Derived.Deep.DeepCutAuto
namespace Go.Proofs.Ytbnjihpafipbnaa
namespace Sha
open Go.RowKit Mem
set_option maxRecDepth 100000
set_option maxHeartbeats 16000000 in
theorem upgrades11_core (h : HdV) (hw : h.Wf) (w : World) : Calls Try.prog 6 #[.agg (hdC h)] w fun e w' => e = .returned (.bool true) ∧ Below w.heap.size w w' := by
  have al := fun wx => alive11_any wx
  obtain ⟨M, hM⟩ : ∃ M, M = hdC h := ⟨_, rfl⟩
  have ms : M.size = 84 := by rw [hM]; exact hdC_size hw
  have mo : M.all (·.oneCell') = true := by rw [hM]; exact hdC_one _
  have cl := hd_lab hw
  have hss := hd_strsize h
  have cv := hd_ver h
  obtain ⟨S, hS⟩ : ∃ S, S = strOfNums (i8s h.lab) := ⟨_, rfl⟩
  rw [← hM] at cl cv
  rw [← hS] at cl hss
  have th := fun wx => theirs11_any h hw wx
  rw [← hM] at th ⊢
  obtain ⟨w1, hw1⟩ : ∃ w1, w1 = w.alloc (.cells M 27) := ⟨_, rfl⟩
  have ax : At w1 w.heap.size M 27 := by rw [hw1]; exact at_new w _ _
  have b1 : Below w.heap.size w w1 := by rw [hw1]; exact (Below.refl _ _).alloc (Nat.le_refl _) _
  have AX := Lib.hid ax; have B1 := Lib.hid b1
  have up := fun wx => pup11_any h hw wx
  have mp := fun wx => pmay11_any h hw wx
  have hmi := mayH_iff h
  have hu : upH h = if mayH h = false then (zhd, 1) else if h.ver = 2 then (zhd, 21) else ({ h with ver := 2 }, 0) := rfl
  obtain ⟨Z, hZ⟩ : ∃ Z, Z = hdC zhd := ⟨_, rfl⟩
  have zs : Z.size = 84 := by rw [hZ]; exact hdC_size zhd_wf
  have hxp : ∀ w, (zeroValue 35).run Try.prog w = .ok (.agg Z) w := by rw [hZ]; exact zeroHdP
  have hxr : ∀ w, (zeroValue 27).run Try.prog w = .ok (.agg Z) w := by rw [hZ]; exact zeroHdR
  have ZS := Lib.hid zs; have HXP := Lib.hid hxp; have HXR := Lib.hid hxr
  have zo : Z.all (·.oneCell') = true := by rw [hZ]; exact hdC_one _
  have eqz := fun x y wx => eqlHP zhd_wf zhd_wf x y wx
  rw [sameHd_self, ← hZ] at eqz
  have bn : ∀ w, (Instr.build 35 #[]).run Try.prog w = .ok (.agg Z) w := by rw [hZ]; exact buildHP0
  have eqm := fun x y wx => eqlHP hw hw x y wx
  rw [sameHd_self, ← hM] at eqm
  rw [← hM] at up mp
  have AL := Lib.hid al; have AXS := Lib.hid ms; have MO := Lib.hid mo; have TH := Lib.hid th; have ZO := Lib.hid zo; have EQZ := Lib.hid eqz; have BN := Lib.hid bn; have EQM := Lib.hid eqm
  clear ax b1 al ms mo cl hss hS th zs zo hxp hxr eqz bn eqm
  obtain ⟨m, hm⟩ : ∃ m, m = mayH h := ⟨_, rfl⟩
  rw [← hm] at mp hmi hu
  cases m with
  | false =>
    rw [if_pos rfl] at hu
    rw [hu] at up
    simp only at up
    rw [← hZ] at up
    have UP := Lib.hid up; have MP := Lib.hid mp
    clear hu up mp hmi hm cv hM hZ hw
    go_enter Try.func6, Try.ntmps6
    go_upto_region 1 with fail
    rw [← hw1]
    clear hw1
    have G0 := Lib.hid (Below.refl w1.heap.size w1)
    go_wp2_with (first
      | (refine wpList_load_wanted (by rfl) 27 _ (by rfl) w.heap.size (by rfl) _ Try.underlying27 (by rfl) M _ (AX.out.below G0.out AX.out.lt) (by rw [AXS.out]; exact infoHdR) ?_))
    refine (TH.out _).mono ?_
    rintro e x1 ⟨rfl, hb⟩
    have G1 : Hid (Below w1.heap.size w1 x1) := Lib.hid (G0.out.trans (hb.mono G0.out.size))
    clear hb
    clear G0
    go_wp2_with (first
      | (refine wpList_load_wanted (by rfl) 27 _ (by rfl) w.heap.size (by rfl) _ Try.underlying27 (by rfl) M _ (AX.out.below G1.out AX.out.lt) (by rw [AXS.out]; exact infoHdR) ?_))
    refine (UP.out _).mono ?_
    rintro e x2 ⟨rfl, hb⟩
    have G2 : Hid (Below w1.heap.size w1 x2) := Lib.hid (G1.out.trans (hb.mono G1.out.size))
    clear hb
    clear G1
    have G3 : Hid (Below w1.heap.size w1 (x2.alloc (.cells Z 35))) := Lib.hid (G2.out.alloc G2.out.size _)
    have K3 := Lib.hid (at_new x2 Z 35)
    have hz := HXP.out
    go_upto_region 2 with (refine wpList_store_new (by rfl) 35 _ _ (by rfl) (by rfl) Z _ _ (by rfl) (by rfl) (by rw [ZS.out]; exact infoHdP) (by first | rfl | rw [ZS.out, ZS.out]) ZO.out ?_)
    clear hz
    obtain ⟨g3, hg⟩ : ∃ g, g = x2.heap.size := ⟨_, rfl⟩
    rw [← hg] at K3 ⊢
    clear hg
    generalize (x2.alloc (.cells Z 35)) = y3 at *
    clear G2
    go_wp2_with (first
      | (refine wpList_load_wanted (by rfl) 27 _ (by rfl) w.heap.size (by rfl) _ Try.underlying27 (by rfl) M _ (AX.out.below G3.out AX.out.lt) (by rw [AXS.out]; exact infoHdR) ?_)
      | (refine wpList_load_wanted (by rfl) 35 _ (by rfl) g3 (by rfl) _ Try.underlying35 (by rfl) Z _ K3.out (by rw [ZS.out]; exact infoHdP) ?_)
      | (refine Mem.wpList_build (by rfl) 35 _ #[] (.agg Z) (by rfl) (by first | rfl | simp) BN.out ?_)
      | (refine wpList_bin (by rfl) .eql _ _ _ _ _ _ (.bool true) (by rfl) (by rfl) (by rfl) (fun wx => EQZ.out _ _ wx) ?_))
    refine (TH.out _).mono ?_
    rintro e x4 ⟨rfl, hb⟩
    have G4 : Hid (Below w1.heap.size w1 x4) := Lib.hid (G3.out.trans (hb.mono G3.out.size))
    have K3_4 := Lib.hid (K3.out.below hb K3.out.lt)
    clear hb
    clear K3 G3
    go_wp2_with (first
      | (refine wpList_load_wanted (by rfl) 27 _ (by rfl) w.heap.size (by rfl) _ Try.underlying27 (by rfl) M _ (AX.out.below G4.out AX.out.lt) (by rw [AXS.out]; exact infoHdR) ?_)
      | (refine wpList_load_wanted (by rfl) 35 _ (by rfl) g3 (by rfl) _ Try.underlying35 (by rfl) Z _ K3_4.out (by rw [ZS.out]; exact infoHdP) ?_)
      | (refine Mem.wpList_build (by rfl) 35 _ #[] (.agg Z) (by rfl) (by first | rfl | simp) BN.out ?_)
      | (refine wpList_bin (by rfl) .eql _ _ _ _ _ _ (.bool true) (by rfl) (by rfl) (by rfl) (fun wx => EQZ.out _ _ wx) ?_))
    refine (MP.out _).mono ?_
    rintro e x5 ⟨rfl, hb⟩
    have G5 : Hid (Below w1.heap.size w1 x5) := Lib.hid (G4.out.trans (hb.mono G4.out.size))
    have K3_5 := Lib.hid (K3_4.out.below hb K3_4.out.lt)
    clear hb
    clear K3_4 G4
    go_wp2_with (first
      | (refine wpList_load_wanted (by rfl) 27 _ (by rfl) w.heap.size (by rfl) _ Try.underlying27 (by rfl) M _ (AX.out.below G5.out AX.out.lt) (by rw [AXS.out]; exact infoHdR) ?_)
      | (refine wpList_load_wanted (by rfl) 35 _ (by rfl) g3 (by rfl) _ Try.underlying35 (by rfl) Z _ K3_5.out (by rw [ZS.out]; exact infoHdP) ?_)
      | (refine Mem.wpList_build (by rfl) 35 _ #[] (.agg Z) (by rfl) (by first | rfl | simp) BN.out ?_)
      | (refine wpList_bin (by rfl) .eql _ _ _ _ _ _ (.bool true) (by rfl) (by rfl) (by rfl) (fun wx => EQZ.out _ _ wx) ?_))
    refine (AL.out _).mono ?_
    rintro e x99 ⟨rfl, hb9⟩
    have G99 : Hid (Below w1.heap.size w1 x99) := Lib.hid (G5.out.trans (hb9.mono G5.out.size))
    clear hb9
    go_wp2_with fail
    go_ret
    exact ⟨rfl, B1.out.trans (G99.out.mono B1.out.size)⟩
  | true =>
    rw [if_neg (by decide)] at hu
    by_cases h2 : h.ver = 2
    · rw [if_pos h2] at hu
      rw [hu] at up
      simp only at up
      rw [← hZ] at up
      rw [h2] at cv
      have UP := Lib.hid up; have MP := Lib.hid mp; have CV := Lib.hid cv
      clear hu up mp hmi hm cv hM hZ hw h2
      go_enter Try.func6, Try.ntmps6
      go_upto_region 1 with fail
      rw [← hw1]
      clear hw1
      have G0 := Lib.hid (Below.refl w1.heap.size w1)
      go_wp2_with (first
        | (refine wpList_load_wanted (by rfl) 27 _ (by rfl) w.heap.size (by rfl) _ Try.underlying27 (by rfl) M _ (AX.out.below G0.out AX.out.lt) (by rw [AXS.out]; exact infoHdR) ?_))
      refine (TH.out _).mono ?_
      rintro e x1 ⟨rfl, hb⟩
      have G1 : Hid (Below w1.heap.size w1 x1) := Lib.hid (G0.out.trans (hb.mono G0.out.size))
      clear hb
      clear G0
      go_wp2_with (first
        | (refine wpList_load_wanted (by rfl) 27 _ (by rfl) w.heap.size (by rfl) _ Try.underlying27 (by rfl) M _ (AX.out.below G1.out AX.out.lt) (by rw [AXS.out]; exact infoHdR) ?_))
      refine (UP.out _).mono ?_
      rintro e x2 ⟨rfl, hb⟩
      have G2 : Hid (Below w1.heap.size w1 x2) := Lib.hid (G1.out.trans (hb.mono G1.out.size))
      clear hb
      clear G1
      have G3 : Hid (Below w1.heap.size w1 (x2.alloc (.cells Z 35))) := Lib.hid (G2.out.alloc G2.out.size _)
      have K3 := Lib.hid (at_new x2 Z 35)
      have hz := HXP.out
      go_upto_region 2 with (refine wpList_store_new (by rfl) 35 _ _ (by rfl) (by rfl) Z _ _ (by rfl) (by rfl) (by rw [ZS.out]; exact infoHdP) (by first | rfl | rw [ZS.out, ZS.out]) ZO.out ?_)
      clear hz
      obtain ⟨g3, hg⟩ : ∃ g, g = x2.heap.size := ⟨_, rfl⟩
      rw [← hg] at K3 ⊢
      clear hg
      generalize (x2.alloc (.cells Z 35)) = y3 at *
      clear G2
      have c0 := ((AX.out.below G3.out AX.out.lt).cell 0).trans CV.out
      go_wp2_with (first
        | (refine wpList_load_wanted (by rfl) 27 _ (by rfl) w.heap.size (by rfl) _ Try.underlying27 (by rfl) M _ (AX.out.below G3.out AX.out.lt) (by rw [AXS.out]; exact infoHdR) ?_)
        | (refine wpList_load_wanted (by rfl) 35 _ (by rfl) g3 (by rfl) _ Try.underlying35 (by rfl) Z _ K3.out (by rw [ZS.out]; exact infoHdP) ?_)
        | (refine Mem.wpList_build (by rfl) 35 _ #[] (.agg Z) (by rfl) (by first | rfl | simp) BN.out ?_)
        | (refine wpList_bin (by rfl) .eql _ _ _ _ _ _ (.bool true) (by rfl) (by rfl) (by rfl) (fun wx => EQZ.out _ _ wx) ?_))
      refine (TH.out _).mono ?_
      rintro e x4 ⟨rfl, hb⟩
      have G4 : Hid (Below w1.heap.size w1 x4) := Lib.hid (G3.out.trans (hb.mono G3.out.size))
      have K3_4 := Lib.hid (K3.out.below hb K3.out.lt)
      clear hb
      clear K3 G3
      have c0 := ((AX.out.below G4.out AX.out.lt).cell 0).trans CV.out
      go_wp2_with (first
        | (refine wpList_load_wanted (by rfl) 27 _ (by rfl) w.heap.size (by rfl) _ Try.underlying27 (by rfl) M _ (AX.out.below G4.out AX.out.lt) (by rw [AXS.out]; exact infoHdR) ?_)
        | (refine wpList_load_wanted (by rfl) 35 _ (by rfl) g3 (by rfl) _ Try.underlying35 (by rfl) Z _ K3_4.out (by rw [ZS.out]; exact infoHdP) ?_)
        | (refine Mem.wpList_build (by rfl) 35 _ #[] (.agg Z) (by rfl) (by first | rfl | simp) BN.out ?_)
        | (refine wpList_bin (by rfl) .eql _ _ _ _ _ _ (.bool true) (by rfl) (by rfl) (by rfl) (fun wx => EQZ.out _ _ wx) ?_))
      refine (MP.out _).mono ?_
      rintro e x5 ⟨rfl, hb⟩
      have G5 : Hid (Below w1.heap.size w1 x5) := Lib.hid (G4.out.trans (hb.mono G4.out.size))
      have K3_5 := Lib.hid (K3_4.out.below hb K3_4.out.lt)
      clear hb
      clear K3_4 G4
      have c0 := ((AX.out.below G5.out AX.out.lt).cell 0).trans CV.out
      go_wp2_with (first
        | (refine wpList_load_wanted (by rfl) 27 _ (by rfl) w.heap.size (by rfl) _ Try.underlying27 (by rfl) M _ (AX.out.below G5.out AX.out.lt) (by rw [AXS.out]; exact infoHdR) ?_)
        | (refine wpList_load_wanted (by rfl) 35 _ (by rfl) g3 (by rfl) _ Try.underlying35 (by rfl) Z _ K3_5.out (by rw [ZS.out]; exact infoHdP) ?_)
        | (refine Mem.wpList_build (by rfl) 35 _ #[] (.agg Z) (by rfl) (by first | rfl | simp) BN.out ?_)
        | (refine wpList_bin (by rfl) .eql _ _ _ _ _ _ (.bool true) (by rfl) (by rfl) (by rfl) (fun wx => EQZ.out _ _ wx) ?_))
      refine (AL.out _).mono ?_
      rintro e x99 ⟨rfl, hb9⟩
      have G99 : Hid (Below w1.heap.size w1 x99) := Lib.hid (G5.out.trans (hb9.mono G5.out.size))
      clear hb9
      go_wp2_with fail
      go_ret
      exact ⟨rfl, B1.out.trans (G99.out.mono B1.out.size)⟩
    · have hv1 : h.ver = 1 := by have hh := hmi.1 rfl; omega
      rw [if_neg h2] at hu
      rw [hu] at up
      have wf2 : HdV.Wf { h with ver := 2 } := ⟨by show (-9223372036854775808 : Int) ≤ 2; decide, by show (2 : Int) ≤ 9223372036854775807; decide, hw.p0, hw.p1, hw.wr, hw.lab⟩
      have up2 := fun wx => pup11_any { h with ver := 2 } wf2 wx
      rw [(up_twice h hm.symm h2).2.1] at up2
      simp only at up up2
      have hset : (hdC { h with ver := 2 }).setIfInBounds 0 (.int .i64 1) = hdC h := by rw [hd_setver]; congr 1; rw [← hv1]
      rw [hv1] at cv
      obtain ⟨U, hU⟩ : ∃ U, U = hdC { h with ver := 2 } := ⟨_, rfl⟩
      have us : U.size = 84 := by rw [hU]; exact hdC_size wf2
      have uo : U.all (·.oneCell') = true := by rw [hU]; exact hdC_one _
      rw [← hU] at up up2 hset
      rw [← hM] at hset
      rw [← hZ] at up2
      have UP := Lib.hid up; have UP2 := Lib.hid up2; have CV := Lib.hid cv; have SET := Lib.hid hset; have US := Lib.hid us; have UO := Lib.hid uo
      clear hu up up2 mp hmi hm cv hM hZ hw h2 hv1 wf2 hset us uo hU
      go_enter Try.func6, Try.ntmps6
      go_upto_region 1 with fail
      rw [← hw1]
      clear hw1
      have G0 := Lib.hid (Below.refl w1.heap.size w1)
      go_wp2_with (first
        | (refine wpList_load_wanted (by rfl) 27 _ (by rfl) w.heap.size (by rfl) _ Try.underlying27 (by rfl) M _ (AX.out.below G0.out AX.out.lt) (by rw [AXS.out]; exact infoHdR) ?_))
      refine (TH.out _).mono ?_
      rintro e x1 ⟨rfl, hb⟩
      have G1 : Hid (Below w1.heap.size w1 x1) := Lib.hid (G0.out.trans (hb.mono G0.out.size))
      clear hb
      clear G0
      go_wp2_with (first
        | (refine wpList_load_wanted (by rfl) 27 _ (by rfl) w.heap.size (by rfl) _ Try.underlying27 (by rfl) M _ (AX.out.below G1.out AX.out.lt) (by rw [AXS.out]; exact infoHdR) ?_))
      refine (UP.out _).mono ?_
      rintro e x2 ⟨rfl, hb⟩
      have G2 : Hid (Below w1.heap.size w1 x2) := Lib.hid (G1.out.trans (hb.mono G1.out.size))
      clear hb
      clear G1
      have hge := G2.out.size
      have G3 : Hid (Below w1.heap.size w1 (x2.alloc (.cells U 35))) := Lib.hid (G2.out.alloc G2.out.size _)
      have K3 := Lib.hid (at_new x2 U 35)
      have hz := HXP.out
      go_upto_region 2 with (refine wpList_store_new (by rfl) 35 _ _ (by rfl) (by rfl) U _ _ (by rfl) (by rfl) (by rw [US.out]; exact infoHdP) (by first | rfl | rw [US.out, ZS.out]) UO.out ?_)
      clear hz
      obtain ⟨g3, hg⟩ : ∃ g, g = x2.heap.size := ⟨_, rfl⟩
      rw [← hg] at K3 ⊢
      have G3GE : Hid (w1.heap.size ≤ g3) := Lib.hid (by rw [hg]; exact hge)
      clear hg
      generalize (x2.alloc (.cells U 35)) = y3 at *
      clear G2
      clear hge
      go_wp2_with (first
        | (refine wpList_load_wanted (by rfl) 27 _ (by rfl) w.heap.size (by rfl) _ Try.underlying27 (by rfl) M _ (AX.out.below G3.out AX.out.lt) (by rw [AXS.out]; exact infoHdR) ?_)
        | (refine wpList_load_wanted (by rfl) 35 _ (by rfl) g3 (by rfl) _ Try.underlying35 (by rfl) U _ K3.out (by rw [US.out]; exact infoHdP) ?_))
      refine (UP2.out _).mono ?_
      rintro e x4 ⟨rfl, hb⟩
      have G4 : Hid (Below w1.heap.size w1 x4) := Lib.hid (G3.out.trans (hb.mono G3.out.size))
      have K3_4 := Lib.hid (K3.out.below hb K3.out.lt)
      clear hb
      clear K3 G3
      have lt3 := Lib.hid K3_4.out.lt
      have G5 : Hid (Below w1.heap.size w1 (x4.alloc (.cells Z 35))) := Lib.hid (G4.out.alloc G4.out.size _)
      have K3_5 := Lib.hid (K3_4.out.alloc (.cells Z 35))
      have K5 := Lib.hid (at_new x4 Z 35)
      have hz := HXP.out
      go_upto_region 5 with (refine wpList_store_new (by rfl) 35 _ _ (by rfl) (by rfl) Z _ _ (by rfl) (by rfl) (by rw [ZS.out]; exact infoHdP) (by first | rfl | rw [ZS.out, ZS.out]) ZO.out ?_)
      clear hz
      obtain ⟨g5, hg⟩ : ∃ g, g = x4.heap.size := ⟨_, rfl⟩
      rw [← hg] at K5 ⊢
      have N35 : Hid (g5 ≠ g3) := Lib.hid (by rw [hg]; have a := lt3.out; omega)
      clear hg
      generalize (x4.alloc (.cells Z 35)) = y5 at *
      clear K3_4 G4
      go_upto_region 6 with (refine Mem.wpList_store_one (by rfl) 3 _ _ (by rfl) (by rfl) g3 0 (.int .i64 1) (by rfl) (by rfl) (by rfl) infoI64 _ 35 K3_5.out (by rw [US.out]; decide) ?_; intro ws hat ho hk; have K4 : Hid (At ws g3 M 35) := Lib.hid (by rw [SET.out] at hat; exact hat); have K6 := Lib.hid (at_keep K5.out ho N35.out); have GS : Hid (Below w1.heap.size w1 ws) := Lib.hid (hk _ _ G5.out G3GE.out); clear hat ho hk)
      have D0 : Hid (Below ws.heap.size ws ws.drew) := Lib.hid (Below.refl _ _).drew
      have AW := Lib.hid (AX.out.below GS.out AX.out.lt)
      refine wp_region_plan_in (fun x' => Below ws.heap.size ws x') (.take 0 (.take 1 (.sole 2 (.take 3 (.take 4 (.take 5 (.take 6 (.take 7 (.take 8 (.take 9 (.take 10 (.take 11 (.take 12 (.take 13 (.take 14 (.take 15 (.take 16 (.take 17 (.take 18 (.sole 19 (.take 20 (.take 21 .done)))))))))))))))))))))) (by kernel_rfl) (by kernel_rfl) (by kernel_rfl) D0.out ?_
      refine plan_row 35 _ g3 _ M 35 (by rfl) (by rfl) (by rfl) (by first | (with_reducible exact Mem.ev_const _ _) | (with_reducible exact Mem.ev_zero _ _ _) | (with_reducible (apply Eq.trans (Mem.ev_tmp _ _ _)); simp only [List.getD_cons_succ, List.getD_cons_zero] <;> rfl)) (fun w' hw' => K4.out.below hw' K4.out.lt) Try.underlying35 (by rfl) (by rw [AXS.out]; exact infoHdP) ?_
      (simp only [Act.put, List.setIfInBounds_toArray, List.set_cons_zero, List.set_cons_succ])
      refine plan_row 27 _ w.heap.size _ M 27 (by rfl) (by rfl) (by rfl) (by first | (with_reducible exact Mem.ev_const _ _) | (with_reducible exact Mem.ev_zero _ _ _) | (with_reducible (apply Eq.trans (Mem.ev_tmp _ _ _)); simp only [List.getD_cons_succ, List.getD_cons_zero] <;> rfl)) (fun w' hw' => AW.out.below hw' AW.out.lt) Try.underlying27 (by rfl) (by rw [AXS.out]; exact infoHdR) ?_
      (simp only [Act.put, List.setIfInBounds_toArray, List.set_cons_zero, List.set_cons_succ])
      refine plan_call 9 _ _ _ (by kernel_rfl) (by rfl) (by rfl) (by rfl) (by first | exact Mem.ev_none _ | (simp only [List.map_toArray, List.map_cons, List.map_nil, Mem.ev_tmp, List.getD_cons_succ, List.getD_cons_zero] <;> rfl)) ?_
      refine (TH.out _).mono ?_
      rintro e z2 ⟨rfl, hb2⟩
      have E2 : Hid (Below ws.heap.size ws z2) := Lib.hid (D0.out.trans (hb2.mono D0.out.size))
      clear hb2
      refine ⟨_, rfl, E2.out, ?_⟩
      (simp only [Act.put, List.setIfInBounds_toArray, List.set_cons_zero, List.set_cons_succ])
      refine plan_bin _ _ _ _ _ _ _ (.bool true) (by rfl) (by rfl) (by rfl) (by first | (with_reducible exact Mem.ev_const _ _) | (with_reducible exact Mem.ev_zero _ _ _) | (with_reducible (apply Eq.trans (Mem.ev_tmp _ _ _)); simp only [List.getD_cons_succ, List.getD_cons_zero] <;> rfl)) (by first | (with_reducible exact Mem.ev_const _ _) | (with_reducible exact Mem.ev_zero _ _ _) | (with_reducible (apply Eq.trans (Mem.ev_tmp _ _ _)); simp only [List.getD_cons_succ, List.getD_cons_zero] <;> rfl)) (fun wx => EQM.out _ _ wx) ?_
      (simp only [Act.put, List.setIfInBounds_toArray, List.set_cons_zero, List.set_cons_succ])
      (first | (refine plan_move _ _ (by rfl) (by rfl) (.inl (by rfl)) (by first | (with_reducible exact Mem.ev_const _ _) | (with_reducible exact Mem.ev_zero _ _ _) | (with_reducible (apply Eq.trans (Mem.ev_tmp _ _ _)); simp only [List.getD_cons_succ, List.getD_cons_zero] <;> rfl)) ?_) | (refine plan_move _ _ (by rfl) (by rfl) (.inr (by rfl)) (by first | (with_reducible exact Mem.ev_const _ _) | (with_reducible exact Mem.ev_zero _ _ _) | (with_reducible (apply Eq.trans (Mem.ev_tmp _ _ _)); simp only [List.getD_cons_succ, List.getD_cons_zero] <;> rfl)) ?_) | (refine plan_pick_t _ _ _ _ (by rfl) (by rfl) (by rfl) (by first | (with_reducible exact Mem.ev_const _ _) | (with_reducible exact Mem.ev_zero _ _ _) | (with_reducible (apply Eq.trans (Mem.ev_tmp _ _ _)); simp only [List.getD_cons_succ, List.getD_cons_zero] <;> rfl)) (by first | (with_reducible exact Mem.ev_const _ _) | (with_reducible exact Mem.ev_zero _ _ _) | (with_reducible (apply Eq.trans (Mem.ev_tmp _ _ _)); simp only [List.getD_cons_succ, List.getD_cons_zero] <;> rfl)) ?_) | (refine plan_pick_f _ _ _ _ (by rfl) (by rfl) (by rfl) (by first | (with_reducible exact Mem.ev_const _ _) | (with_reducible exact Mem.ev_zero _ _ _) | (with_reducible (apply Eq.trans (Mem.ev_tmp _ _ _)); simp only [List.getD_cons_succ, List.getD_cons_zero] <;> rfl)) (by first | (with_reducible exact Mem.ev_const _ _) | (with_reducible exact Mem.ev_zero _ _ _) | (with_reducible (apply Eq.trans (Mem.ev_tmp _ _ _)); simp only [List.getD_cons_succ, List.getD_cons_zero] <;> rfl)) ?_))
      (simp only [Act.put, List.setIfInBounds_toArray, List.set_cons_zero, List.set_cons_succ])
      refine plan_field 27 _ 0 w.heap.size 0 ⟨w.heap.size, 0, none⟩ (by rfl) (by rfl) (by rfl) (by first | (with_reducible exact Mem.ev_const _ _) | (with_reducible exact Mem.ev_zero _ _ _) | (with_reducible (apply Eq.trans (Mem.ev_tmp _ _ _)); simp only [List.getD_cons_succ, List.getD_cons_zero] <;> rfl)) (fun wx => by go_simp) ?_
      (simp only [Act.put, List.setIfInBounds_toArray, List.set_cons_zero, List.set_cons_succ])
      refine plan_cell 3 _ ⟨w.heap.size, 0, none⟩ (.int .i64 1) _ (by rfl) (by rfl) (by rfl) (by first | (with_reducible exact Mem.ev_const _ _) | (with_reducible exact Mem.ev_zero _ _ _) | (with_reducible (apply Eq.trans (Mem.ev_tmp _ _ _)); simp only [List.getD_cons_succ, List.getD_cons_zero] <;> rfl)) (fun w' hw' => ((AW.out.below hw' AW.out.lt).cell 0).trans CV.out) Try.underlying3 (by rfl) ?_
      (simp only [Act.put, List.setIfInBounds_toArray, List.set_cons_zero, List.set_cons_succ])
      refine plan_bin _ _ _ _ _ _ _ (.bool true) (by rfl) (by rfl) (by rfl) (by first | (with_reducible exact Mem.ev_const _ _) | (with_reducible exact Mem.ev_zero _ _ _) | (with_reducible (apply Eq.trans (Mem.ev_tmp _ _ _)); simp only [List.getD_cons_succ, List.getD_cons_zero] <;> rfl)) (by rfl) (fun wx => o_ieq _ _ _ _ _ wx) ?_
      (simp only [Act.put, List.setIfInBounds_toArray, List.set_cons_zero, List.set_cons_succ])
      refine plan_pick_t _ _ _ _ (by rfl) (by rfl) (by rfl) (by first | (with_reducible exact Mem.ev_const _ _) | (with_reducible exact Mem.ev_zero _ _ _) | (with_reducible (apply Eq.trans (Mem.ev_tmp _ _ _)); simp only [List.getD_cons_succ, List.getD_cons_zero] <;> rfl)) (by first | (with_reducible exact Mem.ev_const _ _) | (with_reducible exact Mem.ev_zero _ _ _) | (with_reducible (apply Eq.trans (Mem.ev_tmp _ _ _)); simp only [List.getD_cons_succ, List.getD_cons_zero] <;> rfl)) ?_
      (simp only [Act.put, List.setIfInBounds_toArray, List.set_cons_zero, List.set_cons_succ])
      (first | (refine plan_move _ _ (by rfl) (by rfl) (.inl (by rfl)) (by first | (with_reducible exact Mem.ev_const _ _) | (with_reducible exact Mem.ev_zero _ _ _) | (with_reducible (apply Eq.trans (Mem.ev_tmp _ _ _)); simp only [List.getD_cons_succ, List.getD_cons_zero] <;> rfl)) ?_) | (refine plan_move _ _ (by rfl) (by rfl) (.inr (by rfl)) (by first | (with_reducible exact Mem.ev_const _ _) | (with_reducible exact Mem.ev_zero _ _ _) | (with_reducible (apply Eq.trans (Mem.ev_tmp _ _ _)); simp only [List.getD_cons_succ, List.getD_cons_zero] <;> rfl)) ?_) | (refine plan_pick_t _ _ _ _ (by rfl) (by rfl) (by rfl) (by first | (with_reducible exact Mem.ev_const _ _) | (with_reducible exact Mem.ev_zero _ _ _) | (with_reducible (apply Eq.trans (Mem.ev_tmp _ _ _)); simp only [List.getD_cons_succ, List.getD_cons_zero] <;> rfl)) (by first | (with_reducible exact Mem.ev_const _ _) | (with_reducible exact Mem.ev_zero _ _ _) | (with_reducible (apply Eq.trans (Mem.ev_tmp _ _ _)); simp only [List.getD_cons_succ, List.getD_cons_zero] <;> rfl)) ?_) | (refine plan_pick_f _ _ _ _ (by rfl) (by rfl) (by rfl) (by first | (with_reducible exact Mem.ev_const _ _) | (with_reducible exact Mem.ev_zero _ _ _) | (with_reducible (apply Eq.trans (Mem.ev_tmp _ _ _)); simp only [List.getD_cons_succ, List.getD_cons_zero] <;> rfl)) (by first | (with_reducible exact Mem.ev_const _ _) | (with_reducible exact Mem.ev_zero _ _ _) | (with_reducible (apply Eq.trans (Mem.ev_tmp _ _ _)); simp only [List.getD_cons_succ, List.getD_cons_zero] <;> rfl)) ?_))
      (simp only [Act.put, List.setIfInBounds_toArray, List.set_cons_zero, List.set_cons_succ])
      refine plan_row 35 _ g5 _ Z 35 (by rfl) (by rfl) (by rfl) (by first | (with_reducible exact Mem.ev_const _ _) | (with_reducible exact Mem.ev_zero _ _ _) | (with_reducible (apply Eq.trans (Mem.ev_tmp _ _ _)); simp only [List.getD_cons_succ, List.getD_cons_zero] <;> rfl)) (fun w' hw' => K6.out.below hw' K6.out.lt) Try.underlying35 (by rfl) (by rw [ZS.out]; exact infoHdP) ?_
      (simp only [Act.put, List.setIfInBounds_toArray, List.set_cons_zero, List.set_cons_succ])
      refine plan_build _ _ #[] (.agg Z) (by rfl) (by rfl) (by rfl) (by first | rfl | simp) BN.out ?_
      (simp only [Act.put, List.setIfInBounds_toArray, List.set_cons_zero, List.set_cons_succ])
      refine plan_bin _ _ _ _ _ _ _ (.bool true) (by rfl) (by rfl) (by rfl) (by first | (with_reducible exact Mem.ev_const _ _) | (with_reducible exact Mem.ev_zero _ _ _) | (with_reducible (apply Eq.trans (Mem.ev_tmp _ _ _)); simp only [List.getD_cons_succ, List.getD_cons_zero] <;> rfl)) (by first | (with_reducible exact Mem.ev_const _ _) | (with_reducible exact Mem.ev_zero _ _ _) | (with_reducible (apply Eq.trans (Mem.ev_tmp _ _ _)); simp only [List.getD_cons_succ, List.getD_cons_zero] <;> rfl)) (fun wx => EQZ.out _ _ wx) ?_
      (simp only [Act.put, List.setIfInBounds_toArray, List.set_cons_zero, List.set_cons_succ])
      refine plan_pick_t _ _ _ _ (by rfl) (by rfl) (by rfl) (by first | (with_reducible exact Mem.ev_const _ _) | (with_reducible exact Mem.ev_zero _ _ _) | (with_reducible (apply Eq.trans (Mem.ev_tmp _ _ _)); simp only [List.getD_cons_succ, List.getD_cons_zero] <;> rfl)) (by first | (with_reducible exact Mem.ev_const _ _) | (with_reducible exact Mem.ev_zero _ _ _) | (with_reducible (apply Eq.trans (Mem.ev_tmp _ _ _)); simp only [List.getD_cons_succ, List.getD_cons_zero] <;> rfl)) ?_
      (simp only [Act.put, List.setIfInBounds_toArray, List.set_cons_zero, List.set_cons_succ])
      (first | (refine plan_move _ _ (by rfl) (by rfl) (.inl (by rfl)) (by first | (with_reducible exact Mem.ev_const _ _) | (with_reducible exact Mem.ev_zero _ _ _) | (with_reducible (apply Eq.trans (Mem.ev_tmp _ _ _)); simp only [List.getD_cons_succ, List.getD_cons_zero] <;> rfl)) ?_) | (refine plan_move _ _ (by rfl) (by rfl) (.inr (by rfl)) (by first | (with_reducible exact Mem.ev_const _ _) | (with_reducible exact Mem.ev_zero _ _ _) | (with_reducible (apply Eq.trans (Mem.ev_tmp _ _ _)); simp only [List.getD_cons_succ, List.getD_cons_zero] <;> rfl)) ?_) | (refine plan_pick_t _ _ _ _ (by rfl) (by rfl) (by rfl) (by first | (with_reducible exact Mem.ev_const _ _) | (with_reducible exact Mem.ev_zero _ _ _) | (with_reducible (apply Eq.trans (Mem.ev_tmp _ _ _)); simp only [List.getD_cons_succ, List.getD_cons_zero] <;> rfl)) (by first | (with_reducible exact Mem.ev_const _ _) | (with_reducible exact Mem.ev_zero _ _ _) | (with_reducible (apply Eq.trans (Mem.ev_tmp _ _ _)); simp only [List.getD_cons_succ, List.getD_cons_zero] <;> rfl)) ?_) | (refine plan_pick_f _ _ _ _ (by rfl) (by rfl) (by rfl) (by first | (with_reducible exact Mem.ev_const _ _) | (with_reducible exact Mem.ev_zero _ _ _) | (with_reducible (apply Eq.trans (Mem.ev_tmp _ _ _)); simp only [List.getD_cons_succ, List.getD_cons_zero] <;> rfl)) (by first | (with_reducible exact Mem.ev_const _ _) | (with_reducible exact Mem.ev_zero _ _ _) | (with_reducible (apply Eq.trans (Mem.ev_tmp _ _ _)); simp only [List.getD_cons_succ, List.getD_cons_zero] <;> rfl)) ?_))
      (simp only [Act.put, List.setIfInBounds_toArray, List.set_cons_zero, List.set_cons_succ])
      (first | (refine plan_move _ _ (by rfl) (by rfl) (.inl (by rfl)) (by first | (with_reducible exact Mem.ev_const _ _) | (with_reducible exact Mem.ev_zero _ _ _) | (with_reducible (apply Eq.trans (Mem.ev_tmp _ _ _)); simp only [List.getD_cons_succ, List.getD_cons_zero] <;> rfl)) ?_) | (refine plan_move _ _ (by rfl) (by rfl) (.inr (by rfl)) (by first | (with_reducible exact Mem.ev_const _ _) | (with_reducible exact Mem.ev_zero _ _ _) | (with_reducible (apply Eq.trans (Mem.ev_tmp _ _ _)); simp only [List.getD_cons_succ, List.getD_cons_zero] <;> rfl)) ?_) | (refine plan_pick_t _ _ _ _ (by rfl) (by rfl) (by rfl) (by first | (with_reducible exact Mem.ev_const _ _) | (with_reducible exact Mem.ev_zero _ _ _) | (with_reducible (apply Eq.trans (Mem.ev_tmp _ _ _)); simp only [List.getD_cons_succ, List.getD_cons_zero] <;> rfl)) (by first | (with_reducible exact Mem.ev_const _ _) | (with_reducible exact Mem.ev_zero _ _ _) | (with_reducible (apply Eq.trans (Mem.ev_tmp _ _ _)); simp only [List.getD_cons_succ, List.getD_cons_zero] <;> rfl)) ?_) | (refine plan_pick_f _ _ _ _ (by rfl) (by rfl) (by rfl) (by first | (with_reducible exact Mem.ev_const _ _) | (with_reducible exact Mem.ev_zero _ _ _) | (with_reducible (apply Eq.trans (Mem.ev_tmp _ _ _)); simp only [List.getD_cons_succ, List.getD_cons_zero] <;> rfl)) (by first | (with_reducible exact Mem.ev_const _ _) | (with_reducible exact Mem.ev_zero _ _ _) | (with_reducible (apply Eq.trans (Mem.ev_tmp _ _ _)); simp only [List.getD_cons_succ, List.getD_cons_zero] <;> rfl)) ?_))
      (simp only [Act.put, List.setIfInBounds_toArray, List.set_cons_zero, List.set_cons_succ])
      refine plan_bin _ _ _ _ _ _ _ (.bool true) (by rfl) (by rfl) (by rfl) (by first | (with_reducible exact Mem.ev_const _ _) | (with_reducible exact Mem.ev_zero _ _ _) | (with_reducible (apply Eq.trans (Mem.ev_tmp _ _ _)); simp only [List.getD_cons_succ, List.getD_cons_zero] <;> rfl)) (by rfl) (fun wx => o_ieq _ _ _ _ _ wx) ?_
      (simp only [Act.put, List.setIfInBounds_toArray, List.set_cons_zero, List.set_cons_succ])
      refine plan_pick_t _ _ _ _ (by rfl) (by rfl) (by rfl) (by first | (with_reducible exact Mem.ev_const _ _) | (with_reducible exact Mem.ev_zero _ _ _) | (with_reducible (apply Eq.trans (Mem.ev_tmp _ _ _)); simp only [List.getD_cons_succ, List.getD_cons_zero] <;> rfl)) (by first | (with_reducible exact Mem.ev_const _ _) | (with_reducible exact Mem.ev_zero _ _ _) | (with_reducible (apply Eq.trans (Mem.ev_tmp _ _ _)); simp only [List.getD_cons_succ, List.getD_cons_zero] <;> rfl)) ?_
      (simp only [Act.put, List.setIfInBounds_toArray, List.set_cons_zero, List.set_cons_succ])
      (first | (refine plan_move _ _ (by rfl) (by rfl) (.inl (by rfl)) (by first | (with_reducible exact Mem.ev_const _ _) | (with_reducible exact Mem.ev_zero _ _ _) | (with_reducible (apply Eq.trans (Mem.ev_tmp _ _ _)); simp only [List.getD_cons_succ, List.getD_cons_zero] <;> rfl)) ?_) | (refine plan_move _ _ (by rfl) (by rfl) (.inr (by rfl)) (by first | (with_reducible exact Mem.ev_const _ _) | (with_reducible exact Mem.ev_zero _ _ _) | (with_reducible (apply Eq.trans (Mem.ev_tmp _ _ _)); simp only [List.getD_cons_succ, List.getD_cons_zero] <;> rfl)) ?_) | (refine plan_pick_t _ _ _ _ (by rfl) (by rfl) (by rfl) (by first | (with_reducible exact Mem.ev_const _ _) | (with_reducible exact Mem.ev_zero _ _ _) | (with_reducible (apply Eq.trans (Mem.ev_tmp _ _ _)); simp only [List.getD_cons_succ, List.getD_cons_zero] <;> rfl)) (by first | (with_reducible exact Mem.ev_const _ _) | (with_reducible exact Mem.ev_zero _ _ _) | (with_reducible (apply Eq.trans (Mem.ev_tmp _ _ _)); simp only [List.getD_cons_succ, List.getD_cons_zero] <;> rfl)) ?_) | (refine plan_pick_f _ _ _ _ (by rfl) (by rfl) (by rfl) (by first | (with_reducible exact Mem.ev_const _ _) | (with_reducible exact Mem.ev_zero _ _ _) | (with_reducible (apply Eq.trans (Mem.ev_tmp _ _ _)); simp only [List.getD_cons_succ, List.getD_cons_zero] <;> rfl)) (by first | (with_reducible exact Mem.ev_const _ _) | (with_reducible exact Mem.ev_zero _ _ _) | (with_reducible (apply Eq.trans (Mem.ev_tmp _ _ _)); simp only [List.getD_cons_succ, List.getD_cons_zero] <;> rfl)) ?_))
      (simp only [Act.put, List.setIfInBounds_toArray, List.set_cons_zero, List.set_cons_succ])
      refine plan_call 7 _ _ _ (by kernel_rfl) (by rfl) (by rfl) (by rfl) (by first | exact Mem.ev_none _ | (simp only [List.map_toArray, List.map_cons, List.map_nil, Mem.ev_tmp, List.getD_cons_succ, List.getD_cons_zero] <;> rfl)) ?_
      refine (AL.out _).mono ?_
      rintro e z19 ⟨rfl, hb19⟩
      have E19 : Hid (Below ws.heap.size ws z19) := Lib.hid (E2.out.trans (hb19.mono E2.out.size))
      clear hb19
      refine ⟨_, rfl, E19.out, ?_⟩
      (simp only [Act.put, List.setIfInBounds_toArray, List.set_cons_zero, List.set_cons_succ])
      refine plan_pick_t _ _ _ _ (by rfl) (by rfl) (by rfl) (by first | (with_reducible exact Mem.ev_const _ _) | (with_reducible exact Mem.ev_zero _ _ _) | (with_reducible (apply Eq.trans (Mem.ev_tmp _ _ _)); simp only [List.getD_cons_succ, List.getD_cons_zero] <;> rfl)) (by first | (with_reducible exact Mem.ev_const _ _) | (with_reducible exact Mem.ev_zero _ _ _) | (with_reducible (apply Eq.trans (Mem.ev_tmp _ _ _)); simp only [List.getD_cons_succ, List.getD_cons_zero] <;> rfl)) ?_
      (simp only [Act.put, List.setIfInBounds_toArray, List.set_cons_zero, List.set_cons_succ])
      (first | (refine plan_move _ _ (by rfl) (by rfl) (.inl (by rfl)) (by first | (with_reducible exact Mem.ev_const _ _) | (with_reducible exact Mem.ev_zero _ _ _) | (with_reducible (apply Eq.trans (Mem.ev_tmp _ _ _)); simp only [List.getD_cons_succ, List.getD_cons_zero] <;> rfl)) ?_) | (refine plan_move _ _ (by rfl) (by rfl) (.inr (by rfl)) (by first | (with_reducible exact Mem.ev_const _ _) | (with_reducible exact Mem.ev_zero _ _ _) | (with_reducible (apply Eq.trans (Mem.ev_tmp _ _ _)); simp only [List.getD_cons_succ, List.getD_cons_zero] <;> rfl)) ?_) | (refine plan_pick_t _ _ _ _ (by rfl) (by rfl) (by rfl) (by first | (with_reducible exact Mem.ev_const _ _) | (with_reducible exact Mem.ev_zero _ _ _) | (with_reducible (apply Eq.trans (Mem.ev_tmp _ _ _)); simp only [List.getD_cons_succ, List.getD_cons_zero] <;> rfl)) (by first | (with_reducible exact Mem.ev_const _ _) | (with_reducible exact Mem.ev_zero _ _ _) | (with_reducible (apply Eq.trans (Mem.ev_tmp _ _ _)); simp only [List.getD_cons_succ, List.getD_cons_zero] <;> rfl)) ?_) | (refine plan_pick_f _ _ _ _ (by rfl) (by rfl) (by rfl) (by first | (with_reducible exact Mem.ev_const _ _) | (with_reducible exact Mem.ev_zero _ _ _) | (with_reducible (apply Eq.trans (Mem.ev_tmp _ _ _)); simp only [List.getD_cons_succ, List.getD_cons_zero] <;> rfl)) (by first | (with_reducible exact Mem.ev_const _ _) | (with_reducible exact Mem.ev_zero _ _ _) | (with_reducible (apply Eq.trans (Mem.ev_tmp _ _ _)); simp only [List.getD_cons_succ, List.getD_cons_zero] <;> rfl)) ?_))
      (simp only [Act.put, List.setIfInBounds_toArray, List.set_cons_zero, List.set_cons_succ])
      refine plan_nil ?_
      go_wp2_with fail
      go_ret
      exact ⟨rfl, B1.out.trans ((GS.out.trans (E19.out.mono GS.out.size)).mono B1.out.size)⟩
end Sha
end Go.Proofs.Ytbnjihpafipbnaa
