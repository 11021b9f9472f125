/- Layer 11, HeadBack: what is laid is parsed; what is parsed is laid as the same bytes. -/
import Derived.Test.YtbnjihpafipbnaaCL
import Derived.Deep.DeepCutAuto
namespace Go.Proofs.Ytbnjihpafipbnaa
namespace Sha
open Go.RowKit Mem
set_option maxRecDepth 100000
set_option maxHeartbeats 16000000 in
theorem back11_core (h : HdV) (hw : h.Wf) (b : List (BitVec 8)) (v : Value) (w : World) (hv : Sl w v b) : Calls Try.prog 5 #[.agg (hdC h), v] w fun e w' => e = .returned (.bool true) ∧ Below w.heap.size w w' := by
  have al := fun wx => alive11_any wx
  obtain ⟨a0, c0, rfl⟩ := sl_hdw hv
  obtain ⟨n, hn⟩ : ∃ n, n = b.length := ⟨_, rfl⟩
  rw [← hn] at hv ⊢
  obtain ⟨M, hM⟩ : ∃ M, M = hdC h := ⟨_, rfl⟩
  have ms : M.size = 84 := by rw [hM]; exact hdC_size hw
  have mo : M.all (·.oneCell') = true := by rw [hM]; exact hdC_one _
  have cl := hd_lab hw
  have hss := hd_strsize h
  have cv := hd_ver h
  obtain ⟨S, hS⟩ : ∃ S, S = strOfNums (i8s h.lab) := ⟨_, rfl⟩
  rw [← hM] at cl cv
  rw [← hS] at cl hss
  have th := fun wx => theirs11_any h hw wx
  rw [← hM] at th ⊢
  obtain ⟨w1, hw1⟩ : ∃ w1, w1 = w.alloc (.cells M 27) := ⟨_, rfl⟩
  have ax : At w1 w.heap.size M 27 := by rw [hw1]; exact at_new w _ _
  have b1 : Below w.heap.size w w1 := by rw [hw1]; exact (Below.refl _ _).alloc (Nat.le_refl _) _
  have AX := Lib.hid ax; have B1 := Lib.hid b1
  have HV := Lib.hid (hv.below b1); have AL := Lib.hid al
  clear ax b1 hv al
  by_cases hbig : 500 < S.size
  · have g : (500 : Int) < (S.size : Int) := by omega
    have c83 := (AX.out.cell 83).trans cl
    clear hbig hn  hM hS hw ms mo cl cv th hss
    go_enter Try.func5, Try.ntmps5
    go_upto_region 1 with fail
    rw [← hw1]
    clear hw1
    have G0 := Lib.hid (Below.refl w1.heap.size w1)
    go_wp2_with fail
    refine (AL.out _).mono ?_
    rintro e x9 ⟨rfl, hb9⟩
    have G9 : Hid (Below w1.heap.size w1 x9) := Lib.hid (G0.out.trans (hb9.mono G0.out.size))
    clear hb9
    go_wp2_with fail
    go_ret
    exact ⟨rfl, B1.out.trans (G9.out.mono B1.out.size)⟩
  have g : ¬ (500 : Int) < (S.size : Int) := by omega
  have c83 := (AX.out.cell 83).trans cl
  by_cases hbb : 600 < n
  · have g2 : (600 : Int) < (n : Int) := by omega
    clear hbig hbb hn  hM hS hw ms mo cl cv th hss
    go_enter Try.func5, Try.ntmps5
    go_upto_region 1 with fail
    rw [← hw1]
    clear hw1
    have G0 := Lib.hid (Below.refl w1.heap.size w1)
    go_wp2_with fail
    refine (AL.out _).mono ?_
    rintro e x9 ⟨rfl, hb9⟩
    have G9 : Hid (Below w1.heap.size w1 x9) := Lib.hid (G0.out.trans (hb9.mono G0.out.size))
    clear hb9
    go_wp2_with fail
    go_ret
    exact ⟨rfl, B1.out.trans (G9.out.mono B1.out.size)⟩
  have g2 : ¬ (600 : Int) < (n : Int) := by omega
  have pb := fun wx (hs : Sl wx (.slice a0 n c0) b) => pparse11_any b (.slice a0 n c0) wx hs (by omega)
  have lg := fun hm wx => play11_good h hw hm wx
  have lb := fun hm wx => play11_bad h hw hm wx
  have ph := fun (hm : mayH h = true) v wx (hs : Sl wx v (layH h)) => by
    have h1 := pparse11_any (layH h) v wx hs (by rw [layH_length hw (((mayH_iff h).1 hm).2.2.2.2.2.2)]; decide)
    rw [parse_lay h hw hm] at h1
    exact h1
  simp only at ph
  have llen := fun (hm : mayH h = true) => layH_length hw (((mayH_iff h).1 hm).2.2.2.2.2.2)
  have nem := fun x y wx => neqHP hw hw x y wx
  rw [sameHd_self, Bool.not_true] at nem
  obtain ⟨m, hm⟩ : ∃ m, m = mayH h := ⟨_, rfl⟩
  rw [← hm] at lg lb ph llen
  obtain ⟨LH, hLH⟩ : ∃ B, B = layH h := ⟨_, rfl⟩
  rw [← hM, ← hLH] at lg
  rw [← hM] at lb nem
  rw [← hM, ← hLH] at ph
  rw [← hLH] at llen
  obtain ⟨Z, hZ⟩ : ∃ Z, Z = hdC zhd := ⟨_, rfl⟩
  have zs : Z.size = 84 := by rw [hZ]; exact hdC_size zhd_wf
  have hxp : ∀ w, (zeroValue 35).run Try.prog w = .ok (.agg Z) w := by rw [hZ]; exact zeroHdP
  have hxr : ∀ w, (zeroValue 27).run Try.prog w = .ok (.agg Z) w := by rw [hZ]; exact zeroHdR
  have ZS := Lib.hid zs; have HXP := Lib.hid hxp; have HXR := Lib.hid hxr
  have zo : Z.all (·.oneCell') = true := by rw [hZ]; exact hdC_one _
  have eqz := fun x y wx => eqlHP zhd_wf zhd_wf x y wx
  rw [sameHd_self, ← hZ] at eqz
  have bn : ∀ w, (Instr.build 35 #[]).run Try.prog w = .ok (.agg Z) w := by rw [hZ]; exact buildHP0
  have AXS := Lib.hid ms; have MO := Lib.hid mo; have TH := Lib.hid th; have NEM := Lib.hid nem; have ZO := Lib.hid zo; have EQZ := Lib.hid eqz; have BN := Lib.hid bn; have LG := Lib.hid lg; have LB := Lib.hid lb; have PH := Lib.hid ph; have LLEN := Lib.hid llen
  clear hM hS hw ms mo cl cv th hss nem lg lb ph llen hm hLH zs zo hxp hxr eqz bn
  by_cases hq : (parseH b).2 = 0
  · obtain ⟨lb6, e1, e2, e3⟩ := parseH_good b hq
    have wf := hdOf_wf b lb6
    have lf := fun wx => play11_good (hdOf b) wf e2 wx
    rw [e3] at lf
    have mf := fun wx => pmay11_any (hdOf b) wf wx
    rw [e2] at mf
    rw [hq, e1] at pb
    obtain ⟨F, hF⟩ : ∃ F, F = hdC (hdOf b) := ⟨_, rfl⟩
    have fs : F.size = 84 := by rw [hF]; exact hdC_size wf
    have fo : F.all (·.oneCell') = true := by rw [hF]; exact hdC_one _
    rw [← hF] at lf mf pb
    have lf2 := fun wx => (lf wx).mono fun e w' ⟨g, he, ha, _, hb⟩ => (show TwoEnd wx b 0 e w' from ⟨_, he, at_sl ha rfl, hb⟩)
    have PB := Lib.hid pb; have LF := Lib.hid lf2; have MF := Lib.hid mf; have FS := Lib.hid fs; have FO := Lib.hid fo; have BLE := Lib.hid (show b.length ≤ 9223372036854775807 by omega)
    clear hbig hbb hn hq lb6 e1 e2 e3 wf lf lf2 mf pb fs fo hF hZ
    cases m with
    | true =>
      have LG1 := Lib.hid (LG.out rfl); have PH1 := Lib.hid (PH.out rfl); have LH6 := Lib.hid (LLEN.out rfl)
      clear LG LB PH LLEN
      go_enter Try.func5, Try.ntmps5
      go_upto_region 1 with fail
      rw [← hw1]
      clear hw1
      have G0 := Lib.hid (Below.refl w1.heap.size w1)
      go_wp2_with (first
        | (refine wpList_load_wanted (by rfl) 27 _ (by rfl) w.heap.size (by rfl) _ Try.underlying27 (by rfl) M _ (AX.out.below G0.out AX.out.lt) (by rw [AXS.out]; exact infoHdR) ?_))
      refine (TH.out _).mono ?_
      rintro e x1 ⟨rfl, hb⟩
      have G1 : Hid (Below w1.heap.size w1 x1) := Lib.hid (G0.out.trans (hb.mono G0.out.size))
      clear hb
      clear G0
      go_wp2_with (first
        | (refine wpList_load_wanted (by rfl) 27 _ (by rfl) w.heap.size (by rfl) _ Try.underlying27 (by rfl) M _ (AX.out.below G1.out AX.out.lt) (by rw [AXS.out]; exact infoHdR) ?_))
      refine (LG1.out _).mono ?_
      rintro e x2 ⟨gl, rfl, ha, _, hb⟩
      rw [LH6.out]
      have T5 := Lib.hid (at_sl ha LH6.out)
      have G2 : Hid (Below w1.heap.size w1 x2) := Lib.hid (G1.out.trans (hb.mono G1.out.size))
      clear ha hb G1
      go_wp2_with (first
        | (refine wpList_load_wanted (by rfl) 27 _ (by rfl) w.heap.size (by rfl) _ Try.underlying27 (by rfl) M _ (AX.out.below G2.out AX.out.lt) (by rw [AXS.out]; exact infoHdR) ?_))
      refine (PH1.out _ _ T5.out).mono ?_
      rintro e x3 ⟨rfl, hb⟩
      have G3 : Hid (Below w1.heap.size w1 x3) := Lib.hid (G2.out.trans (hb.mono G2.out.size))
      have T5_3 := Lib.hid (T5.out.below hb)
      clear hb
      clear T5 G2
      have T5_4 := Lib.hid (T5_3.out.below ((Below.refl _ _).alloc (Nat.le_refl _) (.cells M 35)))
      have G4 : Hid (Below w1.heap.size w1 (x3.alloc (.cells M 35))) := Lib.hid (G3.out.alloc G3.out.size _)
      have K7 := Lib.hid (at_new x3 M 35)
      have hz := HXP.out
      go_upto_region 6 with (refine wpList_store_new (by rfl) 35 _ _ (by rfl) (by rfl) M _ _ (by rfl) (by rfl) (by rw [AXS.out]; exact infoHdP) (by first | rfl | rw [AXS.out, ZS.out]) MO.out ?_)
      clear hz
      obtain ⟨g4, hg⟩ : ∃ g, g = x3.heap.size := ⟨_, rfl⟩
      rw [← hg] at K7 ⊢
      clear hg
      generalize (x3.alloc (.cells M 35)) = y4 at *
      clear T5_3 G3
      have D0 : Hid (Below y4.heap.size y4 y4.drew) := Lib.hid (Below.refl _ _).drew
      have AW := Lib.hid (AX.out.below G4.out AX.out.lt)
      refine wp_region_plan_in (fun x' => Below y4.heap.size y4 x') (.take 0 (.take 1 (.take 2 (.take 3 (.take 4 (.sole 5 (.take 6 (.take 7 .done)))))))) (by kernel_rfl) (by kernel_rfl) (by kernel_rfl) D0.out ?_
      (first | (refine plan_move _ _ (by rfl) (by rfl) (.inl (by rfl)) (by first | (with_reducible exact Mem.ev_const _ _) | (with_reducible exact Mem.ev_zero _ _ _) | (with_reducible (apply Eq.trans (Mem.ev_tmp _ _ _)); simp only [List.getD_cons_succ, List.getD_cons_zero] <;> rfl)) ?_) | (refine plan_move _ _ (by rfl) (by rfl) (.inr (by rfl)) (by first | (with_reducible exact Mem.ev_const _ _) | (with_reducible exact Mem.ev_zero _ _ _) | (with_reducible (apply Eq.trans (Mem.ev_tmp _ _ _)); simp only [List.getD_cons_succ, List.getD_cons_zero] <;> rfl)) ?_) | (refine plan_pick_t _ _ _ _ (by rfl) (by rfl) (by rfl) (by first | (with_reducible exact Mem.ev_const _ _) | (with_reducible exact Mem.ev_zero _ _ _) | (with_reducible (apply Eq.trans (Mem.ev_tmp _ _ _)); simp only [List.getD_cons_succ, List.getD_cons_zero] <;> rfl)) (by first | (with_reducible exact Mem.ev_const _ _) | (with_reducible exact Mem.ev_zero _ _ _) | (with_reducible (apply Eq.trans (Mem.ev_tmp _ _ _)); simp only [List.getD_cons_succ, List.getD_cons_zero] <;> rfl)) ?_) | (refine plan_pick_f _ _ _ _ (by rfl) (by rfl) (by rfl) (by first | (with_reducible exact Mem.ev_const _ _) | (with_reducible exact Mem.ev_zero _ _ _) | (with_reducible (apply Eq.trans (Mem.ev_tmp _ _ _)); simp only [List.getD_cons_succ, List.getD_cons_zero] <;> rfl)) (by first | (with_reducible exact Mem.ev_const _ _) | (with_reducible exact Mem.ev_zero _ _ _) | (with_reducible (apply Eq.trans (Mem.ev_tmp _ _ _)); simp only [List.getD_cons_succ, List.getD_cons_zero] <;> rfl)) ?_))
      (simp only [Act.put, List.setIfInBounds_toArray, List.set_cons_zero, List.set_cons_succ])
      refine plan_bin _ _ _ _ _ _ _ (.bool false) (by rfl) (by rfl) (by rfl) (by first | (with_reducible exact Mem.ev_const _ _) | (with_reducible exact Mem.ev_zero _ _ _) | (with_reducible (apply Eq.trans (Mem.ev_tmp _ _ _)); simp only [List.getD_cons_succ, List.getD_cons_zero] <;> rfl)) (by rfl) (fun wx => o_ine _ _ _ _ _ wx) ?_
      (simp only [Act.put, List.setIfInBounds_toArray, List.set_cons_zero, List.set_cons_succ])
      (first | (refine plan_move _ _ (by rfl) (by rfl) (.inl (by rfl)) (by first | (with_reducible exact Mem.ev_const _ _) | (with_reducible exact Mem.ev_zero _ _ _) | (with_reducible (apply Eq.trans (Mem.ev_tmp _ _ _)); simp only [List.getD_cons_succ, List.getD_cons_zero] <;> rfl)) ?_) | (refine plan_move _ _ (by rfl) (by rfl) (.inr (by rfl)) (by first | (with_reducible exact Mem.ev_const _ _) | (with_reducible exact Mem.ev_zero _ _ _) | (with_reducible (apply Eq.trans (Mem.ev_tmp _ _ _)); simp only [List.getD_cons_succ, List.getD_cons_zero] <;> rfl)) ?_) | (refine plan_pick_t _ _ _ _ (by rfl) (by rfl) (by rfl) (by first | (with_reducible exact Mem.ev_const _ _) | (with_reducible exact Mem.ev_zero _ _ _) | (with_reducible (apply Eq.trans (Mem.ev_tmp _ _ _)); simp only [List.getD_cons_succ, List.getD_cons_zero] <;> rfl)) (by first | (with_reducible exact Mem.ev_const _ _) | (with_reducible exact Mem.ev_zero _ _ _) | (with_reducible (apply Eq.trans (Mem.ev_tmp _ _ _)); simp only [List.getD_cons_succ, List.getD_cons_zero] <;> rfl)) ?_) | (refine plan_pick_f _ _ _ _ (by rfl) (by rfl) (by rfl) (by first | (with_reducible exact Mem.ev_const _ _) | (with_reducible exact Mem.ev_zero _ _ _) | (with_reducible (apply Eq.trans (Mem.ev_tmp _ _ _)); simp only [List.getD_cons_succ, List.getD_cons_zero] <;> rfl)) (by first | (with_reducible exact Mem.ev_const _ _) | (with_reducible exact Mem.ev_zero _ _ _) | (with_reducible (apply Eq.trans (Mem.ev_tmp _ _ _)); simp only [List.getD_cons_succ, List.getD_cons_zero] <;> rfl)) ?_))
      (simp only [Act.put, List.setIfInBounds_toArray, List.set_cons_zero, List.set_cons_succ])
      refine plan_row 35 _ g4 _ M 35 (by rfl) (by rfl) (by rfl) (by first | (with_reducible exact Mem.ev_const _ _) | (with_reducible exact Mem.ev_zero _ _ _) | (with_reducible (apply Eq.trans (Mem.ev_tmp _ _ _)); simp only [List.getD_cons_succ, List.getD_cons_zero] <;> rfl)) (fun w' hw' => K7.out.below hw' K7.out.lt) Try.underlying35 (by rfl) (by rw [AXS.out]; exact infoHdP) ?_
      (simp only [Act.put, List.setIfInBounds_toArray, List.set_cons_zero, List.set_cons_succ])
      refine plan_row 27 _ w.heap.size _ M 27 (by rfl) (by rfl) (by rfl) (by first | (with_reducible exact Mem.ev_const _ _) | (with_reducible exact Mem.ev_zero _ _ _) | (with_reducible (apply Eq.trans (Mem.ev_tmp _ _ _)); simp only [List.getD_cons_succ, List.getD_cons_zero] <;> rfl)) (fun w' hw' => AW.out.below hw' AW.out.lt) Try.underlying27 (by rfl) (by rw [AXS.out]; exact infoHdR) ?_
      (simp only [Act.put, List.setIfInBounds_toArray, List.set_cons_zero, List.set_cons_succ])
      refine plan_call 9 _ _ _ (by kernel_rfl) (by rfl) (by rfl) (by rfl) (by first | exact Mem.ev_none _ | (simp only [List.map_toArray, List.map_cons, List.map_nil, Mem.ev_tmp, List.getD_cons_succ, List.getD_cons_zero] <;> rfl)) ?_
      refine (TH.out _).mono ?_
      rintro e z5 ⟨rfl, hb5⟩
      have E5 : Hid (Below y4.heap.size y4 z5) := Lib.hid (D0.out.trans (hb5.mono D0.out.size))
      clear hb5
      refine ⟨_, rfl, E5.out, ?_⟩
      (simp only [Act.put, List.setIfInBounds_toArray, List.set_cons_zero, List.set_cons_succ])
      refine plan_bin _ _ _ _ _ _ _ (.bool false) (by rfl) (by rfl) (by rfl) (by first | (with_reducible exact Mem.ev_const _ _) | (with_reducible exact Mem.ev_zero _ _ _) | (with_reducible (apply Eq.trans (Mem.ev_tmp _ _ _)); simp only [List.getD_cons_succ, List.getD_cons_zero] <;> rfl)) (by first | (with_reducible exact Mem.ev_const _ _) | (with_reducible exact Mem.ev_zero _ _ _) | (with_reducible (apply Eq.trans (Mem.ev_tmp _ _ _)); simp only [List.getD_cons_succ, List.getD_cons_zero] <;> rfl)) (fun wx => NEM.out _ _ wx) ?_
      (simp only [Act.put, List.setIfInBounds_toArray, List.set_cons_zero, List.set_cons_succ])
      refine plan_pick_f _ _ _ _ (by rfl) (by rfl) (by rfl) (by first | (with_reducible exact Mem.ev_const _ _) | (with_reducible exact Mem.ev_zero _ _ _) | (with_reducible (apply Eq.trans (Mem.ev_tmp _ _ _)); simp only [List.getD_cons_succ, List.getD_cons_zero] <;> rfl)) (by first | (with_reducible exact Mem.ev_const _ _) | (with_reducible exact Mem.ev_zero _ _ _) | (with_reducible (apply Eq.trans (Mem.ev_tmp _ _ _)); simp only [List.getD_cons_succ, List.getD_cons_zero] <;> rfl)) ?_
      (simp only [Act.put, List.setIfInBounds_toArray, List.set_cons_zero, List.set_cons_succ])
      refine plan_nil ?_
      have GX : Hid (Below w1.heap.size w1 z5) := Lib.hid (G4.out.trans (E5.out.mono G4.out.size))
      clear AW D0 K7 T5_4
      go_wp2_with (first
        | (refine wpList_load_wanted (by rfl) 27 _ (by rfl) w.heap.size (by rfl) _ Try.underlying27 (by rfl) M _ (AX.out.below GX.out AX.out.lt) (by rw [AXS.out]; exact infoHdR) ?_))
      refine (PB.out _ (HV.out.below GX.out)).mono ?_
      rintro e x5 ⟨rfl, hb⟩
      have G5 : Hid (Below w1.heap.size w1 x5) := Lib.hid (GX.out.trans (hb.mono GX.out.size))
      clear hb
      clear GX
      have G6 : Hid (Below w1.heap.size w1 (x5.alloc (.cells F 35))) := Lib.hid (G5.out.alloc G5.out.size _)
      have K9 := Lib.hid (at_new x5 F 35)
      have hz := HXP.out
      go_upto_region 9 with (refine wpList_store_new (by rfl) 35 _ _ (by rfl) (by rfl) F _ _ (by rfl) (by rfl) (by rw [FS.out]; exact infoHdP) (by first | rfl | rw [FS.out, ZS.out]) FO.out ?_)
      clear hz
      obtain ⟨g6, hg⟩ : ∃ g, g = x5.heap.size := ⟨_, rfl⟩
      rw [← hg] at K9 ⊢
      clear hg
      generalize (x5.alloc (.cells F 35)) = y6 at *
      clear G5
      go_wp2_with (first
        | (refine wpList_load_wanted (by rfl) 27 _ (by rfl) w.heap.size (by rfl) _ Try.underlying27 (by rfl) M _ (AX.out.below G6.out AX.out.lt) (by rw [AXS.out]; exact infoHdR) ?_)
        | (refine wpList_load_wanted (by rfl) 35 _ (by rfl) g6 (by rfl) _ Try.underlying35 (by rfl) F _ K9.out (by rw [FS.out]; exact infoHdP) ?_))
      refine (LF.out _).mono ?_
      rintro e x7 ⟨v11, rfl, hs, hb⟩
      have G7 : Hid (Below w1.heap.size w1 x7) := Lib.hid (G6.out.trans (hb.mono G6.out.size))
      have K9_7 := Lib.hid (K9.out.below hb K9.out.lt)
      have T11 := Lib.hid hs
      clear hs
      clear hb
      clear K9 G6
      go_wp2_with (first
        | (refine wpList_load_wanted (by rfl) 27 _ (by rfl) w.heap.size (by rfl) _ Try.underlying27 (by rfl) M _ (AX.out.below G7.out AX.out.lt) (by rw [AXS.out]; exact infoHdR) ?_)
        | (refine wpList_load_wanted (by rfl) 35 _ (by rfl) g6 (by rfl) _ Try.underlying35 (by rfl) F _ K9_7.out (by rw [FS.out]; exact infoHdP) ?_))
      refine (same_self b _ _ _ T11.out (HV.out.below G7.out) BLE.out BLE.out).mono ?_
      rintro e x8 ⟨rfl, hb⟩
      have G8 : Hid (Below w1.heap.size w1 x8) := Lib.hid (G7.out.trans (hb.mono G7.out.size))
      have K9_8 := Lib.hid (K9_7.out.below hb K9_7.out.lt)
      have T11_8 := Lib.hid (T11.out.below hb)
      clear hb
      clear K9_7 T11 G7
      go_wp2_with (first
        | (refine wpList_load_wanted (by rfl) 27 _ (by rfl) w.heap.size (by rfl) _ Try.underlying27 (by rfl) M _ (AX.out.below G8.out AX.out.lt) (by rw [AXS.out]; exact infoHdR) ?_)
        | (refine wpList_load_wanted (by rfl) 35 _ (by rfl) g6 (by rfl) _ Try.underlying35 (by rfl) F _ K9_8.out (by rw [FS.out]; exact infoHdP) ?_))
      refine (MF.out _).mono ?_
      rintro e x9 ⟨rfl, hb⟩
      have G9 : Hid (Below w1.heap.size w1 x9) := Lib.hid (G8.out.trans (hb.mono G8.out.size))
      have K9_9 := Lib.hid (K9_8.out.below hb K9_8.out.lt)
      have T11_9 := Lib.hid (T11_8.out.below hb)
      clear hb
      clear K9_8 T11_8 G8
      go_wp2_with (first
        | (refine wpList_load_wanted (by rfl) 27 _ (by rfl) w.heap.size (by rfl) _ Try.underlying27 (by rfl) M _ (AX.out.below G9.out AX.out.lt) (by rw [AXS.out]; exact infoHdR) ?_)
        | (refine wpList_load_wanted (by rfl) 35 _ (by rfl) g6 (by rfl) _ Try.underlying35 (by rfl) F _ K9_9.out (by rw [FS.out]; exact infoHdP) ?_))
      refine (AL.out _).mono ?_
      rintro e x99 ⟨rfl, hb9⟩
      have G99 : Hid (Below w1.heap.size w1 x99) := Lib.hid (G9.out.trans (hb9.mono G9.out.size))
      clear hb9
      go_wp2_with fail
      go_ret
      exact ⟨rfl, B1.out.trans (G99.out.mono B1.out.size)⟩
    | false =>
      have LB1 := Lib.hid (LB.out rfl)
      clear LG LB PH LLEN
      go_enter Try.func5, Try.ntmps5
      go_upto_region 1 with fail
      rw [← hw1]
      clear hw1
      have G0 := Lib.hid (Below.refl w1.heap.size w1)
      go_wp2_with (first
        | (refine wpList_load_wanted (by rfl) 27 _ (by rfl) w.heap.size (by rfl) _ Try.underlying27 (by rfl) M _ (AX.out.below G0.out AX.out.lt) (by rw [AXS.out]; exact infoHdR) ?_))
      refine (TH.out _).mono ?_
      rintro e x1 ⟨rfl, hb⟩
      have G1 : Hid (Below w1.heap.size w1 x1) := Lib.hid (G0.out.trans (hb.mono G0.out.size))
      clear hb
      clear G0
      go_wp2_with (first
        | (refine wpList_load_wanted (by rfl) 27 _ (by rfl) w.heap.size (by rfl) _ Try.underlying27 (by rfl) M _ (AX.out.below G1.out AX.out.lt) (by rw [AXS.out]; exact infoHdR) ?_))
      refine (LB1.out _).mono ?_
      rintro e x2 ⟨rfl, hb⟩
      have G2 : Hid (Below w1.heap.size w1 x2) := Lib.hid (G1.out.trans (hb.mono G1.out.size))
      clear hb
      clear G1
      go_wp2_with (first
        | (refine wpList_load_wanted (by rfl) 27 _ (by rfl) w.heap.size (by rfl) _ Try.underlying27 (by rfl) M _ (AX.out.below G2.out AX.out.lt) (by rw [AXS.out]; exact infoHdR) ?_))
      refine (PB.out _ (HV.out.below G2.out)).mono ?_
      rintro e x3 ⟨rfl, hb⟩
      have G3 : Hid (Below w1.heap.size w1 x3) := Lib.hid (G2.out.trans (hb.mono G2.out.size))
      clear hb
      clear G2
      have G4 : Hid (Below w1.heap.size w1 (x3.alloc (.cells F 35))) := Lib.hid (G3.out.alloc G3.out.size _)
      have K9 := Lib.hid (at_new x3 F 35)
      have hz := HXP.out
      go_upto_region 9 with (refine wpList_store_new (by rfl) 35 _ _ (by rfl) (by rfl) F _ _ (by rfl) (by rfl) (by rw [FS.out]; exact infoHdP) (by first | rfl | rw [FS.out, ZS.out]) FO.out ?_)
      clear hz
      obtain ⟨g4, hg⟩ : ∃ g, g = x3.heap.size := ⟨_, rfl⟩
      rw [← hg] at K9 ⊢
      clear hg
      generalize (x3.alloc (.cells F 35)) = y4 at *
      clear G3
      go_wp2_with (first
        | (refine wpList_load_wanted (by rfl) 27 _ (by rfl) w.heap.size (by rfl) _ Try.underlying27 (by rfl) M _ (AX.out.below G4.out AX.out.lt) (by rw [AXS.out]; exact infoHdR) ?_)
        | (refine wpList_load_wanted (by rfl) 35 _ (by rfl) g4 (by rfl) _ Try.underlying35 (by rfl) F _ K9.out (by rw [FS.out]; exact infoHdP) ?_))
      refine (LF.out _).mono ?_
      rintro e x5 ⟨v11, rfl, hs, hb⟩
      have G5 : Hid (Below w1.heap.size w1 x5) := Lib.hid (G4.out.trans (hb.mono G4.out.size))
      have K9_5 := Lib.hid (K9.out.below hb K9.out.lt)
      have T11 := Lib.hid hs
      clear hs
      clear hb
      clear K9 G4
      go_wp2_with (first
        | (refine wpList_load_wanted (by rfl) 27 _ (by rfl) w.heap.size (by rfl) _ Try.underlying27 (by rfl) M _ (AX.out.below G5.out AX.out.lt) (by rw [AXS.out]; exact infoHdR) ?_)
        | (refine wpList_load_wanted (by rfl) 35 _ (by rfl) g4 (by rfl) _ Try.underlying35 (by rfl) F _ K9_5.out (by rw [FS.out]; exact infoHdP) ?_))
      refine (same_self b _ _ _ T11.out (HV.out.below G5.out) BLE.out BLE.out).mono ?_
      rintro e x6 ⟨rfl, hb⟩
      have G6 : Hid (Below w1.heap.size w1 x6) := Lib.hid (G5.out.trans (hb.mono G5.out.size))
      have K9_6 := Lib.hid (K9_5.out.below hb K9_5.out.lt)
      have T11_6 := Lib.hid (T11.out.below hb)
      clear hb
      clear K9_5 T11 G5
      go_wp2_with (first
        | (refine wpList_load_wanted (by rfl) 27 _ (by rfl) w.heap.size (by rfl) _ Try.underlying27 (by rfl) M _ (AX.out.below G6.out AX.out.lt) (by rw [AXS.out]; exact infoHdR) ?_)
        | (refine wpList_load_wanted (by rfl) 35 _ (by rfl) g4 (by rfl) _ Try.underlying35 (by rfl) F _ K9_6.out (by rw [FS.out]; exact infoHdP) ?_))
      refine (MF.out _).mono ?_
      rintro e x7 ⟨rfl, hb⟩
      have G7 : Hid (Below w1.heap.size w1 x7) := Lib.hid (G6.out.trans (hb.mono G6.out.size))
      have K9_7 := Lib.hid (K9_6.out.below hb K9_6.out.lt)
      have T11_7 := Lib.hid (T11_6.out.below hb)
      clear hb
      clear K9_6 T11_6 G6
      go_wp2_with (first
        | (refine wpList_load_wanted (by rfl) 27 _ (by rfl) w.heap.size (by rfl) _ Try.underlying27 (by rfl) M _ (AX.out.below G7.out AX.out.lt) (by rw [AXS.out]; exact infoHdR) ?_)
        | (refine wpList_load_wanted (by rfl) 35 _ (by rfl) g4 (by rfl) _ Try.underlying35 (by rfl) F _ K9_7.out (by rw [FS.out]; exact infoHdP) ?_))
      refine (AL.out _).mono ?_
      rintro e x99 ⟨rfl, hb9⟩
      have G99 : Hid (Below w1.heap.size w1 x99) := Lib.hid (G7.out.trans (hb9.mono G7.out.size))
      clear hb9
      go_wp2_with fail
      go_ret
      exact ⟨rfl, B1.out.trans (G99.out.mono B1.out.size)⟩
  · have e1 := parseH_bad b hq
    rw [e1, ← hZ] at pb
    obtain ⟨q, hqq⟩ : ∃ q : Int, q = ((parseH b).2 : Int) := ⟨_, rfl⟩
    have gq : ¬ q = 0 := by omega
    have gq2 : (q != 0) = true := by rw [bne_iff_ne]; exact gq
    rw [← hqq] at pb
    have PB := Lib.hid pb
    clear hbig hbb hn hq e1 pb hqq hZ
    cases m with
    | true =>
      have LG1 := Lib.hid (LG.out rfl); have PH1 := Lib.hid (PH.out rfl); have LH6 := Lib.hid (LLEN.out rfl)
      clear LG LB PH LLEN
      go_enter Try.func5, Try.ntmps5
      go_upto_region 1 with fail
      rw [← hw1]
      clear hw1
      have G0 := Lib.hid (Below.refl w1.heap.size w1)
      go_wp2_with (first
        | (refine wpList_load_wanted (by rfl) 27 _ (by rfl) w.heap.size (by rfl) _ Try.underlying27 (by rfl) M _ (AX.out.below G0.out AX.out.lt) (by rw [AXS.out]; exact infoHdR) ?_))
      refine (TH.out _).mono ?_
      rintro e x1 ⟨rfl, hb⟩
      have G1 : Hid (Below w1.heap.size w1 x1) := Lib.hid (G0.out.trans (hb.mono G0.out.size))
      clear hb
      clear G0
      go_wp2_with (first
        | (refine wpList_load_wanted (by rfl) 27 _ (by rfl) w.heap.size (by rfl) _ Try.underlying27 (by rfl) M _ (AX.out.below G1.out AX.out.lt) (by rw [AXS.out]; exact infoHdR) ?_))
      refine (LG1.out _).mono ?_
      rintro e x2 ⟨gl, rfl, ha, _, hb⟩
      rw [LH6.out]
      have T5 := Lib.hid (at_sl ha LH6.out)
      have G2 : Hid (Below w1.heap.size w1 x2) := Lib.hid (G1.out.trans (hb.mono G1.out.size))
      clear ha hb G1
      go_wp2_with (first
        | (refine wpList_load_wanted (by rfl) 27 _ (by rfl) w.heap.size (by rfl) _ Try.underlying27 (by rfl) M _ (AX.out.below G2.out AX.out.lt) (by rw [AXS.out]; exact infoHdR) ?_))
      refine (PH1.out _ _ T5.out).mono ?_
      rintro e x3 ⟨rfl, hb⟩
      have G3 : Hid (Below w1.heap.size w1 x3) := Lib.hid (G2.out.trans (hb.mono G2.out.size))
      have T5_3 := Lib.hid (T5.out.below hb)
      clear hb
      clear T5 G2
      have T5_4 := Lib.hid (T5_3.out.below ((Below.refl _ _).alloc (Nat.le_refl _) (.cells M 35)))
      have G4 : Hid (Below w1.heap.size w1 (x3.alloc (.cells M 35))) := Lib.hid (G3.out.alloc G3.out.size _)
      have K7 := Lib.hid (at_new x3 M 35)
      have hz := HXP.out
      go_upto_region 6 with (refine wpList_store_new (by rfl) 35 _ _ (by rfl) (by rfl) M _ _ (by rfl) (by rfl) (by rw [AXS.out]; exact infoHdP) (by first | rfl | rw [AXS.out, ZS.out]) MO.out ?_)
      clear hz
      obtain ⟨g4, hg⟩ : ∃ g, g = x3.heap.size := ⟨_, rfl⟩
      rw [← hg] at K7 ⊢
      clear hg
      generalize (x3.alloc (.cells M 35)) = y4 at *
      clear T5_3 G3
      have D0 : Hid (Below y4.heap.size y4 y4.drew) := Lib.hid (Below.refl _ _).drew
      have AW := Lib.hid (AX.out.below G4.out AX.out.lt)
      refine wp_region_plan_in (fun x' => Below y4.heap.size y4 x') (.take 0 (.take 1 (.take 2 (.take 3 (.take 4 (.sole 5 (.take 6 (.take 7 .done)))))))) (by kernel_rfl) (by kernel_rfl) (by kernel_rfl) D0.out ?_
      (first | (refine plan_move _ _ (by rfl) (by rfl) (.inl (by rfl)) (by first | (with_reducible exact Mem.ev_const _ _) | (with_reducible exact Mem.ev_zero _ _ _) | (with_reducible (apply Eq.trans (Mem.ev_tmp _ _ _)); simp only [List.getD_cons_succ, List.getD_cons_zero] <;> rfl)) ?_) | (refine plan_move _ _ (by rfl) (by rfl) (.inr (by rfl)) (by first | (with_reducible exact Mem.ev_const _ _) | (with_reducible exact Mem.ev_zero _ _ _) | (with_reducible (apply Eq.trans (Mem.ev_tmp _ _ _)); simp only [List.getD_cons_succ, List.getD_cons_zero] <;> rfl)) ?_) | (refine plan_pick_t _ _ _ _ (by rfl) (by rfl) (by rfl) (by first | (with_reducible exact Mem.ev_const _ _) | (with_reducible exact Mem.ev_zero _ _ _) | (with_reducible (apply Eq.trans (Mem.ev_tmp _ _ _)); simp only [List.getD_cons_succ, List.getD_cons_zero] <;> rfl)) (by first | (with_reducible exact Mem.ev_const _ _) | (with_reducible exact Mem.ev_zero _ _ _) | (with_reducible (apply Eq.trans (Mem.ev_tmp _ _ _)); simp only [List.getD_cons_succ, List.getD_cons_zero] <;> rfl)) ?_) | (refine plan_pick_f _ _ _ _ (by rfl) (by rfl) (by rfl) (by first | (with_reducible exact Mem.ev_const _ _) | (with_reducible exact Mem.ev_zero _ _ _) | (with_reducible (apply Eq.trans (Mem.ev_tmp _ _ _)); simp only [List.getD_cons_succ, List.getD_cons_zero] <;> rfl)) (by first | (with_reducible exact Mem.ev_const _ _) | (with_reducible exact Mem.ev_zero _ _ _) | (with_reducible (apply Eq.trans (Mem.ev_tmp _ _ _)); simp only [List.getD_cons_succ, List.getD_cons_zero] <;> rfl)) ?_))
      (simp only [Act.put, List.setIfInBounds_toArray, List.set_cons_zero, List.set_cons_succ])
      refine plan_bin _ _ _ _ _ _ _ (.bool false) (by rfl) (by rfl) (by rfl) (by first | (with_reducible exact Mem.ev_const _ _) | (with_reducible exact Mem.ev_zero _ _ _) | (with_reducible (apply Eq.trans (Mem.ev_tmp _ _ _)); simp only [List.getD_cons_succ, List.getD_cons_zero] <;> rfl)) (by rfl) (fun wx => o_ine _ _ _ _ _ wx) ?_
      (simp only [Act.put, List.setIfInBounds_toArray, List.set_cons_zero, List.set_cons_succ])
      (first | (refine plan_move _ _ (by rfl) (by rfl) (.inl (by rfl)) (by first | (with_reducible exact Mem.ev_const _ _) | (with_reducible exact Mem.ev_zero _ _ _) | (with_reducible (apply Eq.trans (Mem.ev_tmp _ _ _)); simp only [List.getD_cons_succ, List.getD_cons_zero] <;> rfl)) ?_) | (refine plan_move _ _ (by rfl) (by rfl) (.inr (by rfl)) (by first | (with_reducible exact Mem.ev_const _ _) | (with_reducible exact Mem.ev_zero _ _ _) | (with_reducible (apply Eq.trans (Mem.ev_tmp _ _ _)); simp only [List.getD_cons_succ, List.getD_cons_zero] <;> rfl)) ?_) | (refine plan_pick_t _ _ _ _ (by rfl) (by rfl) (by rfl) (by first | (with_reducible exact Mem.ev_const _ _) | (with_reducible exact Mem.ev_zero _ _ _) | (with_reducible (apply Eq.trans (Mem.ev_tmp _ _ _)); simp only [List.getD_cons_succ, List.getD_cons_zero] <;> rfl)) (by first | (with_reducible exact Mem.ev_const _ _) | (with_reducible exact Mem.ev_zero _ _ _) | (with_reducible (apply Eq.trans (Mem.ev_tmp _ _ _)); simp only [List.getD_cons_succ, List.getD_cons_zero] <;> rfl)) ?_) | (refine plan_pick_f _ _ _ _ (by rfl) (by rfl) (by rfl) (by first | (with_reducible exact Mem.ev_const _ _) | (with_reducible exact Mem.ev_zero _ _ _) | (with_reducible (apply Eq.trans (Mem.ev_tmp _ _ _)); simp only [List.getD_cons_succ, List.getD_cons_zero] <;> rfl)) (by first | (with_reducible exact Mem.ev_const _ _) | (with_reducible exact Mem.ev_zero _ _ _) | (with_reducible (apply Eq.trans (Mem.ev_tmp _ _ _)); simp only [List.getD_cons_succ, List.getD_cons_zero] <;> rfl)) ?_))
      (simp only [Act.put, List.setIfInBounds_toArray, List.set_cons_zero, List.set_cons_succ])
      refine plan_row 35 _ g4 _ M 35 (by rfl) (by rfl) (by rfl) (by first | (with_reducible exact Mem.ev_const _ _) | (with_reducible exact Mem.ev_zero _ _ _) | (with_reducible (apply Eq.trans (Mem.ev_tmp _ _ _)); simp only [List.getD_cons_succ, List.getD_cons_zero] <;> rfl)) (fun w' hw' => K7.out.below hw' K7.out.lt) Try.underlying35 (by rfl) (by rw [AXS.out]; exact infoHdP) ?_
      (simp only [Act.put, List.setIfInBounds_toArray, List.set_cons_zero, List.set_cons_succ])
      refine plan_row 27 _ w.heap.size _ M 27 (by rfl) (by rfl) (by rfl) (by first | (with_reducible exact Mem.ev_const _ _) | (with_reducible exact Mem.ev_zero _ _ _) | (with_reducible (apply Eq.trans (Mem.ev_tmp _ _ _)); simp only [List.getD_cons_succ, List.getD_cons_zero] <;> rfl)) (fun w' hw' => AW.out.below hw' AW.out.lt) Try.underlying27 (by rfl) (by rw [AXS.out]; exact infoHdR) ?_
      (simp only [Act.put, List.setIfInBounds_toArray, List.set_cons_zero, List.set_cons_succ])
      refine plan_call 9 _ _ _ (by kernel_rfl) (by rfl) (by rfl) (by rfl) (by first | exact Mem.ev_none _ | (simp only [List.map_toArray, List.map_cons, List.map_nil, Mem.ev_tmp, List.getD_cons_succ, List.getD_cons_zero] <;> rfl)) ?_
      refine (TH.out _).mono ?_
      rintro e z5 ⟨rfl, hb5⟩
      have E5 : Hid (Below y4.heap.size y4 z5) := Lib.hid (D0.out.trans (hb5.mono D0.out.size))
      clear hb5
      refine ⟨_, rfl, E5.out, ?_⟩
      (simp only [Act.put, List.setIfInBounds_toArray, List.set_cons_zero, List.set_cons_succ])
      refine plan_bin _ _ _ _ _ _ _ (.bool false) (by rfl) (by rfl) (by rfl) (by first | (with_reducible exact Mem.ev_const _ _) | (with_reducible exact Mem.ev_zero _ _ _) | (with_reducible (apply Eq.trans (Mem.ev_tmp _ _ _)); simp only [List.getD_cons_succ, List.getD_cons_zero] <;> rfl)) (by first | (with_reducible exact Mem.ev_const _ _) | (with_reducible exact Mem.ev_zero _ _ _) | (with_reducible (apply Eq.trans (Mem.ev_tmp _ _ _)); simp only [List.getD_cons_succ, List.getD_cons_zero] <;> rfl)) (fun wx => NEM.out _ _ wx) ?_
      (simp only [Act.put, List.setIfInBounds_toArray, List.set_cons_zero, List.set_cons_succ])
      refine plan_pick_f _ _ _ _ (by rfl) (by rfl) (by rfl) (by first | (with_reducible exact Mem.ev_const _ _) | (with_reducible exact Mem.ev_zero _ _ _) | (with_reducible (apply Eq.trans (Mem.ev_tmp _ _ _)); simp only [List.getD_cons_succ, List.getD_cons_zero] <;> rfl)) (by first | (with_reducible exact Mem.ev_const _ _) | (with_reducible exact Mem.ev_zero _ _ _) | (with_reducible (apply Eq.trans (Mem.ev_tmp _ _ _)); simp only [List.getD_cons_succ, List.getD_cons_zero] <;> rfl)) ?_
      (simp only [Act.put, List.setIfInBounds_toArray, List.set_cons_zero, List.set_cons_succ])
      refine plan_nil ?_
      have GX : Hid (Below w1.heap.size w1 z5) := Lib.hid (G4.out.trans (E5.out.mono G4.out.size))
      clear AW D0 K7 T5_4
      go_wp2_with (first
        | (refine wpList_load_wanted (by rfl) 27 _ (by rfl) w.heap.size (by rfl) _ Try.underlying27 (by rfl) M _ (AX.out.below GX.out AX.out.lt) (by rw [AXS.out]; exact infoHdR) ?_))
      refine (PB.out _ (HV.out.below GX.out)).mono ?_
      rintro e x5 ⟨rfl, hb⟩
      have G5 : Hid (Below w1.heap.size w1 x5) := Lib.hid (GX.out.trans (hb.mono GX.out.size))
      clear hb
      clear GX
      have G6 : Hid (Below w1.heap.size w1 (x5.alloc (.cells Z 35))) := Lib.hid (G5.out.alloc G5.out.size _)
      have K9 := Lib.hid (at_new x5 Z 35)
      have hz := HXP.out
      go_upto_region 9 with (refine wpList_store_new (by rfl) 35 _ _ (by rfl) (by rfl) Z _ _ (by rfl) (by rfl) (by rw [ZS.out]; exact infoHdP) (by first | rfl | rw [ZS.out, ZS.out]) ZO.out ?_)
      clear hz
      obtain ⟨g6, hg⟩ : ∃ g, g = x5.heap.size := ⟨_, rfl⟩
      rw [← hg] at K9 ⊢
      clear hg
      generalize (x5.alloc (.cells Z 35)) = y6 at *
      clear G5
      go_wp2_with (first
        | (refine wpList_load_wanted (by rfl) 27 _ (by rfl) w.heap.size (by rfl) _ Try.underlying27 (by rfl) M _ (AX.out.below G6.out AX.out.lt) (by rw [AXS.out]; exact infoHdR) ?_)
        | (refine wpList_load_wanted (by rfl) 35 _ (by rfl) g6 (by rfl) _ Try.underlying35 (by rfl) Z _ K9.out (by rw [ZS.out]; exact infoHdP) ?_)
        | (refine Mem.wpList_build (by rfl) 35 _ #[] (.agg Z) (by rfl) (by first | rfl | simp) BN.out ?_)
        | (refine wpList_bin (by rfl) .eql _ _ _ _ _ _ (.bool true) (by rfl) (by rfl) (by rfl) (fun wx => EQZ.out _ _ wx) ?_))
      refine (AL.out _).mono ?_
      rintro e x99 ⟨rfl, hb9⟩
      have G99 : Hid (Below w1.heap.size w1 x99) := Lib.hid (G6.out.trans (hb9.mono G6.out.size))
      clear hb9
      go_wp2_with fail
      go_ret
      exact ⟨rfl, B1.out.trans (G99.out.mono B1.out.size)⟩
    | false =>
      have LB1 := Lib.hid (LB.out rfl)
      clear LG LB PH LLEN
      go_enter Try.func5, Try.ntmps5
      go_upto_region 1 with fail
      rw [← hw1]
      clear hw1
      have G0 := Lib.hid (Below.refl w1.heap.size w1)
      go_wp2_with (first
        | (refine wpList_load_wanted (by rfl) 27 _ (by rfl) w.heap.size (by rfl) _ Try.underlying27 (by rfl) M _ (AX.out.below G0.out AX.out.lt) (by rw [AXS.out]; exact infoHdR) ?_))
      refine (TH.out _).mono ?_
      rintro e x1 ⟨rfl, hb⟩
      have G1 : Hid (Below w1.heap.size w1 x1) := Lib.hid (G0.out.trans (hb.mono G0.out.size))
      clear hb
      clear G0
      go_wp2_with (first
        | (refine wpList_load_wanted (by rfl) 27 _ (by rfl) w.heap.size (by rfl) _ Try.underlying27 (by rfl) M _ (AX.out.below G1.out AX.out.lt) (by rw [AXS.out]; exact infoHdR) ?_))
      refine (LB1.out _).mono ?_
      rintro e x2 ⟨rfl, hb⟩
      have G2 : Hid (Below w1.heap.size w1 x2) := Lib.hid (G1.out.trans (hb.mono G1.out.size))
      clear hb
      clear G1
      go_wp2_with (first
        | (refine wpList_load_wanted (by rfl) 27 _ (by rfl) w.heap.size (by rfl) _ Try.underlying27 (by rfl) M _ (AX.out.below G2.out AX.out.lt) (by rw [AXS.out]; exact infoHdR) ?_))
      refine (PB.out _ (HV.out.below G2.out)).mono ?_
      rintro e x3 ⟨rfl, hb⟩
      have G3 : Hid (Below w1.heap.size w1 x3) := Lib.hid (G2.out.trans (hb.mono G2.out.size))
      clear hb
      clear G2
      have G4 : Hid (Below w1.heap.size w1 (x3.alloc (.cells Z 35))) := Lib.hid (G3.out.alloc G3.out.size _)
      have K9 := Lib.hid (at_new x3 Z 35)
      have hz := HXP.out
      go_upto_region 9 with (refine wpList_store_new (by rfl) 35 _ _ (by rfl) (by rfl) Z _ _ (by rfl) (by rfl) (by rw [ZS.out]; exact infoHdP) (by first | rfl | rw [ZS.out, ZS.out]) ZO.out ?_)
      clear hz
      obtain ⟨g4, hg⟩ : ∃ g, g = x3.heap.size := ⟨_, rfl⟩
      rw [← hg] at K9 ⊢
      clear hg
      generalize (x3.alloc (.cells Z 35)) = y4 at *
      clear G3
      go_wp2_with (first
        | (refine wpList_load_wanted (by rfl) 27 _ (by rfl) w.heap.size (by rfl) _ Try.underlying27 (by rfl) M _ (AX.out.below G4.out AX.out.lt) (by rw [AXS.out]; exact infoHdR) ?_)
        | (refine wpList_load_wanted (by rfl) 35 _ (by rfl) g4 (by rfl) _ Try.underlying35 (by rfl) Z _ K9.out (by rw [ZS.out]; exact infoHdP) ?_)
        | (refine Mem.wpList_build (by rfl) 35 _ #[] (.agg Z) (by rfl) (by first | rfl | simp) BN.out ?_)
        | (refine wpList_bin (by rfl) .eql _ _ _ _ _ _ (.bool true) (by rfl) (by rfl) (by rfl) (fun wx => EQZ.out _ _ wx) ?_))
      refine (AL.out _).mono ?_
      rintro e x99 ⟨rfl, hb9⟩
      have G99 : Hid (Below w1.heap.size w1 x99) := Lib.hid (G4.out.trans (hb9.mono G4.out.size))
      clear hb9
      go_wp2_with fail
      go_ret
      exact ⟨rfl, B1.out.trans (G99.out.mono B1.out.size)⟩
end Sha
end Go.Proofs.Ytbnjihpafipbnaa
