/- Layer 10, WrapAgain: what is wrapped again has the same master key, under the other passphrase, and salt. -/
import Derived.Test.YtjadjidjfkahpaaDoorCB
import Derived.Deep.DeepCutAuto
namespace Go.Proofs.YtjadjidjfkahpaaDoor
namespace Sha
open Go.RowKit Mem
set_option maxRecDepth 100000
theorem again_zero (p p2 s2 : List (BitVec 8)) : againR p p2 s2 zwr = (zwr, 1) := by
  unfold againR
  rw [show unwrapR p zwr = (z32, 1) from rfl]; rfl
theorem again_wrap (p s : List (BitVec 8)) (r : Int) (m p2 s2 : List (BitVec 8)) (hr : rBad r = false) : againR p p2 s2 (wrapV p s r m) = (wrapV p2 s2 r m, 0) := by
  unfold againR
  rw [unwrap_wrap _ _ _ _ hr, show (wrapV p s r m).r = r from rfl]
  unfold wrapR
  rw [hr]; rfl
set_option maxHeartbeats 16000000 in
theorem again10_core {T : World → Prop} (P : WrapP T) (p s : List (BitVec 8)) (r : Int) (m p2 s2 : List (BitVec 8)) (v v2 : Value) (w : World) (ls : s.length = 16) (lm : m.length = 32) (h0 : -9223372036854775808 ≤ r) (h1 : r ≤ 9223372036854775807) (hp : Sl w v p) (hp2 : Sl w v2 p2) (lp2 : p2.length ≤ 9223372036854775807) (ls2 : s2.length = 16) (hT : T w) :
    Calls Tryd.prog 6 #[.agg (askW v s r m), v2, .agg (u8s s2).toArray] w fun e w' => e = .returned (.bool true) ∧ Below w.heap.size w w' := by
  obtain ⟨a0, c0, rfl⟩ := sl_hdw hp
  obtain ⟨n, hn⟩ : ∃ n, n = p.length := ⟨_, rfl⟩
  rw [← hn] at hp ⊢
  have far := fun wx => far10_any a0 n c0 s r m ls wx
  have q0 := askW_0 (.slice a0 n c0) s r m
  have qz := askW_size (.slice a0 n c0) s r m ls lm
  have qr := askW_r (.slice a0 n c0) s r m ls
  have qs := askW_salt (.slice a0 n c0) s r m ls
  have qm := askW_m (.slice a0 n c0) s r m ls lm
  obtain ⟨AA, hAA⟩ : ∃ A, A = askW (.slice a0 n c0) s r m := ⟨_, rfl⟩
  rw [← hAA] at far q0 qz qr qs qm ⊢
  have al := fun wx (h : T wx) => alive10_any P wx h
  have hb := fun {wx wy : World} (h : T wx) (b : Below wx.heap.size wx wy) => P.below h b
  obtain ⟨CS, hCS⟩ : ∃ C, C = (u8s s).toArray := ⟨_, rfl⟩
  obtain ⟨CM, hCM⟩ : ∃ C, C = (u8s m).toArray := ⟨_, rfl⟩
  rw [← hCS] at qs
  rw [← hCM] at qm
  obtain ⟨ZW, hZW⟩ : ∃ Z, Z = wrC zwr := ⟨_, rfl⟩
  have zwo : ZW.all (·.oneCell') = true := by rw [hZW]; exact wrC_one _
  have zws : ZW.size = 81 := by rw [hZW]; exact wrC_size zwr_wf
  have hxw : ∀ w, (zeroValue 30).run Tryd.prog w = .ok (.agg ZW) w := by rw [hZW]; exact zeroWrP
  have hxr : ∀ w, (zeroValue 34).run Tryd.prog w = .ok (.agg ZW) w := by rw [hZW]; exact zeroWrR
  obtain ⟨Z, hZ⟩ : ∃ Z, Z = (u8s z32).toArray := ⟨_, rfl⟩
  have zs : Z.size = 32 := by rw [hZ]; simp [z32, u8s_length]
  have hx : ∀ w, (zeroValue 24).run Tryd.prog w = .ok (.agg Z) w := by rw [hZ]; exact zeroK32
  have ZWS := Lib.hid zws; have ZS := Lib.hid zs; have HXW := Lib.hid hxw; have HXR := Lib.hid hxr; have HX := Lib.hid hx
  clear zws zs hxw hxr hx hZ
  obtain ⟨C2, hC2⟩ : ∃ C, C = (u8s s2).toArray := ⟨_, rfl⟩
  have c2s : C2.size = 16 := by rw [hC2]; simp [u8s_length, ls2]
  obtain ⟨a2, d2, rfl⟩ := sl_hdw hp2
  obtain ⟨n2, hn2⟩ : ∃ n, n = p2.length := ⟨_, rfl⟩
  rw [← hn2] at hp2
  rw [← hC2, ← hn2]
  obtain ⟨w1, hw1⟩ : ∃ w1, w1 = (w.alloc (.cells AA 26)).alloc (.cells C2 23) := ⟨_, rfl⟩
  have ax : At w1 w.heap.size AA 26 := by rw [hw1]; exact (at_new w _ _).alloc _
  have ay : At w1 (w.heap.size + 1) C2 23 := by
    rw [hw1]
    have h := at_new (w.alloc (.cells AA 26)) C2 23
    simpa using h
  have b1 : Below w.heap.size w w1 := by rw [hw1]; exact ((Below.refl _ _).alloc (Nat.le_refl _) _).alloc (by simp) _
  have hp1 := hp.below b1
  have hp3 := hp2.below b1
  have ht1 := P.below hT b1
  have AX := Lib.hid ax; have AY := Lib.hid ay; have B1 := Lib.hid b1; have HP := Lib.hid hp1; have HP2 := Lib.hid hp3; have HT := Lib.hid ht1; have AL := Lib.hid al; have Q0 := Lib.hid q0; have AS := Lib.hid qz; have QR := Lib.hid qr; have QS := Lib.hid qs; have QM := Lib.hid qm; have C2S := Lib.hid c2s; have FAR0 := Lib.hid far
  clear ax ay b1 hp1 hp3 ht1 al q0 qz qr qs qm c2s far hAA hp hp2 hT
  by_cases hf : farW n r = true
  · have FAR : Hid (∀ wx, Calls Tryd.prog 7 #[.agg AA] wx fun e w' => e = .returned (.bool true) ∧ Below wx.heap.size wx w') := Lib.hid (fun wx => by have h := FAR0.out wx; rw [hf] at h; exact h)
    clear FAR0 hf hn hn2 lp2 h0 h1 ls lm ls2 hC2 hCS hCM hZW zwo
    go_enter Tryd.func6, Tryd.ntmps6
    go_upto_region 1 with fail
    rw [← hw1]
    clear hw1
    go_wp2_with (refine wpList_load_all (by rfl) 26 _ (by rfl) w.heap.size (by rfl) _ Tryd.underlying26 (by rfl) AA _ AX.out (by rw [AS.out]; exact infoAskW) ?_)
    refine (FAR.out w1).mono ?_
    rintro e x0 ⟨rfl, hb0⟩
    have G0 := Lib.hid hb0
    clear hb0
    go_wp2_with fail
    refine (AL.out _ (hb HT.out G0.out)).mono ?_
    rintro e x9 ⟨rfl, hb9⟩
    have G9 : Hid (Below w1.heap.size w1 x9) := Lib.hid (G0.out.trans (hb9.mono G0.out.size))
    clear hb9
    go_wp2_with fail
    go_ret
    exact ⟨rfl, B1.out.trans (G9.out.mono B1.out.size)⟩
  have hf' : farW n r = false := by simpa using hf
  have FAR : Hid (∀ wx, Calls Tryd.prog 7 #[.agg AA] wx fun e w' => e = .returned (.bool false) ∧ Below wx.heap.size wx w') := Lib.hid (fun wx => by have h := FAR0.out wx; rw [hf'] at h; exact h)
  have hle := farW_le hf'
  clear FAR0
  rw [← hn2] at lp2
  by_cases hbig : 200 < n2
  · have g2 : (200 : Int) < (n2 : Int) := by omega
    clear hf hf' hle hn hn2 h0 h1 ls lm ls2 hC2 hCS hCM hZW zwo hbig
    go_enter Tryd.func6, Tryd.ntmps6
    go_upto_region 1 with fail
    rw [← hw1]
    clear hw1
    go_wp2_with (refine wpList_load_all (by rfl) 26 _ (by rfl) w.heap.size (by rfl) _ Tryd.underlying26 (by rfl) AA _ AX.out (by rw [AS.out]; exact infoAskW) ?_)
    refine (FAR.out w1).mono ?_
    rintro e x0 ⟨rfl, hb0⟩
    have G0 := Lib.hid hb0
    clear hb0
    go_wp2_with fail
    refine (AL.out _ (hb HT.out G0.out)).mono ?_
    rintro e x9 ⟨rfl, hb9⟩
    have G9 : Hid (Below w1.heap.size w1 x9) := Lib.hid (G0.out.trans (hb9.mono G0.out.size))
    clear hb9
    go_wp2_with fail
    go_ret
    exact ⟨rfl, B1.out.trans (G9.out.mono B1.out.size)⟩
  have g2 : ¬ (200 : Int) < (n2 : Int) := by omega
  have hw := fun wx (h : Sl wx (.slice a0 n c0) p) (ht : T wx) => P.wrap p s r m (.slice a0 n c0) wx ls lm h0 h1 h (by omega) ht
  by_cases hr : rBad r = true
  · have e0 : wrapR p s r m = (zwr, 1) := by unfold wrapR; rw [if_pos hr]
    rw [e0] at hw
    have ha := fun wx (h : Sl wx (.slice a0 n c0) p) (h2 : Sl wx (.slice a2 n2 d2) p2) (ht : T wx) => P.again p p2 s2 zwr (.slice a0 n c0) (.slice a2 n2 d2) wx ls2 zwr_wf h h2 (by omega) (by omega) ht
    rw [again_zero] at ha
    have bn := buildWP0
    have eqz := fun xo yo wx => eqlWP zwr_wf zwr_wf xo yo wx
    rw [sameWr_self] at eqz
    rw [← hZW] at bn eqz
    have hw2 : ∀ wx, Sl wx (.slice a0 n c0) p → T wx → Calls Tryd.prog 9 #[.slice a0 n c0, .agg CS, .int .i64 r, .agg CM] wx fun e w' => e = .returned (.tuple #[.agg ZW, .int .i64 1]) ∧ Below wx.heap.size wx w' := fun wx h ht => by rw [hCS, hCM, hZW]; exact hw wx h ht
    have ha2 : ∀ wx, Sl wx (.slice a0 n c0) p → Sl wx (.slice a2 n2 d2) p2 → T wx → Calls Tryd.prog 17 #[.slice a0 n c0, .slice a2 n2 d2, .agg C2, .agg ZW] wx fun e w' => e = .returned (.tuple #[.agg ZW, .int .i64 1]) ∧ Below wx.heap.size wx w' := fun wx h h2 ht => by rw [hC2, hZW]; exact ha wx h h2 ht
    have HW := Lib.hid hw2; have HA := Lib.hid ha2; have ZWO := Lib.hid zwo; have BN := Lib.hid bn; have EQZ := Lib.hid eqz
    clear hw hw2 ha ha2 zwo bn eqz hle hf hf' h0 h1 ls lm ls2 hn hn2 lp2 e0 hr hCS hCM hC2 hZW hbig
    go_enter Tryd.func6, Tryd.ntmps6
    go_upto_region 1 with fail
    rw [← hw1]
    clear hw1
    go_wp2_with (refine wpList_load_all (by rfl) 26 _ (by rfl) w.heap.size (by rfl) _ Tryd.underlying26 (by rfl) AA _ AX.out (by rw [AS.out]; exact infoAskW) ?_)
    refine (FAR.out w1).mono ?_
    rintro e x0 ⟨rfl, hb0⟩
    have G0 := Lib.hid hb0
    clear hb0
    have cf1 : x0.cell? ⟨w.heap.size, 0, none⟩ = some (.slice a0 n c0) := ((AX.out.below G0.out AX.out.lt).cell 0).trans Q0.out
    have cf2 : x0.cell? ⟨w.heap.size, 17, none⟩ = some (.int .i64 r) := ((AX.out.below G0.out AX.out.lt).cell 17).trans QR.out
    go_wp2_with (first
      | (refine wpList_load_wanted (by rfl) 26 _ (by rfl) w.heap.size (by rfl) _ Tryd.underlying26 (by rfl) AA _ (AX.out.below G0.out AX.out.lt) (by rw [AS.out]; exact infoAskW) ?_)
      | (refine wpList_load_is_wanted (by rfl) 23 _ (by rfl) w.heap.size 1 16 (by rfl) _ Tryd.underlying23 (by rfl) infoS16 AA _ (AX.out.below G0.out AX.out.lt) (by rw [AS.out]; decide) CS QS.out ?_)
      | (refine wpList_load_is_wanted (by rfl) 24 _ (by rfl) w.heap.size 18 32 (by rfl) _ Tryd.underlying24 (by rfl) infoDg AA _ (AX.out.below G0.out AX.out.lt) (by rw [AS.out]; decide) CM QM.out ?_)
      | (refine wpList_load_wanted (by rfl) 23 _ (by rfl) (w.heap.size + 1) (by rfl) _ Tryd.underlying23 (by rfl) C2 _ (AY.out.below G0.out AY.out.lt) (by rw [C2S.out]; exact infoS16) ?_))
    clear cf1 cf2
    refine (HW.out _ (HP.out.below G0.out) (hb HT.out G0.out)).mono ?_
    rintro e x3 ⟨rfl, hb⟩
    have G3 : Hid (Below w1.heap.size w1 x3) := Lib.hid (G0.out.trans (hb.mono G0.out.size))
    clear hb
    clear G0
    have G4 : Hid (Below w1.heap.size w1 (x3.alloc (.cells ZW 30))) := Lib.hid (G3.out.alloc G3.out.size _)
    have W3 := Lib.hid (at_new x3 ZW 30)
    have hz := HXW.out
    go_upto_region 4 with (refine wpList_store_new (by rfl) 30 _ _ (by rfl) (by rfl) ZW _ _ (by rfl) (by rfl) (by rw [ZWS.out]; exact infoWrP) (by first | rfl | rw [ZWS.out, ZWS.out]) ZWO.out ?_)
    clear hz
    obtain ⟨g4, hg⟩ : ∃ g, g = x3.heap.size := ⟨_, rfl⟩
    rw [← hg] at W3 ⊢
    clear hg
    generalize (x3.alloc (.cells ZW 30)) = y4 at *
    clear G3
    have cf5 : y4.cell? ⟨w.heap.size, 0, none⟩ = some (.slice a0 n c0) := ((AX.out.below G4.out AX.out.lt).cell 0).trans Q0.out
    have cf6 : y4.cell? ⟨w.heap.size, 17, none⟩ = some (.int .i64 r) := ((AX.out.below G4.out AX.out.lt).cell 17).trans QR.out
    go_wp2_with (first
      | (refine wpList_load_wanted (by rfl) 26 _ (by rfl) w.heap.size (by rfl) _ Tryd.underlying26 (by rfl) AA _ (AX.out.below G4.out AX.out.lt) (by rw [AS.out]; exact infoAskW) ?_)
      | (refine wpList_load_is_wanted (by rfl) 23 _ (by rfl) w.heap.size 1 16 (by rfl) _ Tryd.underlying23 (by rfl) infoS16 AA _ (AX.out.below G4.out AX.out.lt) (by rw [AS.out]; decide) CS QS.out ?_)
      | (refine wpList_load_is_wanted (by rfl) 24 _ (by rfl) w.heap.size 18 32 (by rfl) _ Tryd.underlying24 (by rfl) infoDg AA _ (AX.out.below G4.out AX.out.lt) (by rw [AS.out]; decide) CM QM.out ?_)
      | (refine wpList_load_wanted (by rfl) 23 _ (by rfl) (w.heap.size + 1) (by rfl) _ Tryd.underlying23 (by rfl) C2 _ (AY.out.below G4.out AY.out.lt) (by rw [C2S.out]; exact infoS16) ?_)
      | (refine wpList_load_wanted (by rfl) 30 _ (by rfl) g4 (by rfl) _ Tryd.underlying30 (by rfl) ZW _ W3.out (by rw [ZWS.out]; exact infoWrP) ?_))
    clear cf5 cf6
    refine (HA.out _ (HP.out.below G4.out) (HP2.out.below G4.out) (hb HT.out G4.out)).mono ?_
    rintro e x7 ⟨rfl, hb⟩
    have G7 : Hid (Below w1.heap.size w1 x7) := Lib.hid (G4.out.trans (hb.mono G4.out.size))
    have W3_7 := Lib.hid (W3.out.below hb W3.out.lt)
    clear hb
    clear W3 G4
    have G8 : Hid (Below w1.heap.size w1 (x7.alloc (.cells ZW 30))) := Lib.hid (G7.out.alloc G7.out.size _)
    have W3_8 := Lib.hid (W3_7.out.alloc (.cells ZW 30))
    have W5 := Lib.hid (at_new x7 ZW 30)
    have hz := HXW.out
    go_upto_region 5 with (refine wpList_store_new (by rfl) 30 _ _ (by rfl) (by rfl) ZW _ _ (by rfl) (by rfl) (by rw [ZWS.out]; exact infoWrP) (by first | rfl | rw [ZWS.out, ZWS.out]) ZWO.out ?_)
    clear hz
    obtain ⟨g8, hg⟩ : ∃ g, g = x7.heap.size := ⟨_, rfl⟩
    rw [← hg] at W5 ⊢
    clear hg
    generalize (x7.alloc (.cells ZW 30)) = y8 at *
    clear W3_7 G7
    have cf9 : y8.cell? ⟨w.heap.size, 0, none⟩ = some (.slice a0 n c0) := ((AX.out.below G8.out AX.out.lt).cell 0).trans Q0.out
    have cf10 : y8.cell? ⟨w.heap.size, 17, none⟩ = some (.int .i64 r) := ((AX.out.below G8.out AX.out.lt).cell 17).trans QR.out
    go_wp2_with (first
      | (refine wpList_load_wanted (by rfl) 26 _ (by rfl) w.heap.size (by rfl) _ Tryd.underlying26 (by rfl) AA _ (AX.out.below G8.out AX.out.lt) (by rw [AS.out]; exact infoAskW) ?_)
      | (refine wpList_load_is_wanted (by rfl) 23 _ (by rfl) w.heap.size 1 16 (by rfl) _ Tryd.underlying23 (by rfl) infoS16 AA _ (AX.out.below G8.out AX.out.lt) (by rw [AS.out]; decide) CS QS.out ?_)
      | (refine wpList_load_is_wanted (by rfl) 24 _ (by rfl) w.heap.size 18 32 (by rfl) _ Tryd.underlying24 (by rfl) infoDg AA _ (AX.out.below G8.out AX.out.lt) (by rw [AS.out]; decide) CM QM.out ?_)
      | (refine wpList_load_wanted (by rfl) 23 _ (by rfl) (w.heap.size + 1) (by rfl) _ Tryd.underlying23 (by rfl) C2 _ (AY.out.below G8.out AY.out.lt) (by rw [C2S.out]; exact infoS16) ?_)
      | (refine wpList_load_wanted (by rfl) 30 _ (by rfl) g4 (by rfl) _ Tryd.underlying30 (by rfl) ZW _ W3_8.out (by rw [ZWS.out]; exact infoWrP) ?_)
      | (refine wpList_load_wanted (by rfl) 30 _ (by rfl) g8 (by rfl) _ Tryd.underlying30 (by rfl) ZW _ W5.out (by rw [ZWS.out]; exact infoWrP) ?_)
      | (refine Mem.wpList_build (by rfl) 30 _ #[] (.agg ZW) (by rfl) (by first | rfl | simp) BN.out ?_)
      | (refine wpList_bin (by rfl) .eql 30 30 _ _ (.agg ZW) (.agg ZW) (.bool true) (by rfl) (by rfl) (by rfl) (fun wx => EQZ.out _ _ wx) ?_))
    refine (AL.out _ (hb HT.out G8.out)).mono ?_
    rintro e x9 ⟨rfl, hb9⟩
    have G9 : Hid (Below w1.heap.size w1 x9) := Lib.hid (G8.out.trans (hb9.mono G8.out.size))
    clear hb9
    go_wp2_with fail
    go_ret
    exact ⟨rfl, B1.out.trans (G9.out.mono B1.out.size)⟩
  · have hr' : rBad r = false := by simpa using hr
    have e0 : wrapR p s r m = (wrapV p s r m, 0) := by unfold wrapR; rw [if_neg hr]
    rw [e0] at hw
    have wf := wrapV_wf p s r m ls lm h0 h1
    have wf2 := wrapV_wf p2 s2 r m ls2 lm h0 h1
    have ha := fun wx (h : Sl wx (.slice a0 n c0) p) (h2 : Sl wx (.slice a2 n2 d2) p2) (ht : T wx) => P.again p p2 s2 (wrapV p s r m) (.slice a0 n c0) (.slice a2 n2 d2) wx ls2 wf h h2 (by omega) (by omega) ht
    rw [again_wrap _ _ _ _ _ _ hr'] at ha
    have hu := fun wx (h : Sl wx (.slice a2 n2 d2) p2) (ht : T wx) => P.unwrap p2 (wrapV p2 s2 r m) (.slice a2 n2 d2) wx wf2 h (by omega) ht
    rw [unwrap_wrap _ _ _ _ hr'] at hu
    have hq := fun wx (h : Sl wx (.slice a2 n2 d2) p2) => rwrap_any p2 s2 ls2 r h0 h1 m lm (.slice a2 n2 d2) wx h (by omega)
    rw [show wrapR p2 s2 r m = (wrapV p2 s2 r m, 0) by unfold wrapR; rw [if_neg hr]] at hq
    have ou := fun wx => ours10_any _ wf2 wx
    have eqx := fun xo yo wx => eqlWR wf2 wf2 xo yo wx
    rw [sameWr_self] at eqx
    have eqm := fun xo yo wx => eqlDg m m lm lm xo yo wx
    rw [show (m == m) = true by simp] at eqm
    have cms : (u8s m).toArray.size = 32 := by simp [u8s_length, lm]
    have cmo : (u8s m).toArray.all (·.oneCell') = true := u8s_one _
    have cws := wrC_size wf
    have cwo := wrC_one (wrapV p s r m)
    have cxs := wrC_size wf2
    have cxo := wrC_one (wrapV p2 s2 r m)
    obtain ⟨CW, hCW⟩ : ∃ C, C = wrC (wrapV p s r m) := ⟨_, rfl⟩
    obtain ⟨CX, hCX⟩ : ∃ C, C = wrC (wrapV p2 s2 r m) := ⟨_, rfl⟩
    rw [← hCW] at cws cwo
    rw [← hCX] at cxs cxo ou eqx
    rw [← hCM] at cms cmo eqm
    have hw2 : ∀ wx, Sl wx (.slice a0 n c0) p → T wx → Calls Tryd.prog 9 #[.slice a0 n c0, .agg CS, .int .i64 r, .agg CM] wx fun e w' => e = .returned (.tuple #[.agg CW, .int .i64 0]) ∧ Below wx.heap.size wx w' := fun wx h ht => by rw [hCS, hCM, hCW]; exact hw wx h ht
    have ha2 : ∀ wx, Sl wx (.slice a0 n c0) p → Sl wx (.slice a2 n2 d2) p2 → T wx → Calls Tryd.prog 17 #[.slice a0 n c0, .slice a2 n2 d2, .agg C2, .agg CW] wx fun e w' => e = .returned (.tuple #[.agg CX, .int .i64 0]) ∧ Below wx.heap.size wx w' := fun wx h h2 ht => by rw [hC2, hCW, hCX]; exact ha wx h h2 ht
    have hu2 : ∀ wx, Sl wx (.slice a2 n2 d2) p2 → T wx → Calls Tryd.prog 14 #[.slice a2 n2 d2, .agg CX] wx fun e w' => e = .returned (.tuple #[.agg CM, .int .i64 0]) ∧ Below wx.heap.size wx w' := fun wx h ht => by rw [hCM, hCX]; exact hu wx h ht
    have hq2 : ∀ wx, Sl wx (.slice a2 n2 d2) p2 → Calls Tryd.prog 10 #[.slice a2 n2 d2, .agg C2, .int .i64 r, .agg CM] wx fun e w' => e = .returned (.tuple #[.agg CX, .int .i64 0]) ∧ Below wx.heap.size wx w' := fun wx h => by rw [hC2, hCM, hCX]; exact hq wx h
    have HW := Lib.hid hw2; have HA := Lib.hid ha2; have HU := Lib.hid hu2; have HQ := Lib.hid hq2; have OU := Lib.hid ou; have EQX := Lib.hid eqx; have EQM := Lib.hid eqm; have CMS := Lib.hid cms; have CMO := Lib.hid cmo; have CWS := Lib.hid cws; have CWO := Lib.hid cwo; have CXS := Lib.hid cxs; have CXO := Lib.hid cxo
    clear hw hw2 ha ha2 hu hu2 hq hq2 ou eqx eqm cms cmo cws cwo cxs cxo zwo hle hf hf' h0 h1 ls lm ls2 hn hn2 lp2 e0 hr hr' wf wf2 hCS hCM hC2 hCW hCX hZW hbig
    go_enter Tryd.func6, Tryd.ntmps6
    go_upto_region 1 with fail
    rw [← hw1]
    clear hw1
    go_wp2_with (refine wpList_load_all (by rfl) 26 _ (by rfl) w.heap.size (by rfl) _ Tryd.underlying26 (by rfl) AA _ AX.out (by rw [AS.out]; exact infoAskW) ?_)
    refine (FAR.out w1).mono ?_
    rintro e x0 ⟨rfl, hb0⟩
    have G0 := Lib.hid hb0
    clear hb0
    have cf1 : x0.cell? ⟨w.heap.size, 0, none⟩ = some (.slice a0 n c0) := ((AX.out.below G0.out AX.out.lt).cell 0).trans Q0.out
    have cf2 : x0.cell? ⟨w.heap.size, 17, none⟩ = some (.int .i64 r) := ((AX.out.below G0.out AX.out.lt).cell 17).trans QR.out
    go_wp2_with (first
      | (refine wpList_load_wanted (by rfl) 26 _ (by rfl) w.heap.size (by rfl) _ Tryd.underlying26 (by rfl) AA _ (AX.out.below G0.out AX.out.lt) (by rw [AS.out]; exact infoAskW) ?_)
      | (refine wpList_load_is_wanted (by rfl) 23 _ (by rfl) w.heap.size 1 16 (by rfl) _ Tryd.underlying23 (by rfl) infoS16 AA _ (AX.out.below G0.out AX.out.lt) (by rw [AS.out]; decide) CS QS.out ?_)
      | (refine wpList_load_is_wanted (by rfl) 24 _ (by rfl) w.heap.size 18 32 (by rfl) _ Tryd.underlying24 (by rfl) infoDg AA _ (AX.out.below G0.out AX.out.lt) (by rw [AS.out]; decide) CM QM.out ?_)
      | (refine wpList_load_wanted (by rfl) 23 _ (by rfl) (w.heap.size + 1) (by rfl) _ Tryd.underlying23 (by rfl) C2 _ (AY.out.below G0.out AY.out.lt) (by rw [C2S.out]; exact infoS16) ?_))
    clear cf1 cf2
    refine (HW.out _ (HP.out.below G0.out) (hb HT.out G0.out)).mono ?_
    rintro e x3 ⟨rfl, hb⟩
    have G3 : Hid (Below w1.heap.size w1 x3) := Lib.hid (G0.out.trans (hb.mono G0.out.size))
    clear hb
    clear G0
    have G4 : Hid (Below w1.heap.size w1 (x3.alloc (.cells CW 30))) := Lib.hid (G3.out.alloc G3.out.size _)
    have W3 := Lib.hid (at_new x3 CW 30)
    have hz := HXW.out
    go_upto_region 4 with (refine wpList_store_new (by rfl) 30 _ _ (by rfl) (by rfl) CW _ _ (by rfl) (by rfl) (by rw [CWS.out]; exact infoWrP) (by first | rfl | rw [CWS.out, ZWS.out]) CWO.out ?_)
    clear hz
    obtain ⟨g4, hg⟩ : ∃ g, g = x3.heap.size := ⟨_, rfl⟩
    rw [← hg] at W3 ⊢
    clear hg
    generalize (x3.alloc (.cells CW 30)) = y4 at *
    clear G3
    have cf5 : y4.cell? ⟨w.heap.size, 0, none⟩ = some (.slice a0 n c0) := ((AX.out.below G4.out AX.out.lt).cell 0).trans Q0.out
    have cf6 : y4.cell? ⟨w.heap.size, 17, none⟩ = some (.int .i64 r) := ((AX.out.below G4.out AX.out.lt).cell 17).trans QR.out
    go_wp2_with (first
      | (refine wpList_load_wanted (by rfl) 26 _ (by rfl) w.heap.size (by rfl) _ Tryd.underlying26 (by rfl) AA _ (AX.out.below G4.out AX.out.lt) (by rw [AS.out]; exact infoAskW) ?_)
      | (refine wpList_load_is_wanted (by rfl) 23 _ (by rfl) w.heap.size 1 16 (by rfl) _ Tryd.underlying23 (by rfl) infoS16 AA _ (AX.out.below G4.out AX.out.lt) (by rw [AS.out]; decide) CS QS.out ?_)
      | (refine wpList_load_is_wanted (by rfl) 24 _ (by rfl) w.heap.size 18 32 (by rfl) _ Tryd.underlying24 (by rfl) infoDg AA _ (AX.out.below G4.out AX.out.lt) (by rw [AS.out]; decide) CM QM.out ?_)
      | (refine wpList_load_wanted (by rfl) 23 _ (by rfl) (w.heap.size + 1) (by rfl) _ Tryd.underlying23 (by rfl) C2 _ (AY.out.below G4.out AY.out.lt) (by rw [C2S.out]; exact infoS16) ?_)
      | (refine wpList_load_wanted (by rfl) 30 _ (by rfl) g4 (by rfl) _ Tryd.underlying30 (by rfl) CW _ W3.out (by rw [CWS.out]; exact infoWrP) ?_))
    clear cf5 cf6
    refine (HA.out _ (HP.out.below G4.out) (HP2.out.below G4.out) (hb HT.out G4.out)).mono ?_
    rintro e x7 ⟨rfl, hb⟩
    have G7 : Hid (Below w1.heap.size w1 x7) := Lib.hid (G4.out.trans (hb.mono G4.out.size))
    have W3_7 := Lib.hid (W3.out.below hb W3.out.lt)
    clear hb
    clear W3 G4
    have G8 : Hid (Below w1.heap.size w1 (x7.alloc (.cells CX 30))) := Lib.hid (G7.out.alloc G7.out.size _)
    have W3_8 := Lib.hid (W3_7.out.alloc (.cells CX 30))
    have W5 := Lib.hid (at_new x7 CX 30)
    have hz := HXW.out
    go_upto_region 5 with (refine wpList_store_new (by rfl) 30 _ _ (by rfl) (by rfl) CX _ _ (by rfl) (by rfl) (by rw [CXS.out]; exact infoWrP) (by first | rfl | rw [CXS.out, ZWS.out]) CXO.out ?_)
    clear hz
    obtain ⟨g8, hg⟩ : ∃ g, g = x7.heap.size := ⟨_, rfl⟩
    rw [← hg] at W5 ⊢
    clear hg
    generalize (x7.alloc (.cells CX 30)) = y8 at *
    clear W3_7 G7
    have cf9 : y8.cell? ⟨w.heap.size, 0, none⟩ = some (.slice a0 n c0) := ((AX.out.below G8.out AX.out.lt).cell 0).trans Q0.out
    have cf10 : y8.cell? ⟨w.heap.size, 17, none⟩ = some (.int .i64 r) := ((AX.out.below G8.out AX.out.lt).cell 17).trans QR.out
    go_wp2_with (first
      | (refine wpList_load_wanted (by rfl) 26 _ (by rfl) w.heap.size (by rfl) _ Tryd.underlying26 (by rfl) AA _ (AX.out.below G8.out AX.out.lt) (by rw [AS.out]; exact infoAskW) ?_)
      | (refine wpList_load_is_wanted (by rfl) 23 _ (by rfl) w.heap.size 1 16 (by rfl) _ Tryd.underlying23 (by rfl) infoS16 AA _ (AX.out.below G8.out AX.out.lt) (by rw [AS.out]; decide) CS QS.out ?_)
      | (refine wpList_load_is_wanted (by rfl) 24 _ (by rfl) w.heap.size 18 32 (by rfl) _ Tryd.underlying24 (by rfl) infoDg AA _ (AX.out.below G8.out AX.out.lt) (by rw [AS.out]; decide) CM QM.out ?_)
      | (refine wpList_load_wanted (by rfl) 23 _ (by rfl) (w.heap.size + 1) (by rfl) _ Tryd.underlying23 (by rfl) C2 _ (AY.out.below G8.out AY.out.lt) (by rw [C2S.out]; exact infoS16) ?_)
      | (refine wpList_load_wanted (by rfl) 30 _ (by rfl) g4 (by rfl) _ Tryd.underlying30 (by rfl) CW _ W3_8.out (by rw [CWS.out]; exact infoWrP) ?_)
      | (refine wpList_load_wanted (by rfl) 30 _ (by rfl) g8 (by rfl) _ Tryd.underlying30 (by rfl) CX _ W5.out (by rw [CXS.out]; exact infoWrP) ?_))
    clear cf9 cf10
    refine (HU.out _ (HP2.out.below G8.out) (hb HT.out G8.out)).mono ?_
    rintro e x11 ⟨rfl, hb⟩
    have G11 : Hid (Below w1.heap.size w1 x11) := Lib.hid (G8.out.trans (hb.mono G8.out.size))
    have W3_11 := Lib.hid (W3_8.out.below hb W3_8.out.lt)
    have W5_11 := Lib.hid (W5.out.below hb W5.out.lt)
    clear hb
    clear W3_8 W5 G8
    have G12 : Hid (Below w1.heap.size w1 (x11.alloc (.cells CM 24))) := Lib.hid (G11.out.alloc G11.out.size _)
    have W3_12 := Lib.hid (W3_11.out.alloc (.cells CM 24))
    have W5_12 := Lib.hid (W5_11.out.alloc (.cells CM 24))
    have K7 := Lib.hid (at_new x11 CM 24)
    have hz := HX.out
    go_upto_region 8 with (refine wpList_store_new (by rfl) 24 _ _ (by rfl) (by rfl) CM _ _ (by rfl) (by rfl) (by rw [CMS.out]; exact infoDg) (by first | rfl | rw [CMS.out, ZS.out]) CMO.out ?_)
    clear hz
    obtain ⟨g12, hg⟩ : ∃ g, g = x11.heap.size := ⟨_, rfl⟩
    rw [← hg] at K7 ⊢
    clear hg
    generalize (x11.alloc (.cells CM 24)) = y12 at *
    clear W3_11 W5_11 G11
    have cf13 : y12.cell? ⟨w.heap.size, 0, none⟩ = some (.slice a0 n c0) := ((AX.out.below G12.out AX.out.lt).cell 0).trans Q0.out
    have cf14 : y12.cell? ⟨w.heap.size, 17, none⟩ = some (.int .i64 r) := ((AX.out.below G12.out AX.out.lt).cell 17).trans QR.out
    go_wp2_with (first
      | (refine wpList_load_wanted (by rfl) 26 _ (by rfl) w.heap.size (by rfl) _ Tryd.underlying26 (by rfl) AA _ (AX.out.below G12.out AX.out.lt) (by rw [AS.out]; exact infoAskW) ?_)
      | (refine wpList_load_is_wanted (by rfl) 23 _ (by rfl) w.heap.size 1 16 (by rfl) _ Tryd.underlying23 (by rfl) infoS16 AA _ (AX.out.below G12.out AX.out.lt) (by rw [AS.out]; decide) CS QS.out ?_)
      | (refine wpList_load_is_wanted (by rfl) 24 _ (by rfl) w.heap.size 18 32 (by rfl) _ Tryd.underlying24 (by rfl) infoDg AA _ (AX.out.below G12.out AX.out.lt) (by rw [AS.out]; decide) CM QM.out ?_)
      | (refine wpList_load_wanted (by rfl) 23 _ (by rfl) (w.heap.size + 1) (by rfl) _ Tryd.underlying23 (by rfl) C2 _ (AY.out.below G12.out AY.out.lt) (by rw [C2S.out]; exact infoS16) ?_)
      | (refine wpList_load_wanted (by rfl) 30 _ (by rfl) g4 (by rfl) _ Tryd.underlying30 (by rfl) CW _ W3_12.out (by rw [CWS.out]; exact infoWrP) ?_)
      | (refine wpList_load_wanted (by rfl) 30 _ (by rfl) g8 (by rfl) _ Tryd.underlying30 (by rfl) CX _ W5_12.out (by rw [CXS.out]; exact infoWrP) ?_)
      | (refine wpList_load_wanted (by rfl) 24 _ (by rfl) g12 (by rfl) _ Tryd.underlying24 (by rfl) CM _ K7.out (by rw [CMS.out]; exact infoDg) ?_))
    clear cf13 cf14
    refine (HQ.out _ (HP2.out.below G12.out)).mono ?_
    rintro e x15 ⟨rfl, hb⟩
    have G15 : Hid (Below w1.heap.size w1 x15) := Lib.hid (G12.out.trans (hb.mono G12.out.size))
    have W3_15 := Lib.hid (W3_12.out.below hb W3_12.out.lt)
    have W5_15 := Lib.hid (W5_12.out.below hb W5_12.out.lt)
    have K7_15 := Lib.hid (K7.out.below hb K7.out.lt)
    clear hb
    clear W3_12 W5_12 K7 G12
    have G16 : Hid (Below w1.heap.size w1 (x15.alloc (.cells CX 34))) := Lib.hid (G15.out.alloc G15.out.size _)
    have W3_16 := Lib.hid (W3_15.out.alloc (.cells CX 34))
    have W5_16 := Lib.hid (W5_15.out.alloc (.cells CX 34))
    have K7_16 := Lib.hid (K7_15.out.alloc (.cells CX 34))
    have W9 := Lib.hid (at_new x15 CX 34)
    have hz := HXR.out
    go_upto_region 9 with (refine wpList_store_new (by rfl) 34 _ _ (by rfl) (by rfl) CX _ _ (by rfl) (by rfl) (by rw [CXS.out]; exact infoWrR) (by first | rfl | rw [CXS.out, ZWS.out]) CXO.out ?_)
    clear hz
    obtain ⟨g16, hg⟩ : ∃ g, g = x15.heap.size := ⟨_, rfl⟩
    rw [← hg] at W9 ⊢
    clear hg
    generalize (x15.alloc (.cells CX 34)) = y16 at *
    clear W3_15 W5_15 K7_15 G15
    have D0 : Hid (Below y16.heap.size y16 y16.drew) := Lib.hid (Below.refl _ _).drew
    have AW := Lib.hid (AX.out.below G16.out AX.out.lt)
    refine wp_region_plan_in (fun x => Below y16.heap.size y16 x) (.take 0 (.take 1 (.take 2 (.take 3 (.take 4 (.take 5 (.take 6 (.take 7 (.take 8 (.take 9 (.take 10 (.take 11 (.take 12 (.take 13 (.take 14 (.take 15 (.take 16 (.take 17 (.take 19 (.sole 18 (.take 20 (.take 21 (.take 22 (.sole 23 (.take 24 (.take 25 .done)))))))))))))))))))))))))) (by kernel_rfl) (by kernel_rfl) (by kernel_rfl) D0.out ?_
    (first | (refine plan_move _ _ (by rfl) (by rfl) (.inl (by rfl)) (by first | (with_reducible exact Mem.ev_const _ _) | (with_reducible exact Mem.ev_zero _ _ _) | (with_reducible (apply Eq.trans (Mem.ev_tmp _ _ _)); simp only [List.getD_cons_succ, List.getD_cons_zero] <;> rfl)) ?_) | (refine plan_move _ _ (by rfl) (by rfl) (.inr (by rfl)) (by first | (with_reducible exact Mem.ev_const _ _) | (with_reducible exact Mem.ev_zero _ _ _) | (with_reducible (apply Eq.trans (Mem.ev_tmp _ _ _)); simp only [List.getD_cons_succ, List.getD_cons_zero] <;> rfl)) ?_) | (refine plan_pick_t _ _ _ _ (by rfl) (by rfl) (by rfl) (by first | (with_reducible exact Mem.ev_const _ _) | (with_reducible exact Mem.ev_zero _ _ _) | (with_reducible (apply Eq.trans (Mem.ev_tmp _ _ _)); simp only [List.getD_cons_succ, List.getD_cons_zero] <;> rfl)) (by first | (with_reducible exact Mem.ev_const _ _) | (with_reducible exact Mem.ev_zero _ _ _) | (with_reducible (apply Eq.trans (Mem.ev_tmp _ _ _)); simp only [List.getD_cons_succ, List.getD_cons_zero] <;> rfl)) ?_) | (refine plan_pick_f _ _ _ _ (by rfl) (by rfl) (by rfl) (by first | (with_reducible exact Mem.ev_const _ _) | (with_reducible exact Mem.ev_zero _ _ _) | (with_reducible (apply Eq.trans (Mem.ev_tmp _ _ _)); simp only [List.getD_cons_succ, List.getD_cons_zero] <;> rfl)) (by first | (with_reducible exact Mem.ev_const _ _) | (with_reducible exact Mem.ev_zero _ _ _) | (with_reducible (apply Eq.trans (Mem.ev_tmp _ _ _)); simp only [List.getD_cons_succ, List.getD_cons_zero] <;> rfl)) ?_))
    (simp only [Act.put, List.setIfInBounds_toArray, List.set_cons_zero, List.set_cons_succ])
    refine plan_bin _ _ _ _ _ _ _ (.bool true) (by rfl) (by rfl) (by rfl) (by first | (with_reducible exact Mem.ev_const _ _) | (with_reducible exact Mem.ev_zero _ _ _) | (with_reducible (apply Eq.trans (Mem.ev_tmp _ _ _)); simp only [List.getD_cons_succ, List.getD_cons_zero] <;> rfl)) (by rfl) (fun wx => o_ieq _ _ _ _ _ wx) ?_
    (simp only [Act.put, List.setIfInBounds_toArray, List.set_cons_zero, List.set_cons_succ])
    (first | (refine plan_move _ _ (by rfl) (by rfl) (.inl (by rfl)) (by first | (with_reducible exact Mem.ev_const _ _) | (with_reducible exact Mem.ev_zero _ _ _) | (with_reducible (apply Eq.trans (Mem.ev_tmp _ _ _)); simp only [List.getD_cons_succ, List.getD_cons_zero] <;> rfl)) ?_) | (refine plan_move _ _ (by rfl) (by rfl) (.inr (by rfl)) (by first | (with_reducible exact Mem.ev_const _ _) | (with_reducible exact Mem.ev_zero _ _ _) | (with_reducible (apply Eq.trans (Mem.ev_tmp _ _ _)); simp only [List.getD_cons_succ, List.getD_cons_zero] <;> rfl)) ?_) | (refine plan_pick_t _ _ _ _ (by rfl) (by rfl) (by rfl) (by first | (with_reducible exact Mem.ev_const _ _) | (with_reducible exact Mem.ev_zero _ _ _) | (with_reducible (apply Eq.trans (Mem.ev_tmp _ _ _)); simp only [List.getD_cons_succ, List.getD_cons_zero] <;> rfl)) (by first | (with_reducible exact Mem.ev_const _ _) | (with_reducible exact Mem.ev_zero _ _ _) | (with_reducible (apply Eq.trans (Mem.ev_tmp _ _ _)); simp only [List.getD_cons_succ, List.getD_cons_zero] <;> rfl)) ?_) | (refine plan_pick_f _ _ _ _ (by rfl) (by rfl) (by rfl) (by first | (with_reducible exact Mem.ev_const _ _) | (with_reducible exact Mem.ev_zero _ _ _) | (with_reducible (apply Eq.trans (Mem.ev_tmp _ _ _)); simp only [List.getD_cons_succ, List.getD_cons_zero] <;> rfl)) (by first | (with_reducible exact Mem.ev_const _ _) | (with_reducible exact Mem.ev_zero _ _ _) | (with_reducible (apply Eq.trans (Mem.ev_tmp _ _ _)); simp only [List.getD_cons_succ, List.getD_cons_zero] <;> rfl)) ?_))
    (simp only [Act.put, List.setIfInBounds_toArray, List.set_cons_zero, List.set_cons_succ])
    (first | (refine plan_move _ _ (by rfl) (by rfl) (.inl (by rfl)) (by first | (with_reducible exact Mem.ev_const _ _) | (with_reducible exact Mem.ev_zero _ _ _) | (with_reducible (apply Eq.trans (Mem.ev_tmp _ _ _)); simp only [List.getD_cons_succ, List.getD_cons_zero] <;> rfl)) ?_) | (refine plan_move _ _ (by rfl) (by rfl) (.inr (by rfl)) (by first | (with_reducible exact Mem.ev_const _ _) | (with_reducible exact Mem.ev_zero _ _ _) | (with_reducible (apply Eq.trans (Mem.ev_tmp _ _ _)); simp only [List.getD_cons_succ, List.getD_cons_zero] <;> rfl)) ?_) | (refine plan_pick_t _ _ _ _ (by rfl) (by rfl) (by rfl) (by first | (with_reducible exact Mem.ev_const _ _) | (with_reducible exact Mem.ev_zero _ _ _) | (with_reducible (apply Eq.trans (Mem.ev_tmp _ _ _)); simp only [List.getD_cons_succ, List.getD_cons_zero] <;> rfl)) (by first | (with_reducible exact Mem.ev_const _ _) | (with_reducible exact Mem.ev_zero _ _ _) | (with_reducible (apply Eq.trans (Mem.ev_tmp _ _ _)); simp only [List.getD_cons_succ, List.getD_cons_zero] <;> rfl)) ?_) | (refine plan_pick_f _ _ _ _ (by rfl) (by rfl) (by rfl) (by first | (with_reducible exact Mem.ev_const _ _) | (with_reducible exact Mem.ev_zero _ _ _) | (with_reducible (apply Eq.trans (Mem.ev_tmp _ _ _)); simp only [List.getD_cons_succ, List.getD_cons_zero] <;> rfl)) (by first | (with_reducible exact Mem.ev_const _ _) | (with_reducible exact Mem.ev_zero _ _ _) | (with_reducible (apply Eq.trans (Mem.ev_tmp _ _ _)); simp only [List.getD_cons_succ, List.getD_cons_zero] <;> rfl)) ?_))
    (simp only [Act.put, List.setIfInBounds_toArray, List.set_cons_zero, List.set_cons_succ])
    refine plan_bin _ _ _ _ _ _ _ (.bool true) (by rfl) (by rfl) (by rfl) (by first | (with_reducible exact Mem.ev_const _ _) | (with_reducible exact Mem.ev_zero _ _ _) | (with_reducible (apply Eq.trans (Mem.ev_tmp _ _ _)); simp only [List.getD_cons_succ, List.getD_cons_zero] <;> rfl)) (by rfl) (fun wx => o_ieq _ _ _ _ _ wx) ?_
    (simp only [Act.put, List.setIfInBounds_toArray, List.set_cons_zero, List.set_cons_succ])
    refine plan_pick_t _ _ _ _ (by rfl) (by rfl) (by rfl) (by first | (with_reducible exact Mem.ev_const _ _) | (with_reducible exact Mem.ev_zero _ _ _) | (with_reducible (apply Eq.trans (Mem.ev_tmp _ _ _)); simp only [List.getD_cons_succ, List.getD_cons_zero] <;> rfl)) (by first | (with_reducible exact Mem.ev_const _ _) | (with_reducible exact Mem.ev_zero _ _ _) | (with_reducible (apply Eq.trans (Mem.ev_tmp _ _ _)); simp only [List.getD_cons_succ, List.getD_cons_zero] <;> rfl)) ?_
    (simp only [Act.put, List.setIfInBounds_toArray, List.set_cons_zero, List.set_cons_succ])
    (first | (refine plan_move _ _ (by rfl) (by rfl) (.inl (by rfl)) (by first | (with_reducible exact Mem.ev_const _ _) | (with_reducible exact Mem.ev_zero _ _ _) | (with_reducible (apply Eq.trans (Mem.ev_tmp _ _ _)); simp only [List.getD_cons_succ, List.getD_cons_zero] <;> rfl)) ?_) | (refine plan_move _ _ (by rfl) (by rfl) (.inr (by rfl)) (by first | (with_reducible exact Mem.ev_const _ _) | (with_reducible exact Mem.ev_zero _ _ _) | (with_reducible (apply Eq.trans (Mem.ev_tmp _ _ _)); simp only [List.getD_cons_succ, List.getD_cons_zero] <;> rfl)) ?_) | (refine plan_pick_t _ _ _ _ (by rfl) (by rfl) (by rfl) (by first | (with_reducible exact Mem.ev_const _ _) | (with_reducible exact Mem.ev_zero _ _ _) | (with_reducible (apply Eq.trans (Mem.ev_tmp _ _ _)); simp only [List.getD_cons_succ, List.getD_cons_zero] <;> rfl)) (by first | (with_reducible exact Mem.ev_const _ _) | (with_reducible exact Mem.ev_zero _ _ _) | (with_reducible (apply Eq.trans (Mem.ev_tmp _ _ _)); simp only [List.getD_cons_succ, List.getD_cons_zero] <;> rfl)) ?_) | (refine plan_pick_f _ _ _ _ (by rfl) (by rfl) (by rfl) (by first | (with_reducible exact Mem.ev_const _ _) | (with_reducible exact Mem.ev_zero _ _ _) | (with_reducible (apply Eq.trans (Mem.ev_tmp _ _ _)); simp only [List.getD_cons_succ, List.getD_cons_zero] <;> rfl)) (by first | (with_reducible exact Mem.ev_const _ _) | (with_reducible exact Mem.ev_zero _ _ _) | (with_reducible (apply Eq.trans (Mem.ev_tmp _ _ _)); simp only [List.getD_cons_succ, List.getD_cons_zero] <;> rfl)) ?_))
    (simp only [Act.put, List.setIfInBounds_toArray, List.set_cons_zero, List.set_cons_succ])
    refine plan_row 24 _ g12 _ CM 24 (by rfl) (by rfl) (by rfl) (by first | (with_reducible exact Mem.ev_const _ _) | (with_reducible exact Mem.ev_zero _ _ _) | (with_reducible (apply Eq.trans (Mem.ev_tmp _ _ _)); simp only [List.getD_cons_succ, List.getD_cons_zero] <;> rfl)) (fun w' hw' => K7_16.out.below hw' K7_16.out.lt) Tryd.underlying24 (by rfl) (by rw [CMS.out]; exact infoDg) ?_
    (simp only [Act.put, List.setIfInBounds_toArray, List.set_cons_zero, List.set_cons_succ])
    refine plan_field 26 _ 3 w.heap.size 0 ⟨w.heap.size, 18, none⟩ (by rfl) (by rfl) (by rfl) (by first | (with_reducible exact Mem.ev_const _ _) | (with_reducible exact Mem.ev_zero _ _ _) | (with_reducible (apply Eq.trans (Mem.ev_tmp _ _ _)); simp only [List.getD_cons_succ, List.getD_cons_zero] <;> rfl)) (fun wx => by go_simp) ?_
    (simp only [Act.put, List.setIfInBounds_toArray, List.set_cons_zero, List.set_cons_succ])
    refine plan_row_at 24 _ w.heap.size 18 32 _ AA CM 26 (by rfl) (by rfl) (by rfl) (by first | (with_reducible exact Mem.ev_const _ _) | (with_reducible exact Mem.ev_zero _ _ _) | (with_reducible (apply Eq.trans (Mem.ev_tmp _ _ _)); simp only [List.getD_cons_succ, List.getD_cons_zero] <;> rfl)) (fun w' hw' => AW.out.below hw' AW.out.lt) Tryd.underlying24 (by rfl) infoDg (by rw [AS.out]; decide) QM.out ?_
    (simp only [Act.put, List.setIfInBounds_toArray, List.set_cons_zero, List.set_cons_succ])
    refine plan_bin _ _ _ _ _ _ _ (.bool true) (by rfl) (by rfl) (by rfl) (by first | (with_reducible exact Mem.ev_const _ _) | (with_reducible exact Mem.ev_zero _ _ _) | (with_reducible (apply Eq.trans (Mem.ev_tmp _ _ _)); simp only [List.getD_cons_succ, List.getD_cons_zero] <;> rfl)) (by first | (with_reducible exact Mem.ev_const _ _) | (with_reducible exact Mem.ev_zero _ _ _) | (with_reducible (apply Eq.trans (Mem.ev_tmp _ _ _)); simp only [List.getD_cons_succ, List.getD_cons_zero] <;> rfl)) (fun wx => EQM.out _ _ wx) ?_
    (simp only [Act.put, List.setIfInBounds_toArray, List.set_cons_zero, List.set_cons_succ])
    refine plan_pick_t _ _ _ _ (by rfl) (by rfl) (by rfl) (by first | (with_reducible exact Mem.ev_const _ _) | (with_reducible exact Mem.ev_zero _ _ _) | (with_reducible (apply Eq.trans (Mem.ev_tmp _ _ _)); simp only [List.getD_cons_succ, List.getD_cons_zero] <;> rfl)) (by first | (with_reducible exact Mem.ev_const _ _) | (with_reducible exact Mem.ev_zero _ _ _) | (with_reducible (apply Eq.trans (Mem.ev_tmp _ _ _)); simp only [List.getD_cons_succ, List.getD_cons_zero] <;> rfl)) ?_
    (simp only [Act.put, List.setIfInBounds_toArray, List.set_cons_zero, List.set_cons_succ])
    (first | (refine plan_move _ _ (by rfl) (by rfl) (.inl (by rfl)) (by first | (with_reducible exact Mem.ev_const _ _) | (with_reducible exact Mem.ev_zero _ _ _) | (with_reducible (apply Eq.trans (Mem.ev_tmp _ _ _)); simp only [List.getD_cons_succ, List.getD_cons_zero] <;> rfl)) ?_) | (refine plan_move _ _ (by rfl) (by rfl) (.inr (by rfl)) (by first | (with_reducible exact Mem.ev_const _ _) | (with_reducible exact Mem.ev_zero _ _ _) | (with_reducible (apply Eq.trans (Mem.ev_tmp _ _ _)); simp only [List.getD_cons_succ, List.getD_cons_zero] <;> rfl)) ?_) | (refine plan_pick_t _ _ _ _ (by rfl) (by rfl) (by rfl) (by first | (with_reducible exact Mem.ev_const _ _) | (with_reducible exact Mem.ev_zero _ _ _) | (with_reducible (apply Eq.trans (Mem.ev_tmp _ _ _)); simp only [List.getD_cons_succ, List.getD_cons_zero] <;> rfl)) (by first | (with_reducible exact Mem.ev_const _ _) | (with_reducible exact Mem.ev_zero _ _ _) | (with_reducible (apply Eq.trans (Mem.ev_tmp _ _ _)); simp only [List.getD_cons_succ, List.getD_cons_zero] <;> rfl)) ?_) | (refine plan_pick_f _ _ _ _ (by rfl) (by rfl) (by rfl) (by first | (with_reducible exact Mem.ev_const _ _) | (with_reducible exact Mem.ev_zero _ _ _) | (with_reducible (apply Eq.trans (Mem.ev_tmp _ _ _)); simp only [List.getD_cons_succ, List.getD_cons_zero] <;> rfl)) (by first | (with_reducible exact Mem.ev_const _ _) | (with_reducible exact Mem.ev_zero _ _ _) | (with_reducible (apply Eq.trans (Mem.ev_tmp _ _ _)); simp only [List.getD_cons_succ, List.getD_cons_zero] <;> rfl)) ?_))
    (simp only [Act.put, List.setIfInBounds_toArray, List.set_cons_zero, List.set_cons_succ])
    (first | (refine plan_move _ _ (by rfl) (by rfl) (.inl (by rfl)) (by first | (with_reducible exact Mem.ev_const _ _) | (with_reducible exact Mem.ev_zero _ _ _) | (with_reducible (apply Eq.trans (Mem.ev_tmp _ _ _)); simp only [List.getD_cons_succ, List.getD_cons_zero] <;> rfl)) ?_) | (refine plan_move _ _ (by rfl) (by rfl) (.inr (by rfl)) (by first | (with_reducible exact Mem.ev_const _ _) | (with_reducible exact Mem.ev_zero _ _ _) | (with_reducible (apply Eq.trans (Mem.ev_tmp _ _ _)); simp only [List.getD_cons_succ, List.getD_cons_zero] <;> rfl)) ?_) | (refine plan_pick_t _ _ _ _ (by rfl) (by rfl) (by rfl) (by first | (with_reducible exact Mem.ev_const _ _) | (with_reducible exact Mem.ev_zero _ _ _) | (with_reducible (apply Eq.trans (Mem.ev_tmp _ _ _)); simp only [List.getD_cons_succ, List.getD_cons_zero] <;> rfl)) (by first | (with_reducible exact Mem.ev_const _ _) | (with_reducible exact Mem.ev_zero _ _ _) | (with_reducible (apply Eq.trans (Mem.ev_tmp _ _ _)); simp only [List.getD_cons_succ, List.getD_cons_zero] <;> rfl)) ?_) | (refine plan_pick_f _ _ _ _ (by rfl) (by rfl) (by rfl) (by first | (with_reducible exact Mem.ev_const _ _) | (with_reducible exact Mem.ev_zero _ _ _) | (with_reducible (apply Eq.trans (Mem.ev_tmp _ _ _)); simp only [List.getD_cons_succ, List.getD_cons_zero] <;> rfl)) (by first | (with_reducible exact Mem.ev_const _ _) | (with_reducible exact Mem.ev_zero _ _ _) | (with_reducible (apply Eq.trans (Mem.ev_tmp _ _ _)); simp only [List.getD_cons_succ, List.getD_cons_zero] <;> rfl)) ?_))
    (simp only [Act.put, List.setIfInBounds_toArray, List.set_cons_zero, List.set_cons_succ])
    refine plan_bin _ _ _ _ _ _ _ (.bool true) (by rfl) (by rfl) (by rfl) (by first | (with_reducible exact Mem.ev_const _ _) | (with_reducible exact Mem.ev_zero _ _ _) | (with_reducible (apply Eq.trans (Mem.ev_tmp _ _ _)); simp only [List.getD_cons_succ, List.getD_cons_zero] <;> rfl)) (by rfl) (fun wx => o_ieq _ _ _ _ _ wx) ?_
    (simp only [Act.put, List.setIfInBounds_toArray, List.set_cons_zero, List.set_cons_succ])
    refine plan_pick_t _ _ _ _ (by rfl) (by rfl) (by rfl) (by first | (with_reducible exact Mem.ev_const _ _) | (with_reducible exact Mem.ev_zero _ _ _) | (with_reducible (apply Eq.trans (Mem.ev_tmp _ _ _)); simp only [List.getD_cons_succ, List.getD_cons_zero] <;> rfl)) (by first | (with_reducible exact Mem.ev_const _ _) | (with_reducible exact Mem.ev_zero _ _ _) | (with_reducible (apply Eq.trans (Mem.ev_tmp _ _ _)); simp only [List.getD_cons_succ, List.getD_cons_zero] <;> rfl)) ?_
    (simp only [Act.put, List.setIfInBounds_toArray, List.set_cons_zero, List.set_cons_succ])
    (first | (refine plan_move _ _ (by rfl) (by rfl) (.inl (by rfl)) (by first | (with_reducible exact Mem.ev_const _ _) | (with_reducible exact Mem.ev_zero _ _ _) | (with_reducible (apply Eq.trans (Mem.ev_tmp _ _ _)); simp only [List.getD_cons_succ, List.getD_cons_zero] <;> rfl)) ?_) | (refine plan_move _ _ (by rfl) (by rfl) (.inr (by rfl)) (by first | (with_reducible exact Mem.ev_const _ _) | (with_reducible exact Mem.ev_zero _ _ _) | (with_reducible (apply Eq.trans (Mem.ev_tmp _ _ _)); simp only [List.getD_cons_succ, List.getD_cons_zero] <;> rfl)) ?_) | (refine plan_pick_t _ _ _ _ (by rfl) (by rfl) (by rfl) (by first | (with_reducible exact Mem.ev_const _ _) | (with_reducible exact Mem.ev_zero _ _ _) | (with_reducible (apply Eq.trans (Mem.ev_tmp _ _ _)); simp only [List.getD_cons_succ, List.getD_cons_zero] <;> rfl)) (by first | (with_reducible exact Mem.ev_const _ _) | (with_reducible exact Mem.ev_zero _ _ _) | (with_reducible (apply Eq.trans (Mem.ev_tmp _ _ _)); simp only [List.getD_cons_succ, List.getD_cons_zero] <;> rfl)) ?_) | (refine plan_pick_f _ _ _ _ (by rfl) (by rfl) (by rfl) (by first | (with_reducible exact Mem.ev_const _ _) | (with_reducible exact Mem.ev_zero _ _ _) | (with_reducible (apply Eq.trans (Mem.ev_tmp _ _ _)); simp only [List.getD_cons_succ, List.getD_cons_zero] <;> rfl)) (by first | (with_reducible exact Mem.ev_const _ _) | (with_reducible exact Mem.ev_zero _ _ _) | (with_reducible (apply Eq.trans (Mem.ev_tmp _ _ _)); simp only [List.getD_cons_succ, List.getD_cons_zero] <;> rfl)) ?_))
    (simp only [Act.put, List.setIfInBounds_toArray, List.set_cons_zero, List.set_cons_succ])
    refine plan_row 30 _ g8 _ CX 30 (by rfl) (by rfl) (by rfl) (by first | (with_reducible exact Mem.ev_const _ _) | (with_reducible exact Mem.ev_zero _ _ _) | (with_reducible (apply Eq.trans (Mem.ev_tmp _ _ _)); simp only [List.getD_cons_succ, List.getD_cons_zero] <;> rfl)) (fun w' hw' => W5_16.out.below hw' W5_16.out.lt) Tryd.underlying30 (by rfl) (by rw [CXS.out]; exact infoWrP) ?_
    (simp only [Act.put, List.setIfInBounds_toArray, List.set_cons_zero, List.set_cons_succ])
    refine plan_row 34 _ g16 _ CX 34 (by rfl) (by rfl) (by rfl) (by first | (with_reducible exact Mem.ev_const _ _) | (with_reducible exact Mem.ev_zero _ _ _) | (with_reducible (apply Eq.trans (Mem.ev_tmp _ _ _)); simp only [List.getD_cons_succ, List.getD_cons_zero] <;> rfl)) (fun w' hw' => W9.out.below hw' W9.out.lt) Tryd.underlying34 (by rfl) (by rw [CXS.out]; exact infoWrR) ?_
    (simp only [Act.put, List.setIfInBounds_toArray, List.set_cons_zero, List.set_cons_succ])
    refine plan_call 13 _ _ _ (by kernel_rfl) (by rfl) (by rfl) (by rfl) (by first | exact Mem.ev_none _ | (simp only [List.map_toArray, List.map_cons, List.map_nil, Mem.ev_tmp, List.getD_cons_succ, List.getD_cons_zero] <;> rfl)) ?_
    refine (OU.out _).mono ?_
    rintro e z18 ⟨rfl, hb18⟩
    have E18 : Hid (Below y16.heap.size y16 z18) := Lib.hid (D0.out.trans (hb18.mono D0.out.size))
    clear hb18
    refine ⟨_, rfl, E18.out, ?_⟩
    (simp only [Act.put, List.setIfInBounds_toArray, List.set_cons_zero, List.set_cons_succ])
    refine plan_bin _ _ _ _ _ _ _ (.bool true) (by rfl) (by rfl) (by rfl) (by first | (with_reducible exact Mem.ev_const _ _) | (with_reducible exact Mem.ev_zero _ _ _) | (with_reducible (apply Eq.trans (Mem.ev_tmp _ _ _)); simp only [List.getD_cons_succ, List.getD_cons_zero] <;> rfl)) (by first | (with_reducible exact Mem.ev_const _ _) | (with_reducible exact Mem.ev_zero _ _ _) | (with_reducible (apply Eq.trans (Mem.ev_tmp _ _ _)); simp only [List.getD_cons_succ, List.getD_cons_zero] <;> rfl)) (fun wx => EQX.out _ _ wx) ?_
    (simp only [Act.put, List.setIfInBounds_toArray, List.set_cons_zero, List.set_cons_succ])
    refine plan_pick_t _ _ _ _ (by rfl) (by rfl) (by rfl) (by first | (with_reducible exact Mem.ev_const _ _) | (with_reducible exact Mem.ev_zero _ _ _) | (with_reducible (apply Eq.trans (Mem.ev_tmp _ _ _)); simp only [List.getD_cons_succ, List.getD_cons_zero] <;> rfl)) (by first | (with_reducible exact Mem.ev_const _ _) | (with_reducible exact Mem.ev_zero _ _ _) | (with_reducible (apply Eq.trans (Mem.ev_tmp _ _ _)); simp only [List.getD_cons_succ, List.getD_cons_zero] <;> rfl)) ?_
    (simp only [Act.put, List.setIfInBounds_toArray, List.set_cons_zero, List.set_cons_succ])
    (first | (refine plan_move _ _ (by rfl) (by rfl) (.inl (by rfl)) (by first | (with_reducible exact Mem.ev_const _ _) | (with_reducible exact Mem.ev_zero _ _ _) | (with_reducible (apply Eq.trans (Mem.ev_tmp _ _ _)); simp only [List.getD_cons_succ, List.getD_cons_zero] <;> rfl)) ?_) | (refine plan_move _ _ (by rfl) (by rfl) (.inr (by rfl)) (by first | (with_reducible exact Mem.ev_const _ _) | (with_reducible exact Mem.ev_zero _ _ _) | (with_reducible (apply Eq.trans (Mem.ev_tmp _ _ _)); simp only [List.getD_cons_succ, List.getD_cons_zero] <;> rfl)) ?_) | (refine plan_pick_t _ _ _ _ (by rfl) (by rfl) (by rfl) (by first | (with_reducible exact Mem.ev_const _ _) | (with_reducible exact Mem.ev_zero _ _ _) | (with_reducible (apply Eq.trans (Mem.ev_tmp _ _ _)); simp only [List.getD_cons_succ, List.getD_cons_zero] <;> rfl)) (by first | (with_reducible exact Mem.ev_const _ _) | (with_reducible exact Mem.ev_zero _ _ _) | (with_reducible (apply Eq.trans (Mem.ev_tmp _ _ _)); simp only [List.getD_cons_succ, List.getD_cons_zero] <;> rfl)) ?_) | (refine plan_pick_f _ _ _ _ (by rfl) (by rfl) (by rfl) (by first | (with_reducible exact Mem.ev_const _ _) | (with_reducible exact Mem.ev_zero _ _ _) | (with_reducible (apply Eq.trans (Mem.ev_tmp _ _ _)); simp only [List.getD_cons_succ, List.getD_cons_zero] <;> rfl)) (by first | (with_reducible exact Mem.ev_const _ _) | (with_reducible exact Mem.ev_zero _ _ _) | (with_reducible (apply Eq.trans (Mem.ev_tmp _ _ _)); simp only [List.getD_cons_succ, List.getD_cons_zero] <;> rfl)) ?_))
    (simp only [Act.put, List.setIfInBounds_toArray, List.set_cons_zero, List.set_cons_succ])
    refine plan_call 8 _ _ _ (by kernel_rfl) (by rfl) (by rfl) (by rfl) (by first | exact Mem.ev_none _ | (simp only [List.map_toArray, List.map_cons, List.map_nil, Mem.ev_tmp, List.getD_cons_succ, List.getD_cons_zero] <;> rfl)) ?_
    refine (AL.out _ (hb HT.out (G16.out.trans (E18.out.mono G16.out.size)))).mono ?_
    rintro e z23 ⟨rfl, hb23⟩
    have E23 : Hid (Below y16.heap.size y16 z23) := Lib.hid (E18.out.trans (hb23.mono E18.out.size))
    clear hb23
    refine ⟨_, rfl, E23.out, ?_⟩
    (simp only [Act.put, List.setIfInBounds_toArray, List.set_cons_zero, List.set_cons_succ])
    refine plan_pick_t _ _ _ _ (by rfl) (by rfl) (by rfl) (by first | (with_reducible exact Mem.ev_const _ _) | (with_reducible exact Mem.ev_zero _ _ _) | (with_reducible (apply Eq.trans (Mem.ev_tmp _ _ _)); simp only [List.getD_cons_succ, List.getD_cons_zero] <;> rfl)) (by first | (with_reducible exact Mem.ev_const _ _) | (with_reducible exact Mem.ev_zero _ _ _) | (with_reducible (apply Eq.trans (Mem.ev_tmp _ _ _)); simp only [List.getD_cons_succ, List.getD_cons_zero] <;> rfl)) ?_
    (simp only [Act.put, List.setIfInBounds_toArray, List.set_cons_zero, List.set_cons_succ])
    (first | (refine plan_move _ _ (by rfl) (by rfl) (.inl (by rfl)) (by first | (with_reducible exact Mem.ev_const _ _) | (with_reducible exact Mem.ev_zero _ _ _) | (with_reducible (apply Eq.trans (Mem.ev_tmp _ _ _)); simp only [List.getD_cons_succ, List.getD_cons_zero] <;> rfl)) ?_) | (refine plan_move _ _ (by rfl) (by rfl) (.inr (by rfl)) (by first | (with_reducible exact Mem.ev_const _ _) | (with_reducible exact Mem.ev_zero _ _ _) | (with_reducible (apply Eq.trans (Mem.ev_tmp _ _ _)); simp only [List.getD_cons_succ, List.getD_cons_zero] <;> rfl)) ?_) | (refine plan_pick_t _ _ _ _ (by rfl) (by rfl) (by rfl) (by first | (with_reducible exact Mem.ev_const _ _) | (with_reducible exact Mem.ev_zero _ _ _) | (with_reducible (apply Eq.trans (Mem.ev_tmp _ _ _)); simp only [List.getD_cons_succ, List.getD_cons_zero] <;> rfl)) (by first | (with_reducible exact Mem.ev_const _ _) | (with_reducible exact Mem.ev_zero _ _ _) | (with_reducible (apply Eq.trans (Mem.ev_tmp _ _ _)); simp only [List.getD_cons_succ, List.getD_cons_zero] <;> rfl)) ?_) | (refine plan_pick_f _ _ _ _ (by rfl) (by rfl) (by rfl) (by first | (with_reducible exact Mem.ev_const _ _) | (with_reducible exact Mem.ev_zero _ _ _) | (with_reducible (apply Eq.trans (Mem.ev_tmp _ _ _)); simp only [List.getD_cons_succ, List.getD_cons_zero] <;> rfl)) (by first | (with_reducible exact Mem.ev_const _ _) | (with_reducible exact Mem.ev_zero _ _ _) | (with_reducible (apply Eq.trans (Mem.ev_tmp _ _ _)); simp only [List.getD_cons_succ, List.getD_cons_zero] <;> rfl)) ?_))
    (simp only [Act.put, List.setIfInBounds_toArray, List.set_cons_zero, List.set_cons_succ])
    refine plan_nil ?_
    go_wp2_with fail
    go_ret
    exact ⟨rfl, B1.out.trans ((G16.out.trans (E23.out.mono G16.out.size)).mono B1.out.size)⟩
end Sha
end Go.Proofs.YtjadjidjfkahpaaDoor
