/- Layer 10, WrapBack: what is wrapped is unwrapped by the same passphrase. -/
import Derived.Test.YtjadjidjfkahpaaDoorCW
import Derived.Deep.DeepCutAuto
namespace Go.Proofs.YtjadjidjfkahpaaDoor
namespace Sha
open Go.RowKit Mem
set_option maxRecDepth 100000
set_option maxHeartbeats 8000000 in
theorem back10_core {T : World → Prop} (P : WrapP T) (p s : List (BitVec 8)) (r : Int) (m : List (BitVec 8)) (v : Value) (w : World) (ls : s.length = 16) (lm : m.length = 32) (h0 : -9223372036854775808 ≤ r) (h1 : r ≤ 9223372036854775807) (hp : Sl w v p) (hT : T w) :
    Calls Tryd.prog 5 #[.agg (askW v s r m)] w fun e w' => e = .returned (.bool true) ∧ Below w.heap.size w w' := by
  obtain ⟨a0, c0, rfl⟩ := sl_hdw hp
  obtain ⟨n, hn⟩ : ∃ n, n = p.length := ⟨_, rfl⟩
  rw [← hn] at hp ⊢
  have far := fun wx => far10_any a0 n c0 s r m ls wx
  have q0 := askW_0 (.slice a0 n c0) s r m
  have qz := askW_size (.slice a0 n c0) s r m ls lm
  have qr := askW_r (.slice a0 n c0) s r m ls
  have qs := askW_salt (.slice a0 n c0) s r m ls
  have qm := askW_m (.slice a0 n c0) s r m ls lm
  obtain ⟨AA, hAA⟩ : ∃ A, A = askW (.slice a0 n c0) s r m := ⟨_, rfl⟩
  rw [← hAA] at far q0 qz qr qs qm ⊢
  have al := fun wx (h : T wx) => alive10_any P wx h
  have hb := fun {wx wy : World} (h : T wx) (b : Below wx.heap.size wx wy) => P.below h b
  by_cases hf : farW n r = true
  · rw [hf] at far
    obtain ⟨w1, hw1⟩ : ∃ w1, w1 = w.alloc (.cells AA 26) := ⟨_, rfl⟩
    have ax : At w1 w.heap.size AA 26 := by rw [hw1]; exact at_new w _ _
    have b1 : Below w.heap.size w w1 := by rw [hw1]; exact (Below.refl _ _).alloc (Nat.le_refl _) _
    have hp1 := hp.below b1
    have ht1 := P.below hT b1
    have AX := Lib.hid ax; have B1 := Lib.hid b1; have HP := Lib.hid hp1; have HT := Lib.hid ht1; have AL := Lib.hid al; have Q0 := Lib.hid q0; have AS := Lib.hid qz; have QR := Lib.hid qr; have QS := Lib.hid qs; have QM := Lib.hid qm
    clear ax b1 hp1 ht1 al q0 qz qr qs qm hAA hp hT
    have FAR := Lib.hid far
    clear far hf hn h0 h1 ls lm
    go_enter Tryd.func5, Tryd.ntmps5
    go_upto_region 1 with fail
    rw [← hw1]
    clear hw1
    go_wp2_with (refine wpList_load_all (by rfl) 26 _ (by rfl) w.heap.size (by rfl) _ Tryd.underlying26 (by rfl) AA _ AX.out (by rw [AS.out]; exact infoAskW) ?_)
    refine (FAR.out w1).mono ?_
    rintro e x1 ⟨rfl, hb1⟩
    have G1 := Lib.hid hb1
    clear hb1
    go_wp2_with fail
    refine (AL.out _ (hb HT.out G1.out)).mono ?_
    rintro e x9 ⟨rfl, hb9⟩
    have G9 : Hid (Below w1.heap.size w1 x9) := Lib.hid (G1.out.trans (hb9.mono G1.out.size))
    clear hb9
    go_wp2_with fail
    go_ret
    exact ⟨rfl, B1.out.trans (G9.out.mono B1.out.size)⟩
  have hf' : farW n r = false := by simpa using hf
  have hle := farW_le hf'
  rw [hf'] at far
  have hw := fun wx (h : Sl wx (.slice a0 n c0) p) (ht : T wx) => P.wrap p s r m (.slice a0 n c0) wx ls lm h0 h1 h (by omega) ht
  have wf := wrapR_wf p s r m ls lm h0 h1
  have zwo' := wrC_one zwr
  have bn := buildWP0
  have eqz := fun xo yo wx => eqlWP zwr_wf zwr_wf xo yo wx
  rw [sameWr_self] at eqz
  have eqm := fun xo yo wx => eqlDg m m lm lm xo yo wx
  rw [show (m == m) = true by simp] at eqm
  have eqs := fun xo yo wx => eqlS s s ls ls xo yo wx
  rw [show (s == s) = true by simp] at eqs
  have cms : (u8s m).toArray.size = 32 := by simp [u8s_length, lm]
  have cmo : (u8s m).toArray.all (·.oneCell') = true := u8s_one _
  obtain ⟨ZW, hZW⟩ : ∃ Z, Z = wrC zwr := ⟨_, rfl⟩
  have zwo : ZW.all (·.oneCell') = true := by rw [hZW]; exact wrC_one _
  rw [← hZW] at bn eqz
  have zws : ZW.size = 81 := by rw [hZW]; exact wrC_size zwr_wf
  have hxw : ∀ w, (zeroValue 30).run Tryd.prog w = .ok (.agg ZW) w := by rw [hZW]; exact zeroWrP
  have hxr : ∀ w, (zeroValue 34).run Tryd.prog w = .ok (.agg ZW) w := by rw [hZW]; exact zeroWrR
  obtain ⟨Z, hZ⟩ : ∃ Z, Z = (u8s z32).toArray := ⟨_, rfl⟩
  have zs : Z.size = 32 := by rw [hZ]; simp [z32, u8s_length]
  have hx : ∀ w, (zeroValue 24).run Tryd.prog w = .ok (.agg Z) w := by rw [hZ]; exact zeroK32
  have ZWS := Lib.hid zws; have ZS := Lib.hid zs; have HXW := Lib.hid hxw; have HXR := Lib.hid hxr; have HX := Lib.hid hx
  clear zws zs hxw hxr hx hZ
  by_cases hr : rBad r = true
  · have e0 : wrapR p s r m = (zwr, 1) := by unfold wrapR; rw [if_pos hr]
    rw [e0] at hw
    obtain ⟨CS, hCS⟩ : ∃ C, C = (u8s s).toArray := ⟨_, rfl⟩
    obtain ⟨CM, hCM⟩ : ∃ C, C = (u8s m).toArray := ⟨_, rfl⟩
    rw [← hCS] at qs
    rw [← hCM] at qm
    have hw2 : ∀ wx, Sl wx (.slice a0 n c0) p → T wx → Calls Tryd.prog 9 #[.slice a0 n c0, .agg CS, .int .i64 r, .agg CM] wx fun e w' => e = .returned (.tuple #[.agg ZW, .int .i64 1]) ∧ Below wx.heap.size wx w' := fun wx h ht => by rw [hCS, hCM, hZW]; exact hw wx h ht
    obtain ⟨w1, hw1⟩ : ∃ w1, w1 = w.alloc (.cells AA 26) := ⟨_, rfl⟩
    have ax : At w1 w.heap.size AA 26 := by rw [hw1]; exact at_new w _ _
    have b1 : Below w.heap.size w w1 := by rw [hw1]; exact (Below.refl _ _).alloc (Nat.le_refl _) _
    have hp1 := hp.below b1
    have ht1 := P.below hT b1
    have AX := Lib.hid ax; have B1 := Lib.hid b1; have HP := Lib.hid hp1; have HT := Lib.hid ht1; have AL := Lib.hid al; have Q0 := Lib.hid q0; have AS := Lib.hid qz; have QR := Lib.hid qr; have QS := Lib.hid qs; have QM := Lib.hid qm
    clear ax b1 hp1 ht1 al q0 qz qr qs qm hAA hp hT
    have FAR := Lib.hid far; have HW := Lib.hid hw2; have ZWO := Lib.hid zwo; have BN := Lib.hid bn; have EQZ := Lib.hid eqz
    clear far hw hw2 zwo zwo' bn eqz eqm eqs cms cmo hle hf hf' h0 h1 ls lm hn e0 hr wf hCS hCM hZW
    go_enter Tryd.func5, Tryd.ntmps5
    go_upto_region 1 with fail
    rw [← hw1]
    clear hw1
    go_wp2_with (refine wpList_load_all (by rfl) 26 _ (by rfl) w.heap.size (by rfl) _ Tryd.underlying26 (by rfl) AA _ AX.out (by rw [AS.out]; exact infoAskW) ?_)
    refine (FAR.out w1).mono ?_
    rintro e x0 ⟨rfl, hb0⟩
    have G0 := Lib.hid hb0
    clear hb0
    have cf1 : x0.cell? ⟨w.heap.size, 0, none⟩ = some (.slice a0 n c0) := ((AX.out.below G0.out AX.out.lt).cell 0).trans Q0.out
    have cf2 : x0.cell? ⟨w.heap.size, 17, none⟩ = some (.int .i64 r) := ((AX.out.below G0.out AX.out.lt).cell 17).trans QR.out
    go_wp2_with (first
      | (refine wpList_load_wanted (by rfl) 26 _ (by rfl) w.heap.size (by rfl) _ Tryd.underlying26 (by rfl) AA _ (AX.out.below G0.out AX.out.lt) (by rw [AS.out]; exact infoAskW) ?_)
      | (refine wpList_load_is_wanted (by rfl) 23 _ (by rfl) w.heap.size 1 16 (by rfl) _ Tryd.underlying23 (by rfl) infoS16 AA _ (AX.out.below G0.out AX.out.lt) (by rw [AS.out]; decide) CS QS.out ?_)
      | (refine wpList_load_is_wanted (by rfl) 24 _ (by rfl) w.heap.size 18 32 (by rfl) _ Tryd.underlying24 (by rfl) infoDg AA _ (AX.out.below G0.out AX.out.lt) (by rw [AS.out]; decide) CM QM.out ?_))
    clear cf1 cf2
    refine (HW.out _ (HP.out.below G0.out) (hb HT.out G0.out)).mono ?_
    rintro e x3 ⟨rfl, hb⟩
    have G3 : Hid (Below w1.heap.size w1 x3) := Lib.hid (G0.out.trans (hb.mono G0.out.size))
    clear hb
    clear G0
    have G4 : Hid (Below w1.heap.size w1 (x3.alloc (.cells ZW 30))) := Lib.hid (G3.out.alloc G3.out.size _)
    have W3 := Lib.hid (at_new x3 ZW 30)
    have hz := HXW.out
    go_upto_region 4 with (refine wpList_store_new (by rfl) 30 _ _ (by rfl) (by rfl) ZW _ _ (by rfl) (by rfl) (by rw [ZWS.out]; exact infoWrP) (by first | rfl | rw [ZWS.out, ZWS.out]) ZWO.out ?_)
    clear hz
    obtain ⟨g4, hg⟩ : ∃ g, g = x3.heap.size := ⟨_, rfl⟩
    rw [← hg] at W3 ⊢
    clear hg
    generalize (x3.alloc (.cells ZW 30)) = y4 at *
    clear G3
    have cf5 : y4.cell? ⟨w.heap.size, 0, none⟩ = some (.slice a0 n c0) := ((AX.out.below G4.out AX.out.lt).cell 0).trans Q0.out
    have cf6 : y4.cell? ⟨w.heap.size, 17, none⟩ = some (.int .i64 r) := ((AX.out.below G4.out AX.out.lt).cell 17).trans QR.out
    go_wp2_with (first
      | (refine wpList_load_wanted (by rfl) 26 _ (by rfl) w.heap.size (by rfl) _ Tryd.underlying26 (by rfl) AA _ (AX.out.below G4.out AX.out.lt) (by rw [AS.out]; exact infoAskW) ?_)
      | (refine wpList_load_is_wanted (by rfl) 23 _ (by rfl) w.heap.size 1 16 (by rfl) _ Tryd.underlying23 (by rfl) infoS16 AA _ (AX.out.below G4.out AX.out.lt) (by rw [AS.out]; decide) CS QS.out ?_)
      | (refine wpList_load_is_wanted (by rfl) 24 _ (by rfl) w.heap.size 18 32 (by rfl) _ Tryd.underlying24 (by rfl) infoDg AA _ (AX.out.below G4.out AX.out.lt) (by rw [AS.out]; decide) CM QM.out ?_)
      | (refine wpList_load_wanted (by rfl) 30 _ (by rfl) g4 (by rfl) _ Tryd.underlying30 (by rfl) ZW _ W3.out (by rw [ZWS.out]; exact infoWrP) ?_)
      | (refine Mem.wpList_build (by rfl) 30 _ #[] (.agg ZW) (by rfl) (by first | rfl | simp) BN.out ?_)
      | (refine wpList_bin (by rfl) .eql 30 30 _ _ (.agg ZW) (.agg ZW) (.bool true) (by rfl) (by rfl) (by rfl) (fun wx => EQZ.out _ _ wx) ?_))
    refine (AL.out _ (hb HT.out G4.out)).mono ?_
    rintro e x9 ⟨rfl, hb9⟩
    have G9 : Hid (Below w1.heap.size w1 x9) := Lib.hid (G4.out.trans (hb9.mono G4.out.size))
    clear hb9
    go_wp2_with fail
    go_ret
    exact ⟨rfl, B1.out.trans (G9.out.mono B1.out.size)⟩
  · have hr' : rBad r = false := by simpa using hr
    have e0 : wrapR p s r m = (wrapV p s r m, 0) := by unfold wrapR; rw [if_neg hr]
    rw [e0] at hw wf
    have wf' : (wrapV p s r m).Wf := wf
    have hu := fun wx (h : Sl wx (.slice a0 n c0) p) (ht : T wx) => P.unwrap p (wrapV p s r m) (.slice a0 n c0) wx wf' h (by omega) ht
    rw [unwrap_wrap _ _ _ _ hr'] at hu
    have cws := wrC_size wf'
    have cwo := wrC_one (wrapV p s r m)
    have ws := wr_salt wf'
    have wr := wr_r wf'
    rw [show (wrapV p s r m).salt = s from rfl] at ws
    rw [show (wrapV p s r m).r = r from rfl] at wr
    obtain ⟨CS, hCS⟩ : ∃ C, C = (u8s s).toArray := ⟨_, rfl⟩
    obtain ⟨CM, hCM⟩ : ∃ C, C = (u8s m).toArray := ⟨_, rfl⟩
    obtain ⟨CW, hCW⟩ : ∃ C, C = wrC (wrapV p s r m) := ⟨_, rfl⟩
    rw [← hCS] at qs eqs ws
    rw [← hCM] at qm eqm cms cmo
    rw [← hCW] at cws cwo ws wr
    have hw2 : ∀ wx, Sl wx (.slice a0 n c0) p → T wx → Calls Tryd.prog 9 #[.slice a0 n c0, .agg CS, .int .i64 r, .agg CM] wx fun e w' => e = .returned (.tuple #[.agg CW, .int .i64 0]) ∧ Below wx.heap.size wx w' := fun wx h ht => by rw [hCS, hCM, hCW]; exact hw wx h ht
    have hu2 : ∀ wx, Sl wx (.slice a0 n c0) p → T wx → Calls Tryd.prog 14 #[.slice a0 n c0, .agg CW] wx fun e w' => e = .returned (.tuple #[.agg CM, .int .i64 0]) ∧ Below wx.heap.size wx w' := fun wx h ht => by rw [hCM, hCW]; exact hu wx h ht
    obtain ⟨w1, hw1⟩ : ∃ w1, w1 = w.alloc (.cells AA 26) := ⟨_, rfl⟩
    have ax : At w1 w.heap.size AA 26 := by rw [hw1]; exact at_new w _ _
    have b1 : Below w.heap.size w w1 := by rw [hw1]; exact (Below.refl _ _).alloc (Nat.le_refl _) _
    have hp1 := hp.below b1
    have ht1 := P.below hT b1
    have AX := Lib.hid ax; have B1 := Lib.hid b1; have HP := Lib.hid hp1; have HT := Lib.hid ht1; have AL := Lib.hid al; have Q0 := Lib.hid q0; have AS := Lib.hid qz; have QR := Lib.hid qr; have QS := Lib.hid qs; have QM := Lib.hid qm
    clear ax b1 hp1 ht1 al q0 qz qr qs qm hAA hp hT
    have FAR := Lib.hid far; have HW := Lib.hid hw2; have HU := Lib.hid hu2; have EQM := Lib.hid eqm; have EQS := Lib.hid eqs; have CWS := Lib.hid cws; have CWO := Lib.hid cwo; have CMS := Lib.hid cms; have CMO := Lib.hid cmo; have WS := Lib.hid ws; have WR := Lib.hid wr
    clear far hw hw2 hu hu2 zwo zwo' bn eqz eqm eqs cms cmo cws cwo ws wr hle hf hf' h0 h1 ls lm hn e0 hr hr' wf wf' hCS hCM hCW hZW
    go_enter Tryd.func5, Tryd.ntmps5
    go_upto_region 1 with fail
    rw [← hw1]
    clear hw1
    go_wp2_with (refine wpList_load_all (by rfl) 26 _ (by rfl) w.heap.size (by rfl) _ Tryd.underlying26 (by rfl) AA _ AX.out (by rw [AS.out]; exact infoAskW) ?_)
    refine (FAR.out w1).mono ?_
    rintro e x0 ⟨rfl, hb0⟩
    have G0 := Lib.hid hb0
    clear hb0
    have cf1 : x0.cell? ⟨w.heap.size, 0, none⟩ = some (.slice a0 n c0) := ((AX.out.below G0.out AX.out.lt).cell 0).trans Q0.out
    have cf2 : x0.cell? ⟨w.heap.size, 17, none⟩ = some (.int .i64 r) := ((AX.out.below G0.out AX.out.lt).cell 17).trans QR.out
    go_wp2_with (first
      | (refine wpList_load_wanted (by rfl) 26 _ (by rfl) w.heap.size (by rfl) _ Tryd.underlying26 (by rfl) AA _ (AX.out.below G0.out AX.out.lt) (by rw [AS.out]; exact infoAskW) ?_)
      | (refine wpList_load_is_wanted (by rfl) 23 _ (by rfl) w.heap.size 1 16 (by rfl) _ Tryd.underlying23 (by rfl) infoS16 AA _ (AX.out.below G0.out AX.out.lt) (by rw [AS.out]; decide) CS QS.out ?_)
      | (refine wpList_load_is_wanted (by rfl) 24 _ (by rfl) w.heap.size 18 32 (by rfl) _ Tryd.underlying24 (by rfl) infoDg AA _ (AX.out.below G0.out AX.out.lt) (by rw [AS.out]; decide) CM QM.out ?_))
    clear cf1 cf2
    refine (HW.out _ (HP.out.below G0.out) (hb HT.out G0.out)).mono ?_
    rintro e x3 ⟨rfl, hb⟩
    have G3 : Hid (Below w1.heap.size w1 x3) := Lib.hid (G0.out.trans (hb.mono G0.out.size))
    clear hb
    clear G0
    have G4 : Hid (Below w1.heap.size w1 (x3.alloc (.cells CW 30))) := Lib.hid (G3.out.alloc G3.out.size _)
    have W3 := Lib.hid (at_new x3 CW 30)
    have hz := HXW.out
    go_upto_region 4 with (refine wpList_store_new (by rfl) 30 _ _ (by rfl) (by rfl) CW _ _ (by rfl) (by rfl) (by rw [CWS.out]; exact infoWrP) (by first | rfl | rw [CWS.out, ZWS.out]) CWO.out ?_)
    clear hz
    obtain ⟨g4, hg⟩ : ∃ g, g = x3.heap.size := ⟨_, rfl⟩
    rw [← hg] at W3 ⊢
    clear hg
    generalize (x3.alloc (.cells CW 30)) = y4 at *
    clear G3
    have cf5 : y4.cell? ⟨w.heap.size, 0, none⟩ = some (.slice a0 n c0) := ((AX.out.below G4.out AX.out.lt).cell 0).trans Q0.out
    have cf6 : y4.cell? ⟨w.heap.size, 17, none⟩ = some (.int .i64 r) := ((AX.out.below G4.out AX.out.lt).cell 17).trans QR.out
    have cf7 : y4.cell? ⟨g4, 16, none⟩ = some (.int .i64 r) := (W3.out.cell 16).trans WR.out
    go_wp2_with (first
      | (refine wpList_load_wanted (by rfl) 26 _ (by rfl) w.heap.size (by rfl) _ Tryd.underlying26 (by rfl) AA _ (AX.out.below G4.out AX.out.lt) (by rw [AS.out]; exact infoAskW) ?_)
      | (refine wpList_load_is_wanted (by rfl) 23 _ (by rfl) w.heap.size 1 16 (by rfl) _ Tryd.underlying23 (by rfl) infoS16 AA _ (AX.out.below G4.out AX.out.lt) (by rw [AS.out]; decide) CS QS.out ?_)
      | (refine wpList_load_is_wanted (by rfl) 24 _ (by rfl) w.heap.size 18 32 (by rfl) _ Tryd.underlying24 (by rfl) infoDg AA _ (AX.out.below G4.out AX.out.lt) (by rw [AS.out]; decide) CM QM.out ?_)
      | (refine wpList_load_wanted (by rfl) 30 _ (by rfl) g4 (by rfl) _ Tryd.underlying30 (by rfl) CW _ W3.out (by rw [CWS.out]; exact infoWrP) ?_)
      | (refine wpList_load_is_wanted (by rfl) 23 _ (by rfl) g4 0 16 (by rfl) _ Tryd.underlying23 (by rfl) infoS16 CW _ W3.out (by rw [CWS.out]; decide) CS WS.out ?_))
    clear cf5 cf6 cf7
    refine (HU.out _ (HP.out.below G4.out) (hb HT.out G4.out)).mono ?_
    rintro e x8 ⟨rfl, hb⟩
    have G8 : Hid (Below w1.heap.size w1 x8) := Lib.hid (G4.out.trans (hb.mono G4.out.size))
    have W3_8 := Lib.hid (W3.out.below hb W3.out.lt)
    clear hb
    clear W3 G4
    have G9 : Hid (Below w1.heap.size w1 (x8.alloc (.cells CM 24))) := Lib.hid (G8.out.alloc G8.out.size _)
    have W3_9 := Lib.hid (W3_8.out.alloc (.cells CM 24))
    have K5 := Lib.hid (at_new x8 CM 24)
    have hz := HX.out
    go_upto_region 7 with (refine wpList_store_new (by rfl) 24 _ _ (by rfl) (by rfl) CM _ _ (by rfl) (by rfl) (by rw [CMS.out]; exact infoDg) (by first | rfl | rw [CMS.out, ZS.out]) CMO.out ?_)
    clear hz
    obtain ⟨g9, hg⟩ : ∃ g, g = x8.heap.size := ⟨_, rfl⟩
    rw [← hg] at K5 ⊢
    clear hg
    generalize (x8.alloc (.cells CM 24)) = y9 at *
    clear W3_8 G8
    have cf10 : y9.cell? ⟨w.heap.size, 0, none⟩ = some (.slice a0 n c0) := ((AX.out.below G9.out AX.out.lt).cell 0).trans Q0.out
    have cf11 : y9.cell? ⟨w.heap.size, 17, none⟩ = some (.int .i64 r) := ((AX.out.below G9.out AX.out.lt).cell 17).trans QR.out
    have cf12 : y9.cell? ⟨g4, 16, none⟩ = some (.int .i64 r) := (W3_9.out.cell 16).trans WR.out
    go_wp2_with (first
      | (refine wpList_load_wanted (by rfl) 26 _ (by rfl) w.heap.size (by rfl) _ Tryd.underlying26 (by rfl) AA _ (AX.out.below G9.out AX.out.lt) (by rw [AS.out]; exact infoAskW) ?_)
      | (refine wpList_load_is_wanted (by rfl) 23 _ (by rfl) w.heap.size 1 16 (by rfl) _ Tryd.underlying23 (by rfl) infoS16 AA _ (AX.out.below G9.out AX.out.lt) (by rw [AS.out]; decide) CS QS.out ?_)
      | (refine wpList_load_is_wanted (by rfl) 24 _ (by rfl) w.heap.size 18 32 (by rfl) _ Tryd.underlying24 (by rfl) infoDg AA _ (AX.out.below G9.out AX.out.lt) (by rw [AS.out]; decide) CM QM.out ?_)
      | (refine wpList_load_wanted (by rfl) 30 _ (by rfl) g4 (by rfl) _ Tryd.underlying30 (by rfl) CW _ W3_9.out (by rw [CWS.out]; exact infoWrP) ?_)
      | (refine wpList_load_is_wanted (by rfl) 23 _ (by rfl) g4 0 16 (by rfl) _ Tryd.underlying23 (by rfl) infoS16 CW _ W3_9.out (by rw [CWS.out]; decide) CS WS.out ?_)
      | (refine wpList_load_wanted (by rfl) 24 _ (by rfl) g9 (by rfl) _ Tryd.underlying24 (by rfl) CM _ K5.out (by rw [CMS.out]; exact infoDg) ?_)
      | (refine wpList_bin (by rfl) .eql 24 24 _ _ (.agg CM) (.agg CM) (.bool true) (by rfl) (by rfl) (by rfl) (fun wx => EQM.out _ _ wx) ?_)
      | (refine wpList_bin (by rfl) .eql 23 23 _ _ (.agg CS) (.agg CS) (.bool true) (by rfl) (by rfl) (by rfl) (fun wx => EQS.out _ _ wx) ?_))
    refine (AL.out _ (hb HT.out G9.out)).mono ?_
    rintro e x9 ⟨rfl, hb9⟩
    have G9 : Hid (Below w1.heap.size w1 x9) := Lib.hid (G9.out.trans (hb9.mono G9.out.size))
    clear hb9
    go_wp2_with fail
    go_ret
    exact ⟨rfl, B1.out.trans (G9.out.mono B1.out.size)⟩
end Sha
end Go.Proofs.YtjadjidjfkahpaaDoor
