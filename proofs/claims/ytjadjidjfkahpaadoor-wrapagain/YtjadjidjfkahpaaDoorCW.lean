/- Layer 10, WrapWraps: any master key wrapped, and both halves, are the document's. -/
import Derived.Test.YtjadjidjfkahpaaDoorBH
import Derived.Deep.DeepCutAuto
namespace Go.Proofs.YtjadjidjfkahpaaDoor
namespace Sha
open Go.RowKit Mem
set_option maxRecDepth 100000
theorem farW_le {n : Nat} {r : Int} (h : farW n r = false) : n ≤ 200 ∧ ¬ (5 < r ∧ r ≤ 100) := by
  unfold farW at h
  have h' := of_decide_eq_false h
  constructor
  · omega
  · intro hh; exact h' (.inr hh)
theorem halves_l1 (p s : List (BitVec 8)) (r : Int) : (halvesR p s r).1.length = 32 := by unfold halvesR; split; rfl; exact half1_length _ _ _
theorem halves_l2 (p s : List (BitVec 8)) (r : Int) : (halvesR p s r).2.1.length = 32 := by unfold halvesR; split; rfl; exact half2_length _ _ _
set_option maxHeartbeats 8000000 in
theorem wraps10_core {T : World → Prop} (P : WrapP T) (p s : List (BitVec 8)) (r : Int) (m : List (BitVec 8)) (v : Value) (w : World) (ls : s.length = 16) (lm : m.length = 32) (h0 : -9223372036854775808 ≤ r) (h1 : r ≤ 9223372036854775807) (hp : Sl w v p) (hT : T w) :
    Calls Tryd.prog 3 #[.agg (askW v s r m)] w fun e w' => e = .returned (.bool true) ∧ Below w.heap.size w w' := by
  obtain ⟨a0, c0, rfl⟩ := sl_hdw hp
  obtain ⟨n, hn⟩ : ∃ n, n = p.length := ⟨_, rfl⟩
  rw [← hn] at hp ⊢
  have far := fun wx => far10_any a0 n c0 s r m ls wx
  have q0 := askW_0 (.slice a0 n c0) s r m
  have qz := askW_size (.slice a0 n c0) s r m ls lm
  have qr := askW_r (.slice a0 n c0) s r m ls
  have qs := askW_salt (.slice a0 n c0) s r m ls
  have qm := askW_m (.slice a0 n c0) s r m ls lm
  obtain ⟨AA, hAA⟩ : ∃ A, A = askW (.slice a0 n c0) s r m := ⟨_, rfl⟩
  rw [← hAA] at far q0 qz qr qs qm ⊢
  have al := fun wx (h : T wx) => alive10_any P wx h
  have hb := fun {wx wy : World} (h : T wx) (b : Below wx.heap.size wx wy) => P.below h b
  by_cases hf : farW n r = true
  · rw [hf] at far
    obtain ⟨w1, hw1⟩ : ∃ w1, w1 = w.alloc (.cells AA 26) := ⟨_, rfl⟩
    have ax : At w1 w.heap.size AA 26 := by rw [hw1]; exact at_new w _ _
    have b1 : Below w.heap.size w w1 := by rw [hw1]; exact (Below.refl _ _).alloc (Nat.le_refl _) _
    have hp1 := hp.below b1
    have ht1 := P.below hT b1
    have AX := Lib.hid ax; have B1 := Lib.hid b1; have HP := Lib.hid hp1; have HT := Lib.hid ht1; have AL := Lib.hid al; have Q0 := Lib.hid q0; have AS := Lib.hid qz; have QR := Lib.hid qr; have QS := Lib.hid qs; have QM := Lib.hid qm
    clear ax b1 hp1 ht1 al q0 qz qr qs qm hAA hp hT
    have FAR := Lib.hid far
    clear far hf hn h0 h1 ls lm
    go_enter Tryd.func3, Tryd.ntmps3
    go_upto_region 1 with fail
    rw [← hw1]
    clear hw1
    go_wp2_with (refine wpList_load_all (by rfl) 26 _ (by rfl) w.heap.size (by rfl) _ Tryd.underlying26 (by rfl) AA _ AX.out (by rw [AS.out]; exact infoAskW) ?_)
    refine (FAR.out w1).mono ?_
    rintro e x1 ⟨rfl, hb1⟩
    have G1 := Lib.hid hb1
    clear hb1
    go_wp2_with fail
    refine (AL.out _ (hb HT.out G1.out)).mono ?_
    rintro e x9 ⟨rfl, hb9⟩
    have G9 : Hid (Below w1.heap.size w1 x9) := Lib.hid (G1.out.trans (hb9.mono G1.out.size))
    clear hb9
    go_wp2_with fail
    go_ret
    exact ⟨rfl, B1.out.trans (G9.out.mono B1.out.size)⟩
  have hf' : farW n r = false := by simpa using hf
  have hle := farW_le hf'
  rw [hf'] at far
  have hw := fun wx (h : Sl wx (.slice a0 n c0) p) (ht : T wx) => P.wrap p s r m (.slice a0 n c0) wx ls lm h0 h1 h (by omega) ht
  have wf := wrapR_wf p s r m ls lm h0 h1
  have hr := fun wx (h : Sl wx (.slice a0 n c0) p) => rwrap_any p s ls r h0 h1 m lm (.slice a0 n c0) wx h (by omega)
  have hh := fun wx (h : Sl wx (.slice a0 n c0) p) (ht : T wx) => P.halves p s r (.slice a0 n c0) wx ls h0 h1 h (by omega) ht
  have hq := fun wx (h : Sl wx (.slice a0 n c0) p) => rhalves_any p s ls r (.slice a0 n c0) wx h (by omega)
  have l1 := halves_l1 p s r
  have l2 := halves_l2 p s r
  obtain ⟨X, hX⟩ : ∃ X, X = (wrapR p s r m).1 := ⟨_, rfl⟩
  obtain ⟨q, hqq⟩ : ∃ q, q = (wrapR p s r m).2 := ⟨_, rfl⟩
  obtain ⟨ha, hha⟩ : ∃ x, x = (halvesR p s r).1 := ⟨_, rfl⟩
  obtain ⟨hc, hhc⟩ : ∃ x, x = (halvesR p s r).2.1 := ⟨_, rfl⟩
  obtain ⟨k, hkk⟩ : ∃ x, x = (halvesR p s r).2.2 := ⟨_, rfl⟩
  rw [← hX] at wf
  rw [← hX, ← hqq] at hw hr
  rw [← hha] at l1
  rw [← hhc] at l2
  rw [← hha, ← hhc, ← hkk] at hh hq
  have ou := fun wx => ours10_any X wf wx
  have eqw := fun xo yo wx => eqlWR wf wf xo yo wx
  have eqa := fun xo yo wx => eqlDg ha ha l1 l1 xo yo wx
  have eqb := fun xo yo wx => eqlDg hc hc l2 l2 xo yo wx
  rw [sameWr_self] at eqw
  rw [show (ha == ha) = true by simp] at eqa
  rw [show (hc == hc) = true by simp] at eqb
  have cws := wrC_size wf
  have cwo := wrC_one X
  have mas : (u8s ha).toArray.size = 32 := by simp [u8s_length, l1]
  have mbs : (u8s hc).toArray.size = 32 := by simp [u8s_length, l2]
  have mao : (u8s ha).toArray.all (·.oneCell') = true := u8s_one _
  have mbo : (u8s hc).toArray.all (·.oneCell') = true := u8s_one _
  obtain ⟨CS, hCS⟩ : ∃ C, C = (u8s s).toArray := ⟨_, rfl⟩
  obtain ⟨CM, hCM⟩ : ∃ C, C = (u8s m).toArray := ⟨_, rfl⟩
  obtain ⟨CW, hCW⟩ : ∃ C, C = wrC X := ⟨_, rfl⟩
  obtain ⟨MA, hMA⟩ : ∃ C, C = (u8s ha).toArray := ⟨_, rfl⟩
  obtain ⟨MB, hMB⟩ : ∃ C, C = (u8s hc).toArray := ⟨_, rfl⟩
  rw [← hCS] at qs
  rw [← hCM] at qm
  rw [← hCW] at ou eqw cws cwo
  rw [← hMA] at eqa mas mao
  rw [← hMB] at eqb mbs mbo
  have hw2 : ∀ wx, Sl wx (.slice a0 n c0) p → T wx → Calls Tryd.prog 9 #[.slice a0 n c0, .agg CS, .int .i64 r, .agg CM] wx fun e w' => e = .returned (.tuple #[.agg CW, .int .i64 q]) ∧ Below wx.heap.size wx w' := fun wx h ht => by rw [hCS, hCM, hCW]; exact hw wx h ht
  have hr2 : ∀ wx, Sl wx (.slice a0 n c0) p → Calls Tryd.prog 10 #[.slice a0 n c0, .agg CS, .int .i64 r, .agg CM] wx fun e w' => e = .returned (.tuple #[.agg CW, .int .i64 q]) ∧ Below wx.heap.size wx w' := fun wx h => by rw [hCS, hCM, hCW]; exact hr wx h
  have hh2 : ∀ wx, Sl wx (.slice a0 n c0) p → T wx → Calls Tryd.prog 11 #[.slice a0 n c0, .agg CS, .int .i64 r] wx fun e w' => e = .returned (.tuple #[.agg MA, .agg MB, .int .i64 k]) ∧ Below wx.heap.size wx w' := fun wx h ht => by rw [hCS, hMA, hMB]; exact hh wx h ht
  have hq2 : ∀ wx, Sl wx (.slice a0 n c0) p → Calls Tryd.prog 12 #[.slice a0 n c0, .agg CS, .int .i64 r] wx fun e w' => e = .returned (.tuple #[.agg MA, .agg MB, .int .i64 k]) ∧ Below wx.heap.size wx w' := fun wx h => by rw [hCS, hMA, hMB]; exact hq wx h
  obtain ⟨ZW, hZW⟩ : ∃ Z, Z = wrC zwr := ⟨_, rfl⟩
  have zws : ZW.size = 81 := by rw [hZW]; exact wrC_size zwr_wf
  have hxw : ∀ w, (zeroValue 30).run Tryd.prog w = .ok (.agg ZW) w := by rw [hZW]; exact zeroWrP
  have hxr : ∀ w, (zeroValue 34).run Tryd.prog w = .ok (.agg ZW) w := by rw [hZW]; exact zeroWrR
  obtain ⟨Z, hZ⟩ : ∃ Z, Z = (u8s z32).toArray := ⟨_, rfl⟩
  have zs : Z.size = 32 := by rw [hZ]; simp [z32, u8s_length]
  have hx : ∀ w, (zeroValue 24).run Tryd.prog w = .ok (.agg Z) w := by rw [hZ]; exact zeroK32
  have ZWS := Lib.hid zws; have ZS := Lib.hid zs; have HXW := Lib.hid hxw; have HXR := Lib.hid hxr; have HX := Lib.hid hx
  clear zws zs hxw hxr hx hZ hZW
  obtain ⟨w1, hw1⟩ : ∃ w1, w1 = w.alloc (.cells AA 26) := ⟨_, rfl⟩
  have ax : At w1 w.heap.size AA 26 := by rw [hw1]; exact at_new w _ _
  have b1 : Below w.heap.size w w1 := by rw [hw1]; exact (Below.refl _ _).alloc (Nat.le_refl _) _
  have hp1 := hp.below b1
  have ht1 := P.below hT b1
  have AX := Lib.hid ax; have B1 := Lib.hid b1; have HP := Lib.hid hp1; have HT := Lib.hid ht1; have AL := Lib.hid al; have Q0 := Lib.hid q0; have AS := Lib.hid qz; have QR := Lib.hid qr; have QS := Lib.hid qs; have QM := Lib.hid qm
  clear ax b1 hp1 ht1 al q0 qz qr qs qm hAA hp hT
  have FAR := Lib.hid far; have HW := Lib.hid hw2; have HR := Lib.hid hr2; have HH := Lib.hid hh2; have HQ := Lib.hid hq2; have OU := Lib.hid ou; have EQW := Lib.hid eqw; have EQA := Lib.hid eqa; have EQB := Lib.hid eqb; have CWS := Lib.hid cws; have CWO := Lib.hid cwo; have MAS := Lib.hid mas; have MBS := Lib.hid mbs; have MAO := Lib.hid mao; have MBO := Lib.hid mbo
  clear far hw hw2 hr hr2 hh hh2 hq hq2 ou eqw eqa eqb cws cwo mas mbs mao mbo hX hqq hha hhc hkk hCS hCM hCW hMA hMB wf l1 l2 hle hf hf' h0 h1 ls lm hn
  go_enter Tryd.func3, Tryd.ntmps3
  go_upto_region 1 with fail
  rw [← hw1]
  clear hw1
  go_wp2_with (refine wpList_load_all (by rfl) 26 _ (by rfl) w.heap.size (by rfl) _ Tryd.underlying26 (by rfl) AA _ AX.out (by rw [AS.out]; exact infoAskW) ?_)
  refine (FAR.out w1).mono ?_
  rintro e x0 ⟨rfl, hb0⟩
  have G0 := Lib.hid hb0
  clear hb0
  have cf1 : x0.cell? ⟨w.heap.size, 0, none⟩ = some (.slice a0 n c0) := ((AX.out.below G0.out AX.out.lt).cell 0).trans Q0.out
  have cf2 : x0.cell? ⟨w.heap.size, 17, none⟩ = some (.int .i64 r) := ((AX.out.below G0.out AX.out.lt).cell 17).trans QR.out
  go_wp2_with (first
    | (refine wpList_load_wanted (by rfl) 26 _ (by rfl) w.heap.size (by rfl) _ Tryd.underlying26 (by rfl) AA _ (AX.out.below G0.out AX.out.lt) (by rw [AS.out]; exact infoAskW) ?_)
    | (refine wpList_load_is_wanted (by rfl) 23 _ (by rfl) w.heap.size 1 16 (by rfl) _ Tryd.underlying23 (by rfl) infoS16 AA _ (AX.out.below G0.out AX.out.lt) (by rw [AS.out]; decide) CS QS.out ?_)
    | (refine wpList_load_is_wanted (by rfl) 24 _ (by rfl) w.heap.size 18 32 (by rfl) _ Tryd.underlying24 (by rfl) infoDg AA _ (AX.out.below G0.out AX.out.lt) (by rw [AS.out]; decide) CM QM.out ?_))
  clear cf1 cf2
  refine (HW.out _ (HP.out.below G0.out) (hb HT.out G0.out)).mono ?_
  rintro e x3 ⟨rfl, hb⟩
  have G3 : Hid (Below w1.heap.size w1 x3) := Lib.hid (G0.out.trans (hb.mono G0.out.size))
  clear hb
  clear G0
  have G4 : Hid (Below w1.heap.size w1 (x3.alloc (.cells CW 30))) := Lib.hid (G3.out.alloc G3.out.size _)
  have W3 := Lib.hid (at_new x3 CW 30)
  have hz := HXW.out
  go_upto_region 4 with (refine wpList_store_new (by rfl) 30 _ _ (by rfl) (by rfl) CW _ _ (by rfl) (by rfl) (by rw [CWS.out]; exact infoWrP) (by first | rfl | rw [CWS.out, ZWS.out]) CWO.out ?_)
  clear hz
  obtain ⟨g4, hg⟩ : ∃ g, g = x3.heap.size := ⟨_, rfl⟩
  rw [← hg] at W3 ⊢
  clear hg
  generalize (x3.alloc (.cells CW 30)) = y4 at *
  clear G3
  have cf5 : y4.cell? ⟨w.heap.size, 0, none⟩ = some (.slice a0 n c0) := ((AX.out.below G4.out AX.out.lt).cell 0).trans Q0.out
  have cf6 : y4.cell? ⟨w.heap.size, 17, none⟩ = some (.int .i64 r) := ((AX.out.below G4.out AX.out.lt).cell 17).trans QR.out
  go_wp2_with (first
    | (refine wpList_load_wanted (by rfl) 26 _ (by rfl) w.heap.size (by rfl) _ Tryd.underlying26 (by rfl) AA _ (AX.out.below G4.out AX.out.lt) (by rw [AS.out]; exact infoAskW) ?_)
    | (refine wpList_load_is_wanted (by rfl) 23 _ (by rfl) w.heap.size 1 16 (by rfl) _ Tryd.underlying23 (by rfl) infoS16 AA _ (AX.out.below G4.out AX.out.lt) (by rw [AS.out]; decide) CS QS.out ?_)
    | (refine wpList_load_is_wanted (by rfl) 24 _ (by rfl) w.heap.size 18 32 (by rfl) _ Tryd.underlying24 (by rfl) infoDg AA _ (AX.out.below G4.out AX.out.lt) (by rw [AS.out]; decide) CM QM.out ?_)
    | (refine wpList_load_wanted (by rfl) 30 _ (by rfl) g4 (by rfl) _ Tryd.underlying30 (by rfl) CW _ W3.out (by rw [CWS.out]; exact infoWrP) ?_))
  clear cf5 cf6
  refine (HR.out _ (HP.out.below G4.out)).mono ?_
  rintro e x7 ⟨rfl, hb⟩
  have G7 : Hid (Below w1.heap.size w1 x7) := Lib.hid (G4.out.trans (hb.mono G4.out.size))
  have W3_7 := Lib.hid (W3.out.below hb W3.out.lt)
  clear hb
  clear W3 G4
  have G8 : Hid (Below w1.heap.size w1 (x7.alloc (.cells CW 34))) := Lib.hid (G7.out.alloc G7.out.size _)
  have W3_8 := Lib.hid (W3_7.out.alloc (.cells CW 34))
  have W5 := Lib.hid (at_new x7 CW 34)
  have hz := HXR.out
  go_upto_region 5 with (refine wpList_store_new (by rfl) 34 _ _ (by rfl) (by rfl) CW _ _ (by rfl) (by rfl) (by rw [CWS.out]; exact infoWrR) (by first | rfl | rw [CWS.out, ZWS.out]) CWO.out ?_)
  clear hz
  obtain ⟨g8, hg⟩ : ∃ g, g = x7.heap.size := ⟨_, rfl⟩
  rw [← hg] at W5 ⊢
  clear hg
  generalize (x7.alloc (.cells CW 34)) = y8 at *
  clear W3_7 G7
  have cf9 : y8.cell? ⟨w.heap.size, 0, none⟩ = some (.slice a0 n c0) := ((AX.out.below G8.out AX.out.lt).cell 0).trans Q0.out
  have cf10 : y8.cell? ⟨w.heap.size, 17, none⟩ = some (.int .i64 r) := ((AX.out.below G8.out AX.out.lt).cell 17).trans QR.out
  go_wp2_with (first
    | (refine wpList_load_wanted (by rfl) 26 _ (by rfl) w.heap.size (by rfl) _ Tryd.underlying26 (by rfl) AA _ (AX.out.below G8.out AX.out.lt) (by rw [AS.out]; exact infoAskW) ?_)
    | (refine wpList_load_is_wanted (by rfl) 23 _ (by rfl) w.heap.size 1 16 (by rfl) _ Tryd.underlying23 (by rfl) infoS16 AA _ (AX.out.below G8.out AX.out.lt) (by rw [AS.out]; decide) CS QS.out ?_)
    | (refine wpList_load_is_wanted (by rfl) 24 _ (by rfl) w.heap.size 18 32 (by rfl) _ Tryd.underlying24 (by rfl) infoDg AA _ (AX.out.below G8.out AX.out.lt) (by rw [AS.out]; decide) CM QM.out ?_)
    | (refine wpList_load_wanted (by rfl) 30 _ (by rfl) g4 (by rfl) _ Tryd.underlying30 (by rfl) CW _ W3_8.out (by rw [CWS.out]; exact infoWrP) ?_)
    | (refine wpList_load_wanted (by rfl) 34 _ (by rfl) g8 (by rfl) _ Tryd.underlying34 (by rfl) CW _ W5.out (by rw [CWS.out]; exact infoWrR) ?_))
  clear cf9 cf10
  refine (HH.out _ (HP.out.below G8.out) (hb HT.out G8.out)).mono ?_
  rintro e x11 ⟨rfl, hb⟩
  have G11 : Hid (Below w1.heap.size w1 x11) := Lib.hid (G8.out.trans (hb.mono G8.out.size))
  have W3_11 := Lib.hid (W3_8.out.below hb W3_8.out.lt)
  have W5_11 := Lib.hid (W5.out.below hb W5.out.lt)
  clear hb
  clear W3_8 W5 G8
  have u1 : At ((x11.alloc (.cells Z 24)).alloc (.cells Z 24)) x11.heap.size Z 24 := (at_new x11 Z _).alloc _
  have u2 : At ((x11.alloc (.cells Z 24)).alloc (.cells Z 24)) (x11.heap.size + 1) Z 24 := by have h := at_new (x11.alloc (.cells Z 24)) Z 24; simpa using h
  have U1 := Lib.hid u1; have U2 := Lib.hid (u2.row_other (g := x11.heap.size) MA (by omega))
  have M7 := Lib.hid ((u1.row MA).row_other (g := x11.heap.size + 1) MB (by omega)); have M8 := Lib.hid ((u2.row_other (g := x11.heap.size) MA (by omega)).row MB)
  have G12 : Hid (Below w1.heap.size w1 ((((x11.alloc (.cells Z 24)).alloc (.cells Z 24)).setRow x11.heap.size MA).setRow (x11.heap.size + 1) MB)) := Lib.hid (below_row (below_row ((G11.out.alloc G11.out.size _).alloc (by have h := G11.out.size; simp; omega) _) G11.out.size _) (by have h := G11.out.size; omega) _)
  have W3_12 := Lib.hid ((((W3_11.out.alloc (.cells Z 24)).alloc (.cells Z 24)).row_other (g := x11.heap.size) MA (Nat.ne_of_lt W3_11.out.lt)).row_other (g := x11.heap.size + 1) MB (Nat.ne_of_lt (Nat.lt_succ_of_lt W3_11.out.lt)))
  have W5_12 := Lib.hid ((((W5_11.out.alloc (.cells Z 24)).alloc (.cells Z 24)).row_other (g := x11.heap.size) MA (Nat.ne_of_lt W5_11.out.lt)).row_other (g := x11.heap.size + 1) MB (Nat.ne_of_lt (Nat.lt_succ_of_lt W5_11.out.lt)))
  have hz := HX.out
  clear u1 u2
  go_upto_region 6 with (first
    | (refine wpList_store_all (by rfl) 24 _ _ (by rfl) (by rfl) x11.heap.size MA (by rfl) (by rfl) (by rw [MAS.out]; exact infoDg) Z _ U1.out (by rw [MAS.out, ZS.out]) MAO.out ?_)
    | (refine wpList_store_all (by rfl) 24 _ _ (by rfl) (by rfl) (x11.heap.size + 1) MB (by rfl) (by rfl) (by rw [MBS.out]; exact infoDg) Z _ U2.out (by rw [MBS.out, ZS.out]) MBO.out ?_))
  clear hz U1 U2
  obtain ⟨g12, hg⟩ : ∃ g, g = x11.heap.size := ⟨_, rfl⟩
  rw [← hg] at M7 M8 G12 W3_12 W5_12 ⊢
  clear hg
  generalize ((((x11.alloc (.cells Z 24)).alloc (.cells Z 24)).setRow g12 MA).setRow (g12 + 1) MB) = y12 at *
  clear W3_11 W5_11 G11
  have cf13 : y12.cell? ⟨w.heap.size, 0, none⟩ = some (.slice a0 n c0) := ((AX.out.below G12.out AX.out.lt).cell 0).trans Q0.out
  have cf14 : y12.cell? ⟨w.heap.size, 17, none⟩ = some (.int .i64 r) := ((AX.out.below G12.out AX.out.lt).cell 17).trans QR.out
  go_wp2_with (first
    | (refine wpList_load_wanted (by rfl) 26 _ (by rfl) w.heap.size (by rfl) _ Tryd.underlying26 (by rfl) AA _ (AX.out.below G12.out AX.out.lt) (by rw [AS.out]; exact infoAskW) ?_)
    | (refine wpList_load_is_wanted (by rfl) 23 _ (by rfl) w.heap.size 1 16 (by rfl) _ Tryd.underlying23 (by rfl) infoS16 AA _ (AX.out.below G12.out AX.out.lt) (by rw [AS.out]; decide) CS QS.out ?_)
    | (refine wpList_load_is_wanted (by rfl) 24 _ (by rfl) w.heap.size 18 32 (by rfl) _ Tryd.underlying24 (by rfl) infoDg AA _ (AX.out.below G12.out AX.out.lt) (by rw [AS.out]; decide) CM QM.out ?_)
    | (refine wpList_load_wanted (by rfl) 30 _ (by rfl) g4 (by rfl) _ Tryd.underlying30 (by rfl) CW _ W3_12.out (by rw [CWS.out]; exact infoWrP) ?_)
    | (refine wpList_load_wanted (by rfl) 34 _ (by rfl) g8 (by rfl) _ Tryd.underlying34 (by rfl) CW _ W5_12.out (by rw [CWS.out]; exact infoWrR) ?_)
    | (refine wpList_load_wanted (by rfl) 24 _ (by rfl) g12 (by rfl) _ Tryd.underlying24 (by rfl) MA _ M7.out (by rw [MAS.out]; exact infoDg) ?_)
    | (refine wpList_load_wanted (by rfl) 24 _ (by rfl) (g12 + 1) (by rfl) _ Tryd.underlying24 (by rfl) MB _ M8.out (by rw [MBS.out]; exact infoDg) ?_))
  clear cf13 cf14
  refine (HQ.out _ (HP.out.below G12.out)).mono ?_
  rintro e x15 ⟨rfl, hb⟩
  have G15 : Hid (Below w1.heap.size w1 x15) := Lib.hid (G12.out.trans (hb.mono G12.out.size))
  have W3_15 := Lib.hid (W3_12.out.below hb W3_12.out.lt)
  have W5_15 := Lib.hid (W5_12.out.below hb W5_12.out.lt)
  have M7_15 := Lib.hid (M7.out.below hb M7.out.lt)
  have M8_15 := Lib.hid (M8.out.below hb M8.out.lt)
  clear hb
  clear W3_12 W5_12 M7 M8 G12
  have u1 : At ((x15.alloc (.cells Z 24)).alloc (.cells Z 24)) x15.heap.size Z 24 := (at_new x15 Z _).alloc _
  have u2 : At ((x15.alloc (.cells Z 24)).alloc (.cells Z 24)) (x15.heap.size + 1) Z 24 := by have h := at_new (x15.alloc (.cells Z 24)) Z 24; simpa using h
  have U1 := Lib.hid u1; have U2 := Lib.hid (u2.row_other (g := x15.heap.size) MA (by omega))
  have M10 := Lib.hid ((u1.row MA).row_other (g := x15.heap.size + 1) MB (by omega)); have M11 := Lib.hid ((u2.row_other (g := x15.heap.size) MA (by omega)).row MB)
  have G16 : Hid (Below w1.heap.size w1 ((((x15.alloc (.cells Z 24)).alloc (.cells Z 24)).setRow x15.heap.size MA).setRow (x15.heap.size + 1) MB)) := Lib.hid (below_row (below_row ((G15.out.alloc G15.out.size _).alloc (by have h := G15.out.size; simp; omega) _) G15.out.size _) (by have h := G15.out.size; omega) _)
  have W3_16 := Lib.hid ((((W3_15.out.alloc (.cells Z 24)).alloc (.cells Z 24)).row_other (g := x15.heap.size) MA (Nat.ne_of_lt W3_15.out.lt)).row_other (g := x15.heap.size + 1) MB (Nat.ne_of_lt (Nat.lt_succ_of_lt W3_15.out.lt)))
  have W5_16 := Lib.hid ((((W5_15.out.alloc (.cells Z 24)).alloc (.cells Z 24)).row_other (g := x15.heap.size) MA (Nat.ne_of_lt W5_15.out.lt)).row_other (g := x15.heap.size + 1) MB (Nat.ne_of_lt (Nat.lt_succ_of_lt W5_15.out.lt)))
  have M7_16 := Lib.hid ((((M7_15.out.alloc (.cells Z 24)).alloc (.cells Z 24)).row_other (g := x15.heap.size) MA (Nat.ne_of_lt M7_15.out.lt)).row_other (g := x15.heap.size + 1) MB (Nat.ne_of_lt (Nat.lt_succ_of_lt M7_15.out.lt)))
  have M8_16 := Lib.hid ((((M8_15.out.alloc (.cells Z 24)).alloc (.cells Z 24)).row_other (g := x15.heap.size) MA (Nat.ne_of_lt M8_15.out.lt)).row_other (g := x15.heap.size + 1) MB (Nat.ne_of_lt (Nat.lt_succ_of_lt M8_15.out.lt)))
  have hz := HX.out
  clear u1 u2
  go_upto_region 7 with (first
    | (refine wpList_store_all (by rfl) 24 _ _ (by rfl) (by rfl) x15.heap.size MA (by rfl) (by rfl) (by rw [MAS.out]; exact infoDg) Z _ U1.out (by rw [MAS.out, ZS.out]) MAO.out ?_)
    | (refine wpList_store_all (by rfl) 24 _ _ (by rfl) (by rfl) (x15.heap.size + 1) MB (by rfl) (by rfl) (by rw [MBS.out]; exact infoDg) Z _ U2.out (by rw [MBS.out, ZS.out]) MBO.out ?_))
  clear hz U1 U2
  obtain ⟨g16, hg⟩ : ∃ g, g = x15.heap.size := ⟨_, rfl⟩
  rw [← hg] at M10 M11 G16 W3_16 W5_16 M7_16 M8_16 ⊢
  clear hg
  generalize ((((x15.alloc (.cells Z 24)).alloc (.cells Z 24)).setRow g16 MA).setRow (g16 + 1) MB) = y16 at *
  clear W3_15 W5_15 M7_15 M8_15 G15
  have D0 : Hid (Below y16.heap.size y16 y16.drew) := Lib.hid (Below.refl _ _).drew
  refine wp_region_plan_in (fun x => Below y16.heap.size y16 x) (.take 0 (.take 2 (.sole 1 (.take 3 (.take 4 (.take 5 (.take 6 (.take 7 (.take 8 (.take 9 (.take 10 (.take 11 (.take 12 (.take 13 (.take 14 (.take 15 (.take 16 (.take 17 (.take 18 (.take 19 (.take 20 (.take 21 (.take 22 (.take 23 (.take 24 (.sole 25 (.take 26 (.take 27 .done)))))))))))))))))))))))))))) (by kernel_rfl) (by kernel_rfl) (by kernel_rfl) D0.out ?_
  refine plan_row 30 _ g4 _ CW 30 (by rfl) (by rfl) (by rfl) (by first | (with_reducible exact Mem.ev_const _ _) | (with_reducible exact Mem.ev_zero _ _ _) | (with_reducible (apply Eq.trans (Mem.ev_tmp _ _ _)); simp only [List.getD_cons_succ, List.getD_cons_zero] <;> rfl)) (fun w' hw' => W3_16.out.below hw' W3_16.out.lt) Tryd.underlying30 (by rfl) (by rw [CWS.out]; exact infoWrP) ?_
  (simp only [Act.put, List.setIfInBounds_toArray, List.set_cons_zero, List.set_cons_succ])
  refine plan_row 34 _ g8 _ CW 34 (by rfl) (by rfl) (by rfl) (by first | (with_reducible exact Mem.ev_const _ _) | (with_reducible exact Mem.ev_zero _ _ _) | (with_reducible (apply Eq.trans (Mem.ev_tmp _ _ _)); simp only [List.getD_cons_succ, List.getD_cons_zero] <;> rfl)) (fun w' hw' => W5_16.out.below hw' W5_16.out.lt) Tryd.underlying34 (by rfl) (by rw [CWS.out]; exact infoWrR) ?_
  (simp only [Act.put, List.setIfInBounds_toArray, List.set_cons_zero, List.set_cons_succ])
  refine plan_call 13 _ _ _ (by kernel_rfl) (by rfl) (by rfl) (by rfl) (by first | exact Mem.ev_none _ | (simp only [List.map_toArray, List.map_cons, List.map_nil, Mem.ev_tmp, List.getD_cons_succ, List.getD_cons_zero] <;> rfl)) ?_
  refine (OU.out _).mono ?_
  rintro e z1 ⟨rfl, hb1⟩
  have E1 : Hid (Below y16.heap.size y16 z1) := Lib.hid (D0.out.trans (hb1.mono D0.out.size))
  clear hb1
  refine ⟨_, rfl, E1.out, ?_⟩
  (simp only [Act.put, List.setIfInBounds_toArray, List.set_cons_zero, List.set_cons_succ])
  refine plan_bin _ _ _ _ _ _ _ (.bool true) (by rfl) (by rfl) (by rfl) (by first | (with_reducible exact Mem.ev_const _ _) | (with_reducible exact Mem.ev_zero _ _ _) | (with_reducible (apply Eq.trans (Mem.ev_tmp _ _ _)); simp only [List.getD_cons_succ, List.getD_cons_zero] <;> rfl)) (by first | (with_reducible exact Mem.ev_const _ _) | (with_reducible exact Mem.ev_zero _ _ _) | (with_reducible (apply Eq.trans (Mem.ev_tmp _ _ _)); simp only [List.getD_cons_succ, List.getD_cons_zero] <;> rfl)) (fun wx => EQW.out _ _ wx) ?_
  (simp only [Act.put, List.setIfInBounds_toArray, List.set_cons_zero, List.set_cons_succ])
  (first | (refine plan_move _ _ (by rfl) (by rfl) (.inl (by rfl)) (by first | (with_reducible exact Mem.ev_const _ _) | (with_reducible exact Mem.ev_zero _ _ _) | (with_reducible (apply Eq.trans (Mem.ev_tmp _ _ _)); simp only [List.getD_cons_succ, List.getD_cons_zero] <;> rfl)) ?_) | (refine plan_move _ _ (by rfl) (by rfl) (.inr (by rfl)) (by first | (with_reducible exact Mem.ev_const _ _) | (with_reducible exact Mem.ev_zero _ _ _) | (with_reducible (apply Eq.trans (Mem.ev_tmp _ _ _)); simp only [List.getD_cons_succ, List.getD_cons_zero] <;> rfl)) ?_) | (refine plan_pick_t _ _ _ _ (by rfl) (by rfl) (by rfl) (by first | (with_reducible exact Mem.ev_const _ _) | (with_reducible exact Mem.ev_zero _ _ _) | (with_reducible (apply Eq.trans (Mem.ev_tmp _ _ _)); simp only [List.getD_cons_succ, List.getD_cons_zero] <;> rfl)) (by first | (with_reducible exact Mem.ev_const _ _) | (with_reducible exact Mem.ev_zero _ _ _) | (with_reducible (apply Eq.trans (Mem.ev_tmp _ _ _)); simp only [List.getD_cons_succ, List.getD_cons_zero] <;> rfl)) ?_) | (refine plan_pick_f _ _ _ _ (by rfl) (by rfl) (by rfl) (by first | (with_reducible exact Mem.ev_const _ _) | (with_reducible exact Mem.ev_zero _ _ _) | (with_reducible (apply Eq.trans (Mem.ev_tmp _ _ _)); simp only [List.getD_cons_succ, List.getD_cons_zero] <;> rfl)) (by first | (with_reducible exact Mem.ev_const _ _) | (with_reducible exact Mem.ev_zero _ _ _) | (with_reducible (apply Eq.trans (Mem.ev_tmp _ _ _)); simp only [List.getD_cons_succ, List.getD_cons_zero] <;> rfl)) ?_))
  (simp only [Act.put, List.setIfInBounds_toArray, List.set_cons_zero, List.set_cons_succ])
  (first | (refine plan_move _ _ (by rfl) (by rfl) (.inl (by rfl)) (by first | (with_reducible exact Mem.ev_const _ _) | (with_reducible exact Mem.ev_zero _ _ _) | (with_reducible (apply Eq.trans (Mem.ev_tmp _ _ _)); simp only [List.getD_cons_succ, List.getD_cons_zero] <;> rfl)) ?_) | (refine plan_move _ _ (by rfl) (by rfl) (.inr (by rfl)) (by first | (with_reducible exact Mem.ev_const _ _) | (with_reducible exact Mem.ev_zero _ _ _) | (with_reducible (apply Eq.trans (Mem.ev_tmp _ _ _)); simp only [List.getD_cons_succ, List.getD_cons_zero] <;> rfl)) ?_) | (refine plan_pick_t _ _ _ _ (by rfl) (by rfl) (by rfl) (by first | (with_reducible exact Mem.ev_const _ _) | (with_reducible exact Mem.ev_zero _ _ _) | (with_reducible (apply Eq.trans (Mem.ev_tmp _ _ _)); simp only [List.getD_cons_succ, List.getD_cons_zero] <;> rfl)) (by first | (with_reducible exact Mem.ev_const _ _) | (with_reducible exact Mem.ev_zero _ _ _) | (with_reducible (apply Eq.trans (Mem.ev_tmp _ _ _)); simp only [List.getD_cons_succ, List.getD_cons_zero] <;> rfl)) ?_) | (refine plan_pick_f _ _ _ _ (by rfl) (by rfl) (by rfl) (by first | (with_reducible exact Mem.ev_const _ _) | (with_reducible exact Mem.ev_zero _ _ _) | (with_reducible (apply Eq.trans (Mem.ev_tmp _ _ _)); simp only [List.getD_cons_succ, List.getD_cons_zero] <;> rfl)) (by first | (with_reducible exact Mem.ev_const _ _) | (with_reducible exact Mem.ev_zero _ _ _) | (with_reducible (apply Eq.trans (Mem.ev_tmp _ _ _)); simp only [List.getD_cons_succ, List.getD_cons_zero] <;> rfl)) ?_))
  (simp only [Act.put, List.setIfInBounds_toArray, List.set_cons_zero, List.set_cons_succ])
  (first | (refine plan_move _ _ (by rfl) (by rfl) (.inl (by rfl)) (by first | (with_reducible exact Mem.ev_const _ _) | (with_reducible exact Mem.ev_zero _ _ _) | (with_reducible (apply Eq.trans (Mem.ev_tmp _ _ _)); simp only [List.getD_cons_succ, List.getD_cons_zero] <;> rfl)) ?_) | (refine plan_move _ _ (by rfl) (by rfl) (.inr (by rfl)) (by first | (with_reducible exact Mem.ev_const _ _) | (with_reducible exact Mem.ev_zero _ _ _) | (with_reducible (apply Eq.trans (Mem.ev_tmp _ _ _)); simp only [List.getD_cons_succ, List.getD_cons_zero] <;> rfl)) ?_) | (refine plan_pick_t _ _ _ _ (by rfl) (by rfl) (by rfl) (by first | (with_reducible exact Mem.ev_const _ _) | (with_reducible exact Mem.ev_zero _ _ _) | (with_reducible (apply Eq.trans (Mem.ev_tmp _ _ _)); simp only [List.getD_cons_succ, List.getD_cons_zero] <;> rfl)) (by first | (with_reducible exact Mem.ev_const _ _) | (with_reducible exact Mem.ev_zero _ _ _) | (with_reducible (apply Eq.trans (Mem.ev_tmp _ _ _)); simp only [List.getD_cons_succ, List.getD_cons_zero] <;> rfl)) ?_) | (refine plan_pick_f _ _ _ _ (by rfl) (by rfl) (by rfl) (by first | (with_reducible exact Mem.ev_const _ _) | (with_reducible exact Mem.ev_zero _ _ _) | (with_reducible (apply Eq.trans (Mem.ev_tmp _ _ _)); simp only [List.getD_cons_succ, List.getD_cons_zero] <;> rfl)) (by first | (with_reducible exact Mem.ev_const _ _) | (with_reducible exact Mem.ev_zero _ _ _) | (with_reducible (apply Eq.trans (Mem.ev_tmp _ _ _)); simp only [List.getD_cons_succ, List.getD_cons_zero] <;> rfl)) ?_))
  (simp only [Act.put, List.setIfInBounds_toArray, List.set_cons_zero, List.set_cons_succ])
  refine plan_bin _ _ _ _ _ _ _ (.bool true) (by rfl) (by rfl) (by rfl) (by first | (with_reducible exact Mem.ev_const _ _) | (with_reducible exact Mem.ev_zero _ _ _) | (with_reducible (apply Eq.trans (Mem.ev_tmp _ _ _)); simp only [List.getD_cons_succ, List.getD_cons_zero] <;> rfl)) (by first | (with_reducible exact Mem.ev_const _ _) | (with_reducible exact Mem.ev_zero _ _ _) | (with_reducible (apply Eq.trans (Mem.ev_tmp _ _ _)); simp only [List.getD_cons_succ, List.getD_cons_zero] <;> rfl)) (fun wx => o_ieq _ _ _ _ _ wx) ?_
  (simp only [Act.put, List.setIfInBounds_toArray, List.set_cons_zero, List.set_cons_succ])
  refine plan_pick_t _ _ _ _ (by rfl) (by rfl) (by rfl) (by first | (with_reducible exact Mem.ev_const _ _) | (with_reducible exact Mem.ev_zero _ _ _) | (with_reducible (apply Eq.trans (Mem.ev_tmp _ _ _)); simp only [List.getD_cons_succ, List.getD_cons_zero] <;> rfl)) (by first | (with_reducible exact Mem.ev_const _ _) | (with_reducible exact Mem.ev_zero _ _ _) | (with_reducible (apply Eq.trans (Mem.ev_tmp _ _ _)); simp only [List.getD_cons_succ, List.getD_cons_zero] <;> rfl)) ?_
  (simp only [Act.put, List.setIfInBounds_toArray, List.set_cons_zero, List.set_cons_succ])
  (first | (refine plan_move _ _ (by rfl) (by rfl) (.inl (by rfl)) (by first | (with_reducible exact Mem.ev_const _ _) | (with_reducible exact Mem.ev_zero _ _ _) | (with_reducible (apply Eq.trans (Mem.ev_tmp _ _ _)); simp only [List.getD_cons_succ, List.getD_cons_zero] <;> rfl)) ?_) | (refine plan_move _ _ (by rfl) (by rfl) (.inr (by rfl)) (by first | (with_reducible exact Mem.ev_const _ _) | (with_reducible exact Mem.ev_zero _ _ _) | (with_reducible (apply Eq.trans (Mem.ev_tmp _ _ _)); simp only [List.getD_cons_succ, List.getD_cons_zero] <;> rfl)) ?_) | (refine plan_pick_t _ _ _ _ (by rfl) (by rfl) (by rfl) (by first | (with_reducible exact Mem.ev_const _ _) | (with_reducible exact Mem.ev_zero _ _ _) | (with_reducible (apply Eq.trans (Mem.ev_tmp _ _ _)); simp only [List.getD_cons_succ, List.getD_cons_zero] <;> rfl)) (by first | (with_reducible exact Mem.ev_const _ _) | (with_reducible exact Mem.ev_zero _ _ _) | (with_reducible (apply Eq.trans (Mem.ev_tmp _ _ _)); simp only [List.getD_cons_succ, List.getD_cons_zero] <;> rfl)) ?_) | (refine plan_pick_f _ _ _ _ (by rfl) (by rfl) (by rfl) (by first | (with_reducible exact Mem.ev_const _ _) | (with_reducible exact Mem.ev_zero _ _ _) | (with_reducible (apply Eq.trans (Mem.ev_tmp _ _ _)); simp only [List.getD_cons_succ, List.getD_cons_zero] <;> rfl)) (by first | (with_reducible exact Mem.ev_const _ _) | (with_reducible exact Mem.ev_zero _ _ _) | (with_reducible (apply Eq.trans (Mem.ev_tmp _ _ _)); simp only [List.getD_cons_succ, List.getD_cons_zero] <;> rfl)) ?_))
  (simp only [Act.put, List.setIfInBounds_toArray, List.set_cons_zero, List.set_cons_succ])
  refine plan_row 24 _ g12 _ MA 24 (by rfl) (by rfl) (by rfl) (by first | (with_reducible exact Mem.ev_const _ _) | (with_reducible exact Mem.ev_zero _ _ _) | (with_reducible (apply Eq.trans (Mem.ev_tmp _ _ _)); simp only [List.getD_cons_succ, List.getD_cons_zero] <;> rfl)) (fun w' hw' => M7_16.out.below hw' M7_16.out.lt) Tryd.underlying24 (by rfl) (by rw [MAS.out]; exact infoDg) ?_
  (simp only [Act.put, List.setIfInBounds_toArray, List.set_cons_zero, List.set_cons_succ])
  refine plan_row 24 _ g16 _ MA 24 (by rfl) (by rfl) (by rfl) (by first | (with_reducible exact Mem.ev_const _ _) | (with_reducible exact Mem.ev_zero _ _ _) | (with_reducible (apply Eq.trans (Mem.ev_tmp _ _ _)); simp only [List.getD_cons_succ, List.getD_cons_zero] <;> rfl)) (fun w' hw' => M10.out.below hw' M10.out.lt) Tryd.underlying24 (by rfl) (by rw [MAS.out]; exact infoDg) ?_
  (simp only [Act.put, List.setIfInBounds_toArray, List.set_cons_zero, List.set_cons_succ])
  refine plan_bin _ _ _ _ _ _ _ (.bool true) (by rfl) (by rfl) (by rfl) (by first | (with_reducible exact Mem.ev_const _ _) | (with_reducible exact Mem.ev_zero _ _ _) | (with_reducible (apply Eq.trans (Mem.ev_tmp _ _ _)); simp only [List.getD_cons_succ, List.getD_cons_zero] <;> rfl)) (by first | (with_reducible exact Mem.ev_const _ _) | (with_reducible exact Mem.ev_zero _ _ _) | (with_reducible (apply Eq.trans (Mem.ev_tmp _ _ _)); simp only [List.getD_cons_succ, List.getD_cons_zero] <;> rfl)) (fun wx => EQA.out _ _ wx) ?_
  (simp only [Act.put, List.setIfInBounds_toArray, List.set_cons_zero, List.set_cons_succ])
  refine plan_pick_t _ _ _ _ (by rfl) (by rfl) (by rfl) (by first | (with_reducible exact Mem.ev_const _ _) | (with_reducible exact Mem.ev_zero _ _ _) | (with_reducible (apply Eq.trans (Mem.ev_tmp _ _ _)); simp only [List.getD_cons_succ, List.getD_cons_zero] <;> rfl)) (by first | (with_reducible exact Mem.ev_const _ _) | (with_reducible exact Mem.ev_zero _ _ _) | (with_reducible (apply Eq.trans (Mem.ev_tmp _ _ _)); simp only [List.getD_cons_succ, List.getD_cons_zero] <;> rfl)) ?_
  (simp only [Act.put, List.setIfInBounds_toArray, List.set_cons_zero, List.set_cons_succ])
  (first | (refine plan_move _ _ (by rfl) (by rfl) (.inl (by rfl)) (by first | (with_reducible exact Mem.ev_const _ _) | (with_reducible exact Mem.ev_zero _ _ _) | (with_reducible (apply Eq.trans (Mem.ev_tmp _ _ _)); simp only [List.getD_cons_succ, List.getD_cons_zero] <;> rfl)) ?_) | (refine plan_move _ _ (by rfl) (by rfl) (.inr (by rfl)) (by first | (with_reducible exact Mem.ev_const _ _) | (with_reducible exact Mem.ev_zero _ _ _) | (with_reducible (apply Eq.trans (Mem.ev_tmp _ _ _)); simp only [List.getD_cons_succ, List.getD_cons_zero] <;> rfl)) ?_) | (refine plan_pick_t _ _ _ _ (by rfl) (by rfl) (by rfl) (by first | (with_reducible exact Mem.ev_const _ _) | (with_reducible exact Mem.ev_zero _ _ _) | (with_reducible (apply Eq.trans (Mem.ev_tmp _ _ _)); simp only [List.getD_cons_succ, List.getD_cons_zero] <;> rfl)) (by first | (with_reducible exact Mem.ev_const _ _) | (with_reducible exact Mem.ev_zero _ _ _) | (with_reducible (apply Eq.trans (Mem.ev_tmp _ _ _)); simp only [List.getD_cons_succ, List.getD_cons_zero] <;> rfl)) ?_) | (refine plan_pick_f _ _ _ _ (by rfl) (by rfl) (by rfl) (by first | (with_reducible exact Mem.ev_const _ _) | (with_reducible exact Mem.ev_zero _ _ _) | (with_reducible (apply Eq.trans (Mem.ev_tmp _ _ _)); simp only [List.getD_cons_succ, List.getD_cons_zero] <;> rfl)) (by first | (with_reducible exact Mem.ev_const _ _) | (with_reducible exact Mem.ev_zero _ _ _) | (with_reducible (apply Eq.trans (Mem.ev_tmp _ _ _)); simp only [List.getD_cons_succ, List.getD_cons_zero] <;> rfl)) ?_))
  (simp only [Act.put, List.setIfInBounds_toArray, List.set_cons_zero, List.set_cons_succ])
  refine plan_row 24 _ (g12 + 1) _ MB 24 (by rfl) (by rfl) (by rfl) (by first | (with_reducible exact Mem.ev_const _ _) | (with_reducible exact Mem.ev_zero _ _ _) | (with_reducible (apply Eq.trans (Mem.ev_tmp _ _ _)); simp only [List.getD_cons_succ, List.getD_cons_zero] <;> rfl)) (fun w' hw' => M8_16.out.below hw' M8_16.out.lt) Tryd.underlying24 (by rfl) (by rw [MBS.out]; exact infoDg) ?_
  (simp only [Act.put, List.setIfInBounds_toArray, List.set_cons_zero, List.set_cons_succ])
  refine plan_row 24 _ (g16 + 1) _ MB 24 (by rfl) (by rfl) (by rfl) (by first | (with_reducible exact Mem.ev_const _ _) | (with_reducible exact Mem.ev_zero _ _ _) | (with_reducible (apply Eq.trans (Mem.ev_tmp _ _ _)); simp only [List.getD_cons_succ, List.getD_cons_zero] <;> rfl)) (fun w' hw' => M11.out.below hw' M11.out.lt) Tryd.underlying24 (by rfl) (by rw [MBS.out]; exact infoDg) ?_
  (simp only [Act.put, List.setIfInBounds_toArray, List.set_cons_zero, List.set_cons_succ])
  refine plan_bin _ _ _ _ _ _ _ (.bool true) (by rfl) (by rfl) (by rfl) (by first | (with_reducible exact Mem.ev_const _ _) | (with_reducible exact Mem.ev_zero _ _ _) | (with_reducible (apply Eq.trans (Mem.ev_tmp _ _ _)); simp only [List.getD_cons_succ, List.getD_cons_zero] <;> rfl)) (by first | (with_reducible exact Mem.ev_const _ _) | (with_reducible exact Mem.ev_zero _ _ _) | (with_reducible (apply Eq.trans (Mem.ev_tmp _ _ _)); simp only [List.getD_cons_succ, List.getD_cons_zero] <;> rfl)) (fun wx => EQB.out _ _ wx) ?_
  (simp only [Act.put, List.setIfInBounds_toArray, List.set_cons_zero, List.set_cons_succ])
  refine plan_pick_t _ _ _ _ (by rfl) (by rfl) (by rfl) (by first | (with_reducible exact Mem.ev_const _ _) | (with_reducible exact Mem.ev_zero _ _ _) | (with_reducible (apply Eq.trans (Mem.ev_tmp _ _ _)); simp only [List.getD_cons_succ, List.getD_cons_zero] <;> rfl)) (by first | (with_reducible exact Mem.ev_const _ _) | (with_reducible exact Mem.ev_zero _ _ _) | (with_reducible (apply Eq.trans (Mem.ev_tmp _ _ _)); simp only [List.getD_cons_succ, List.getD_cons_zero] <;> rfl)) ?_
  (simp only [Act.put, List.setIfInBounds_toArray, List.set_cons_zero, List.set_cons_succ])
  (first | (refine plan_move _ _ (by rfl) (by rfl) (.inl (by rfl)) (by first | (with_reducible exact Mem.ev_const _ _) | (with_reducible exact Mem.ev_zero _ _ _) | (with_reducible (apply Eq.trans (Mem.ev_tmp _ _ _)); simp only [List.getD_cons_succ, List.getD_cons_zero] <;> rfl)) ?_) | (refine plan_move _ _ (by rfl) (by rfl) (.inr (by rfl)) (by first | (with_reducible exact Mem.ev_const _ _) | (with_reducible exact Mem.ev_zero _ _ _) | (with_reducible (apply Eq.trans (Mem.ev_tmp _ _ _)); simp only [List.getD_cons_succ, List.getD_cons_zero] <;> rfl)) ?_) | (refine plan_pick_t _ _ _ _ (by rfl) (by rfl) (by rfl) (by first | (with_reducible exact Mem.ev_const _ _) | (with_reducible exact Mem.ev_zero _ _ _) | (with_reducible (apply Eq.trans (Mem.ev_tmp _ _ _)); simp only [List.getD_cons_succ, List.getD_cons_zero] <;> rfl)) (by first | (with_reducible exact Mem.ev_const _ _) | (with_reducible exact Mem.ev_zero _ _ _) | (with_reducible (apply Eq.trans (Mem.ev_tmp _ _ _)); simp only [List.getD_cons_succ, List.getD_cons_zero] <;> rfl)) ?_) | (refine plan_pick_f _ _ _ _ (by rfl) (by rfl) (by rfl) (by first | (with_reducible exact Mem.ev_const _ _) | (with_reducible exact Mem.ev_zero _ _ _) | (with_reducible (apply Eq.trans (Mem.ev_tmp _ _ _)); simp only [List.getD_cons_succ, List.getD_cons_zero] <;> rfl)) (by first | (with_reducible exact Mem.ev_const _ _) | (with_reducible exact Mem.ev_zero _ _ _) | (with_reducible (apply Eq.trans (Mem.ev_tmp _ _ _)); simp only [List.getD_cons_succ, List.getD_cons_zero] <;> rfl)) ?_))
  (simp only [Act.put, List.setIfInBounds_toArray, List.set_cons_zero, List.set_cons_succ])
  (first | (refine plan_move _ _ (by rfl) (by rfl) (.inl (by rfl)) (by first | (with_reducible exact Mem.ev_const _ _) | (with_reducible exact Mem.ev_zero _ _ _) | (with_reducible (apply Eq.trans (Mem.ev_tmp _ _ _)); simp only [List.getD_cons_succ, List.getD_cons_zero] <;> rfl)) ?_) | (refine plan_move _ _ (by rfl) (by rfl) (.inr (by rfl)) (by first | (with_reducible exact Mem.ev_const _ _) | (with_reducible exact Mem.ev_zero _ _ _) | (with_reducible (apply Eq.trans (Mem.ev_tmp _ _ _)); simp only [List.getD_cons_succ, List.getD_cons_zero] <;> rfl)) ?_) | (refine plan_pick_t _ _ _ _ (by rfl) (by rfl) (by rfl) (by first | (with_reducible exact Mem.ev_const _ _) | (with_reducible exact Mem.ev_zero _ _ _) | (with_reducible (apply Eq.trans (Mem.ev_tmp _ _ _)); simp only [List.getD_cons_succ, List.getD_cons_zero] <;> rfl)) (by first | (with_reducible exact Mem.ev_const _ _) | (with_reducible exact Mem.ev_zero _ _ _) | (with_reducible (apply Eq.trans (Mem.ev_tmp _ _ _)); simp only [List.getD_cons_succ, List.getD_cons_zero] <;> rfl)) ?_) | (refine plan_pick_f _ _ _ _ (by rfl) (by rfl) (by rfl) (by first | (with_reducible exact Mem.ev_const _ _) | (with_reducible exact Mem.ev_zero _ _ _) | (with_reducible (apply Eq.trans (Mem.ev_tmp _ _ _)); simp only [List.getD_cons_succ, List.getD_cons_zero] <;> rfl)) (by first | (with_reducible exact Mem.ev_const _ _) | (with_reducible exact Mem.ev_zero _ _ _) | (with_reducible (apply Eq.trans (Mem.ev_tmp _ _ _)); simp only [List.getD_cons_succ, List.getD_cons_zero] <;> rfl)) ?_))
  (simp only [Act.put, List.setIfInBounds_toArray, List.set_cons_zero, List.set_cons_succ])
  (first | (refine plan_move _ _ (by rfl) (by rfl) (.inl (by rfl)) (by first | (with_reducible exact Mem.ev_const _ _) | (with_reducible exact Mem.ev_zero _ _ _) | (with_reducible (apply Eq.trans (Mem.ev_tmp _ _ _)); simp only [List.getD_cons_succ, List.getD_cons_zero] <;> rfl)) ?_) | (refine plan_move _ _ (by rfl) (by rfl) (.inr (by rfl)) (by first | (with_reducible exact Mem.ev_const _ _) | (with_reducible exact Mem.ev_zero _ _ _) | (with_reducible (apply Eq.trans (Mem.ev_tmp _ _ _)); simp only [List.getD_cons_succ, List.getD_cons_zero] <;> rfl)) ?_) | (refine plan_pick_t _ _ _ _ (by rfl) (by rfl) (by rfl) (by first | (with_reducible exact Mem.ev_const _ _) | (with_reducible exact Mem.ev_zero _ _ _) | (with_reducible (apply Eq.trans (Mem.ev_tmp _ _ _)); simp only [List.getD_cons_succ, List.getD_cons_zero] <;> rfl)) (by first | (with_reducible exact Mem.ev_const _ _) | (with_reducible exact Mem.ev_zero _ _ _) | (with_reducible (apply Eq.trans (Mem.ev_tmp _ _ _)); simp only [List.getD_cons_succ, List.getD_cons_zero] <;> rfl)) ?_) | (refine plan_pick_f _ _ _ _ (by rfl) (by rfl) (by rfl) (by first | (with_reducible exact Mem.ev_const _ _) | (with_reducible exact Mem.ev_zero _ _ _) | (with_reducible (apply Eq.trans (Mem.ev_tmp _ _ _)); simp only [List.getD_cons_succ, List.getD_cons_zero] <;> rfl)) (by first | (with_reducible exact Mem.ev_const _ _) | (with_reducible exact Mem.ev_zero _ _ _) | (with_reducible (apply Eq.trans (Mem.ev_tmp _ _ _)); simp only [List.getD_cons_succ, List.getD_cons_zero] <;> rfl)) ?_))
  (simp only [Act.put, List.setIfInBounds_toArray, List.set_cons_zero, List.set_cons_succ])
  refine plan_bin _ _ _ _ _ _ _ (.bool true) (by rfl) (by rfl) (by rfl) (by first | (with_reducible exact Mem.ev_const _ _) | (with_reducible exact Mem.ev_zero _ _ _) | (with_reducible (apply Eq.trans (Mem.ev_tmp _ _ _)); simp only [List.getD_cons_succ, List.getD_cons_zero] <;> rfl)) (by first | (with_reducible exact Mem.ev_const _ _) | (with_reducible exact Mem.ev_zero _ _ _) | (with_reducible (apply Eq.trans (Mem.ev_tmp _ _ _)); simp only [List.getD_cons_succ, List.getD_cons_zero] <;> rfl)) (fun wx => o_ieq _ _ _ _ _ wx) ?_
  (simp only [Act.put, List.setIfInBounds_toArray, List.set_cons_zero, List.set_cons_succ])
  refine plan_pick_t _ _ _ _ (by rfl) (by rfl) (by rfl) (by first | (with_reducible exact Mem.ev_const _ _) | (with_reducible exact Mem.ev_zero _ _ _) | (with_reducible (apply Eq.trans (Mem.ev_tmp _ _ _)); simp only [List.getD_cons_succ, List.getD_cons_zero] <;> rfl)) (by first | (with_reducible exact Mem.ev_const _ _) | (with_reducible exact Mem.ev_zero _ _ _) | (with_reducible (apply Eq.trans (Mem.ev_tmp _ _ _)); simp only [List.getD_cons_succ, List.getD_cons_zero] <;> rfl)) ?_
  (simp only [Act.put, List.setIfInBounds_toArray, List.set_cons_zero, List.set_cons_succ])
  (first | (refine plan_move _ _ (by rfl) (by rfl) (.inl (by rfl)) (by first | (with_reducible exact Mem.ev_const _ _) | (with_reducible exact Mem.ev_zero _ _ _) | (with_reducible (apply Eq.trans (Mem.ev_tmp _ _ _)); simp only [List.getD_cons_succ, List.getD_cons_zero] <;> rfl)) ?_) | (refine plan_move _ _ (by rfl) (by rfl) (.inr (by rfl)) (by first | (with_reducible exact Mem.ev_const _ _) | (with_reducible exact Mem.ev_zero _ _ _) | (with_reducible (apply Eq.trans (Mem.ev_tmp _ _ _)); simp only [List.getD_cons_succ, List.getD_cons_zero] <;> rfl)) ?_) | (refine plan_pick_t _ _ _ _ (by rfl) (by rfl) (by rfl) (by first | (with_reducible exact Mem.ev_const _ _) | (with_reducible exact Mem.ev_zero _ _ _) | (with_reducible (apply Eq.trans (Mem.ev_tmp _ _ _)); simp only [List.getD_cons_succ, List.getD_cons_zero] <;> rfl)) (by first | (with_reducible exact Mem.ev_const _ _) | (with_reducible exact Mem.ev_zero _ _ _) | (with_reducible (apply Eq.trans (Mem.ev_tmp _ _ _)); simp only [List.getD_cons_succ, List.getD_cons_zero] <;> rfl)) ?_) | (refine plan_pick_f _ _ _ _ (by rfl) (by rfl) (by rfl) (by first | (with_reducible exact Mem.ev_const _ _) | (with_reducible exact Mem.ev_zero _ _ _) | (with_reducible (apply Eq.trans (Mem.ev_tmp _ _ _)); simp only [List.getD_cons_succ, List.getD_cons_zero] <;> rfl)) (by first | (with_reducible exact Mem.ev_const _ _) | (with_reducible exact Mem.ev_zero _ _ _) | (with_reducible (apply Eq.trans (Mem.ev_tmp _ _ _)); simp only [List.getD_cons_succ, List.getD_cons_zero] <;> rfl)) ?_))
  (simp only [Act.put, List.setIfInBounds_toArray, List.set_cons_zero, List.set_cons_succ])
  refine plan_call 8 _ _ _ (by kernel_rfl) (by rfl) (by rfl) (by rfl) (by first | exact Mem.ev_none _ | (simp only [List.map_toArray, List.map_cons, List.map_nil, Mem.ev_tmp, List.getD_cons_succ, List.getD_cons_zero] <;> rfl)) ?_
  refine (AL.out _ (hb HT.out (G16.out.trans (E1.out.mono G16.out.size)))).mono ?_
  rintro e z25 ⟨rfl, hb25⟩
  have E25 : Hid (Below y16.heap.size y16 z25) := Lib.hid (E1.out.trans (hb25.mono E1.out.size))
  clear hb25
  refine ⟨_, rfl, E25.out, ?_⟩
  (simp only [Act.put, List.setIfInBounds_toArray, List.set_cons_zero, List.set_cons_succ])
  refine plan_pick_t _ _ _ _ (by rfl) (by rfl) (by rfl) (by first | (with_reducible exact Mem.ev_const _ _) | (with_reducible exact Mem.ev_zero _ _ _) | (with_reducible (apply Eq.trans (Mem.ev_tmp _ _ _)); simp only [List.getD_cons_succ, List.getD_cons_zero] <;> rfl)) (by first | (with_reducible exact Mem.ev_const _ _) | (with_reducible exact Mem.ev_zero _ _ _) | (with_reducible (apply Eq.trans (Mem.ev_tmp _ _ _)); simp only [List.getD_cons_succ, List.getD_cons_zero] <;> rfl)) ?_
  (simp only [Act.put, List.setIfInBounds_toArray, List.set_cons_zero, List.set_cons_succ])
  (first | (refine plan_move _ _ (by rfl) (by rfl) (.inl (by rfl)) (by first | (with_reducible exact Mem.ev_const _ _) | (with_reducible exact Mem.ev_zero _ _ _) | (with_reducible (apply Eq.trans (Mem.ev_tmp _ _ _)); simp only [List.getD_cons_succ, List.getD_cons_zero] <;> rfl)) ?_) | (refine plan_move _ _ (by rfl) (by rfl) (.inr (by rfl)) (by first | (with_reducible exact Mem.ev_const _ _) | (with_reducible exact Mem.ev_zero _ _ _) | (with_reducible (apply Eq.trans (Mem.ev_tmp _ _ _)); simp only [List.getD_cons_succ, List.getD_cons_zero] <;> rfl)) ?_) | (refine plan_pick_t _ _ _ _ (by rfl) (by rfl) (by rfl) (by first | (with_reducible exact Mem.ev_const _ _) | (with_reducible exact Mem.ev_zero _ _ _) | (with_reducible (apply Eq.trans (Mem.ev_tmp _ _ _)); simp only [List.getD_cons_succ, List.getD_cons_zero] <;> rfl)) (by first | (with_reducible exact Mem.ev_const _ _) | (with_reducible exact Mem.ev_zero _ _ _) | (with_reducible (apply Eq.trans (Mem.ev_tmp _ _ _)); simp only [List.getD_cons_succ, List.getD_cons_zero] <;> rfl)) ?_) | (refine plan_pick_f _ _ _ _ (by rfl) (by rfl) (by rfl) (by first | (with_reducible exact Mem.ev_const _ _) | (with_reducible exact Mem.ev_zero _ _ _) | (with_reducible (apply Eq.trans (Mem.ev_tmp _ _ _)); simp only [List.getD_cons_succ, List.getD_cons_zero] <;> rfl)) (by first | (with_reducible exact Mem.ev_const _ _) | (with_reducible exact Mem.ev_zero _ _ _) | (with_reducible (apply Eq.trans (Mem.ev_tmp _ _ _)); simp only [List.getD_cons_succ, List.getD_cons_zero] <;> rfl)) ?_))
  (simp only [Act.put, List.setIfInBounds_toArray, List.set_cons_zero, List.set_cons_succ])
  refine plan_nil ?_
  go_wp2_with fail
  go_ret
  exact ⟨rfl, B1.out.trans ((G16.out.trans (E25.out.mono G16.out.size)).mono B1.out.size)⟩
end Sha
end Go.Proofs.YtjadjidjfkahpaaDoor
