/- The law SealOpens of layer 9: any block opened under any reference is the document's, or refused. For every input, the tables of packages cipher and sha tied to the program's text. -/
import Derived.Test.YtmfgimkopddcgaaDoorBG
import Derived.Test.YtmfgimkopddcgaaDoorBI
import Derived.Test.YtmfgimkopddcgaaDoorCards
import Derived.Test.YtmfgimkopddcgaaDoorTie
namespace Go.Proofs.YtmfgimkopddcgaaDoor
namespace Sha
open Go.RowKit Mem
/-- What the law's steps need of a block x. -/
structure OpensF (T : World → Prop) (K M : Array Value) (ep : BitVec 32) (bl : Int) (x L L2 : List (BitVec 8)) (f f2 g : Int) (X : Array Value) : Prop where
  op : ∀ (v : Value) (wx : World), Sl wx v x → T wx → Calls Tryd.prog 17 #[.pointer none, .agg K, .agg M, .int .i64 bl, v] wx (SealEnd wx L f)
  rop : ∀ (v : Value) (wx : World), Sl wx v x → Calls Tryd.prog 19 #[.agg K, .agg M, .int .i64 bl, v] wx (SealEnd wx L f)
  rhi : ∀ (v : Value) (wx : World), Sl wx v x → Calls Tryd.prog 14 #[.agg K, .int .u32 (V ep), .int .i64 0, .int .i64 bl, v] wx fun e w' => ∃ v', e = .returned (.tuple #[v', .agg X, .int .i64 g]) ∧ Below wx.heap.size wx w'
  op2 : ∀ (v : Value) (wx : World), Sl wx v x → T wx → Calls Tryd.prog 17 #[.pointer none, .agg K, .agg X, .int .i64 bl, v] wx (SealEnd wx L2 f2)
  rop2 : ∀ (v : Value) (wx : World), Sl wx v x → Calls Tryd.prog 19 #[.agg K, .agg X, .int .i64 bl, v] wx (SealEnd wx L2 f2)
  th : ∀ wx, Calls Tryd.prog 18 #[.agg M] wx fun e w' => e = .returned (.agg M) ∧ Below wx.heap.size wx w'
  th2 : ∀ wx, Calls Tryd.prog 18 #[.agg X] wx fun e w' => e = .returned (.agg X) ∧ Below wx.heap.size wx w'
  l1 : L.length ≤ 1000
  l2 : L2.length ≤ 1000
  g0 : 0 ≤ g
  xs : X.size = 34
  xo : X.all (·.oneCell') = true
theorem opensF {T : World → Prop} (C : SealP T) {a : AskV} (h : a.Wf) (r : RefV) (hr : r.Wf) (x : List (BitVec 8)) (hp : x.length ≤ 600) : ∃ L L2 f f2 g X, OpensF T (u8s a.key).toArray (refC r) a.ep a.bl x L L2 f f2 g X := by
  have hw := hideR_wf a.key a.ep 0 a.bl x
  have l1 := openR_len a.key r a.bl x
  have l2 := openR_len a.key (hideR a.key a.ep 0 a.bl x).2.1 a.bl x
  have g0 := hideR_err a.key a.ep 0 a.bl x
  exact ⟨_, _, _, _, _, _, ⟨fun v wx h1 h2 => C.openN a.key r a.bl x v wx h.key hr h.b0 h.b1 h1 (by omega) h2, fun v wx h1 => ropen_any a.key h.key r hr a.bl h.b1 x v wx h1 (by omega),
    fun v wx h1 => (rhide_any a.key h.key a.ep 0 a.bl (by decide) (by decide) h.b1 x v wx h1 (by omega)).mono (fun e w' hh => by obtain ⟨v', h1, _, h3⟩ := hh; exact ⟨v', h1, h3⟩),
    fun v wx h1 h2 => C.openN a.key _ a.bl x v wx h.key hw h.b0 h.b1 h1 (by omega) h2, fun v wx h1 => ropen_any a.key h.key _ hw a.bl h.b1 x v wx h1 (by omega), fun wx => theirs9_any r hr wx, fun wx => theirs9_any _ hw wx, by omega, by omega, g0, refC_size hw, refC_one _⟩⟩
set_option maxRecDepth 100000 in
set_option maxHeartbeats 8000000 in
theorem opens_core {T : World → Prop} (C : SealP T) (a : AskV) (ha : a.Wf) (r : RefV) (hr : r.Wf) (b : List (BitVec 8)) (v : Value) (w : World) (hv : Sl w v b) (hn : b.length ≤ 9223372036854775807) (hT : T w) :
    Calls Tryd.prog 4 #[.agg (askC a), .agg (refC r), v] w fun e w' => e = .returned (.bool true) ∧ Below w.heap.size w w' := by
  have ALV := Lib.hid (fun wx h => alive9_any C wx h)
  have CC := Lib.hid C
  obtain ⟨a0, c0, rfl⟩ := sl_inv hv
  obtain ⟨n, hnn⟩ : ∃ n, n = b.length := ⟨_, rfl⟩
  rw [← hnn] at hn
  have an := (at_new w (askC a) 25).alloc (.cells (refC r) 38)
  have am : At ((w.alloc (.cells (askC a) 25)).alloc (.cells (refC r) 38)) (w.heap.size + 1) (refC r) 38 := by
    have h := at_new (w.alloc (.cells (askC a) 25)) (refC r) 38
    simpa using h
  have bn : Below w.heap.size w ((w.alloc (.cells (askC a) 25)).alloc (.cells (refC r) 38)) := ((Below.refl _ _).alloc (Nat.le_refl _) _).alloc (by simp) _
  have k32 := ask32 ha
  have k34 := ask34 ha
  have kk := ask_key ha
  have asz := askC_size ha
  have msz := refC_size hr
  obtain ⟨Z, hZ⟩ : ∃ Z, Z = refC zref := ⟨_, rfl⟩
  have zs : Z.size = 34 := by rw [hZ]; exact refC_size zref_wf
  have hxR : ∀ w, (zeroValue 38).run Tryd.prog w = .ok (.agg Z) w := by rw [hZ]; exact zeroRfR
  by_cases g1 : 600 < n
  · have g1' : (600 : Int) < (n : Int) := by omega
    rw [← hnn]
    have BN := Lib.hid bn; have TT := Lib.hid (C.below hT bn)
    obtain ⟨AA, hA⟩ : ∃ M, M = askC a := ⟨_, rfl⟩
    obtain ⟨M, hM⟩ : ∃ M, M = refC r := ⟨_, rfl⟩
    rw [← hA, ← hM] at BN TT ⊢
    clear hv hnn hT C an am bn k32 k34 kk asz msz hA hM zs hxR hZ
    go_enter Tryd.func4, Tryd.ntmps4
    go_wp2_with fail
    refine (ALV.out _ TT.out).mono ?_
    rintro e w1 ⟨rfl, hb⟩
    have B1 := Lib.hid (BN.out.trans (hb.mono BN.out.size))
    clear hb
    go_wp2_with fail
    go_ret
    exact ⟨rfl, B1.out⟩
  · have g1' : ¬ (600 : Int) < (n : Int) := by omega
    have hpF := fun (x : List (BitVec 8)) (hx : x.length ≤ 600) => opensF C ha r hr x hx
    have pg := fun wx (h : Sl wx (.slice a0 b.length c0) b) => page_any b _ wx h
    obtain ⟨P, hP⟩ : ∃ P, P = pageL b := ⟨_, rfl⟩
    have pll : P.length = 256 := by rw [hP]; exact pageL_length b
    rw [← hP] at pg
    obtain ⟨AA, hA⟩ : ∃ M, M = askC a := ⟨_, rfl⟩
    obtain ⟨M, hM⟩ : ∃ M, M = refC r := ⟨_, rfl⟩
    rw [← hM] at an am bn msz hpF ⊢
    rw [← hA] at an am bn k32 k34 kk asz ⊢
    obtain ⟨K, hK⟩ : ∃ K, K = (u8s a.key).toArray := ⟨_, rfl⟩
    rw [← hK] at kk hpF
    obtain ⟨ep, hep⟩ : ∃ ep, ep = a.ep := ⟨_, rfl⟩
    obtain ⟨bl, hbl⟩ : ∃ bl, bl = a.bl := ⟨_, rfl⟩
    rw [← hep] at k32 hpF
    rw [← hbl] at k34 hpF
    have hbl6 : b.length ≤ 600 := by omega
    rw [← hnn] at hv pg ⊢
    have S0 := Lib.hid (hv.below bn); have T0 := Lib.hid (C.below hT bn); have AX0 := Lib.hid an; have AM0 := Lib.hid am; have BX0 := Lib.hid bn; have PG := Lib.hid pg; have K32 := Lib.hid k32; have K34 := Lib.hid k34; have KK := Lib.hid kk; have MS := Lib.hid asz; have RS := Lib.hid msz; have ZS := Lib.hid zs; have HPF := Lib.hid hpF; have PLL := Lib.hid pll; have B6 := Lib.hid hbl6; have HN := Lib.hid hnn
    clear hnn hv hT C an am bn k32 k34 kk asz msz zs hpF pg hM hA hK hep hbl hZ hP pll ha hr hbl6
    go_enter Tryd.func4, Tryd.ntmps4
    go_upto_region 1 with fail
    obtain ⟨bx, hbx⟩ : ∃ bx, bx = w.heap.size := ⟨_, rfl⟩
    obtain ⟨br, hbr⟩ : ∃ br, br = bx + 1 := ⟨_, rfl⟩
    rw [← hbx] at AX0 AM0 ⊢
    rw [← hbr] at AM0 ⊢
    clear hbx hbr
    generalize (w.alloc (.cells AA 25)).alloc (.cells M 38) = wz at *
    go_wp2_with fail
    refine (PG.out wz S0.out).mono ?_
    rintro e w1 ⟨gp, rfl, hga, hgl, hgb⟩
    have hal : Below w1.heap.size w1 (w1.alloc (.cells #[.slice a0 n c0, .slice (some ⟨gp, 0, none⟩) 256 256] 26)) := (Below.refl _ _).alloc (Nat.le_refl _) _
    have hb := hgb.trans (hal.mono hgb.size)
    have P2 := Lib.hid ((at_sl hga rfl).below hal)
    rw [PLL.out] at P2 ⊢
    have S2 := Lib.hid (S0.out.below hb); have T2 := Lib.hid (CC.out.below T0.out hb); have AX2 := Lib.hid (AX0.out.below hb AX0.out.lt); have AM2 := Lib.hid (AM0.out.below hb AM0.out.lt); have BX2 := Lib.hid (BX0.out.trans (hb.mono BX0.out.size))
    have BS2 := Lib.hid (at_new w1 #[.slice a0 n c0, .slice (some ⟨gp, 0, none⟩) 256 256] 26)
    clear hga hgl hgb hal hb S0 T0 AX0 AM0 BX0 PG
    go_wp2_with fail
    obtain ⟨bs, hbs⟩ : ∃ bs, bs = w1.heap.size := ⟨_, rfl⟩
    rw [← hbs] at BS2 ⊢
    clear hbs
    generalize w1.alloc (.cells #[.slice a0 n c0, .slice (some ⟨gp, 0, none⟩) 256 256] 26) = w2 at *
    go_loopw [29] (fun i wr => ∃ j : Nat, j ≤ 2 ∧ i = .int .i64 j ∧ Below w2.heap.size w2 wr) (fun i _ => 2 - (intOf i).toNat)
    case atStart => exact ⟨0, by omega, rfl, Below.refl _ _⟩
    case round =>
      obtain ⟨j, hj, rfl, hb⟩ := hrel
      have S3 := Lib.hid (S2.out.below hb); have P3 := Lib.hid (P2.out.below hb); have T3 := Lib.hid (CC.out.below T2.out hb); have AX3 := Lib.hid (AX2.out.below hb AX2.out.lt); have AM3 := Lib.hid (AM2.out.below hb AM2.out.lt); have BB3 := Lib.hid hb
      have bsr := BS2.out.below hb BS2.out.lt
      clear hb
      by_cases hlt : j < 2
      · have hlt' : (j : Int) < 2 := by omega
        have hex : ∃ x vx, wr.cell? ⟨bs, j, none⟩ = some vx ∧ Sl wr vx x ∧ x.length ≤ 600 := by
          have hj2 : j = 0 ∨ j = 1 := by omega
          rcases hj2 with rfl | rfl
          · exact ⟨b, _, by rw [bsr.cell]; rfl, S3.out, B6.out⟩
          · exact ⟨P, _, by rw [bsr.cell]; rfl, P3.out, by rw [PLL.out]; decide⟩
        obtain ⟨x, vx, cj, hsx, hxl⟩ := hex
        obtain ⟨ax, cx, rfl⟩ := sl_inv hsx
        obtain ⟨m, hm⟩ : ∃ m, m = x.length := ⟨_, rfl⟩
        obtain ⟨L, L2, f, f2, g, X, hF⟩ := HPF.out x hxl
        have hg0 := hF.g0
        rw [← hm] at cj hsx
        have HF := Lib.hid hF; have SX := Lib.hid hsx
        clear hF hsx hm hxl bsr S3 P3
        go_wp2_with fail
        have D0 : Hid (Below wr.heap.size wr wr.drew) := Lib.hid (Below.refl _ _).drew
        refine wp_region_plan_in (fun x' => Below wr.heap.size wr x') (.take 0 (.take 1 (.take 2 (.take 4 (.take 5 (.take 6 (.sole 3 (.sole 7 (.take 8 (.take 9 (.take 10 (.take 11 (.take 12 .done))))))))))))) (by kernel_rfl) (by kernel_rfl) (by kernel_rfl) D0.out ?_
        refine plan_field 25 _ 0 bx 0 ⟨bx, 0, none⟩ (by rfl) (by rfl) (by rfl) (by first | (with_reducible exact Mem.ev_const _ _) | (with_reducible exact Mem.ev_zero _ _ _) | (with_reducible (apply Eq.trans (Mem.ev_tmp _ _ _)); simp only [List.getD_cons_succ, List.getD_cons_zero] <;> rfl)) (fun wx => by go_simp) ?_
        (simp only [Act.put, List.setIfInBounds_toArray, List.set_cons_zero, List.set_cons_succ])
        refine plan_row_at 22 _ bx 0 32 _ AA K 25 (by rfl) (by rfl) (by rfl) (by first | (with_reducible exact Mem.ev_const _ _) | (with_reducible exact Mem.ev_zero _ _ _) | (with_reducible (apply Eq.trans (Mem.ev_tmp _ _ _)); simp only [List.getD_cons_succ, List.getD_cons_zero] <;> rfl)) (fun w' hw' => AX3.out.below hw' AX3.out.lt) Tryd.underlying22 (by rfl) infoDg (by rw [MS.out]; decide) KK.out ?_
        (simp only [Act.put, List.setIfInBounds_toArray, List.set_cons_zero, List.set_cons_succ])
        refine plan_row 38 _ br _ M 38 (by rfl) (by rfl) (by rfl) (by first | (with_reducible exact Mem.ev_const _ _) | (with_reducible exact Mem.ev_zero _ _ _) | (with_reducible (apply Eq.trans (Mem.ev_tmp _ _ _)); simp only [List.getD_cons_succ, List.getD_cons_zero] <;> rfl)) (fun w' hw' => AM3.out.below hw' AM3.out.lt) Tryd.underlying38 (by rfl) (by rw [RS.out]; exact infoRfR) ?_
        (simp only [Act.put, List.setIfInBounds_toArray, List.set_cons_zero, List.set_cons_succ])
        refine plan_field 25 _ 3 bx 0 ⟨bx, 34, none⟩ (by rfl) (by rfl) (by rfl) (by first | (with_reducible exact Mem.ev_const _ _) | (with_reducible exact Mem.ev_zero _ _ _) | (with_reducible (apply Eq.trans (Mem.ev_tmp _ _ _)); simp only [List.getD_cons_succ, List.getD_cons_zero] <;> rfl)) (fun wx => by go_simp) ?_
        (simp only [Act.put, List.setIfInBounds_toArray, List.set_cons_zero, List.set_cons_succ])
        refine plan_cell 3 _ _ (.int .i64 bl) _ (by rfl) (by rfl) (by rfl) (by first | (with_reducible exact Mem.ev_const _ _) | (with_reducible exact Mem.ev_zero _ _ _) | (with_reducible (apply Eq.trans (Mem.ev_tmp _ _ _)); simp only [List.getD_cons_succ, List.getD_cons_zero] <;> rfl)) (fun w' hw' => by rw [(AX3.out.below hw' AX3.out.lt).cell]; exact K34.out) Tryd.underlying3 (by rfl) ?_
        (simp only [Act.put, List.setIfInBounds_toArray, List.set_cons_zero, List.set_cons_succ])
        (first | (refine plan_move _ _ (by rfl) (by rfl) (.inl (by rfl)) (by first | (with_reducible exact Mem.ev_const _ _) | (with_reducible exact Mem.ev_zero _ _ _) | (with_reducible (apply Eq.trans (Mem.ev_tmp _ _ _)); simp only [List.getD_cons_succ, List.getD_cons_zero] <;> rfl)) ?_) | (refine plan_move _ _ (by rfl) (by rfl) (.inr (by rfl)) (by first | (with_reducible exact Mem.ev_const _ _) | (with_reducible exact Mem.ev_zero _ _ _) | (with_reducible (apply Eq.trans (Mem.ev_tmp _ _ _)); simp only [List.getD_cons_succ, List.getD_cons_zero] <;> rfl)) ?_) | (refine plan_pick_t _ _ _ _ (by rfl) (by rfl) (by rfl) (by first | (with_reducible exact Mem.ev_const _ _) | (with_reducible exact Mem.ev_zero _ _ _) | (with_reducible (apply Eq.trans (Mem.ev_tmp _ _ _)); simp only [List.getD_cons_succ, List.getD_cons_zero] <;> rfl)) (by first | (with_reducible exact Mem.ev_const _ _) | (with_reducible exact Mem.ev_zero _ _ _) | (with_reducible (apply Eq.trans (Mem.ev_tmp _ _ _)); simp only [List.getD_cons_succ, List.getD_cons_zero] <;> rfl)) ?_) | (refine plan_pick_f _ _ _ _ (by rfl) (by rfl) (by rfl) (by first | (with_reducible exact Mem.ev_const _ _) | (with_reducible exact Mem.ev_zero _ _ _) | (with_reducible (apply Eq.trans (Mem.ev_tmp _ _ _)); simp only [List.getD_cons_succ, List.getD_cons_zero] <;> rfl)) (by first | (with_reducible exact Mem.ev_const _ _) | (with_reducible exact Mem.ev_zero _ _ _) | (with_reducible (apply Eq.trans (Mem.ev_tmp _ _ _)); simp only [List.getD_cons_succ, List.getD_cons_zero] <;> rfl)) ?_))
        (simp only [Act.put, List.setIfInBounds_toArray, List.set_cons_zero, List.set_cons_succ])
        refine plan_call 18 _ _ _ (by kernel_rfl) (by rfl) (by rfl) (by rfl) (by first | exact Mem.ev_none _ | (simp only [List.map_toArray, List.map_cons, List.map_nil, Mem.ev_tmp, List.getD_cons_succ, List.getD_cons_zero] <;> rfl)) ?_
        refine (HF.out.th _).mono ?_
        rintro o' y1 ⟨rfl, hb⟩
        have D1 : Hid (Below wr.heap.size wr y1) := Lib.hid (D0.out.trans (hb.mono D0.out.size))
        clear hb
        refine ⟨_, rfl, D1.out, ?_⟩
        (simp only [Act.put, List.setIfInBounds_toArray, List.set_cons_zero, List.set_cons_succ])
        refine plan_call 17 _ _ _ (by kernel_rfl) (by rfl) (by rfl) (by rfl) (by first | exact Mem.ev_none _ | (simp only [List.map_toArray, List.map_cons, List.map_nil, Mem.ev_tmp, List.getD_cons_succ, List.getD_cons_zero] <;> rfl)) ?_
        refine (HF.out.op (.slice ax m cx) _ (SX.out.below D1.out) (CC.out.below T3.out D1.out)).mono ?_
        rintro o' y2 ⟨v4, rfl, hs, hb⟩
        have D2 : Hid (Below wr.heap.size wr y2) := Lib.hid (D1.out.trans (hb.mono D1.out.size))
        have W4 := Lib.hid hs
        clear hs hb
        refine ⟨_, rfl, D2.out, ?_⟩
        (simp only [Act.put, List.setIfInBounds_toArray, List.set_cons_zero, List.set_cons_succ])
        (first | (refine plan_move _ _ (by rfl) (by rfl) (.inl (by rfl)) (by first | (with_reducible exact Mem.ev_const _ _) | (with_reducible exact Mem.ev_zero _ _ _) | (with_reducible (apply Eq.trans (Mem.ev_tmp _ _ _)); simp only [List.getD_cons_succ, List.getD_cons_zero] <;> rfl)) ?_) | (refine plan_move _ _ (by rfl) (by rfl) (.inr (by rfl)) (by first | (with_reducible exact Mem.ev_const _ _) | (with_reducible exact Mem.ev_zero _ _ _) | (with_reducible (apply Eq.trans (Mem.ev_tmp _ _ _)); simp only [List.getD_cons_succ, List.getD_cons_zero] <;> rfl)) ?_) | (refine plan_pick_t _ _ _ _ (by rfl) (by rfl) (by rfl) (by first | (with_reducible exact Mem.ev_const _ _) | (with_reducible exact Mem.ev_zero _ _ _) | (with_reducible (apply Eq.trans (Mem.ev_tmp _ _ _)); simp only [List.getD_cons_succ, List.getD_cons_zero] <;> rfl)) (by first | (with_reducible exact Mem.ev_const _ _) | (with_reducible exact Mem.ev_zero _ _ _) | (with_reducible (apply Eq.trans (Mem.ev_tmp _ _ _)); simp only [List.getD_cons_succ, List.getD_cons_zero] <;> rfl)) ?_) | (refine plan_pick_f _ _ _ _ (by rfl) (by rfl) (by rfl) (by first | (with_reducible exact Mem.ev_const _ _) | (with_reducible exact Mem.ev_zero _ _ _) | (with_reducible (apply Eq.trans (Mem.ev_tmp _ _ _)); simp only [List.getD_cons_succ, List.getD_cons_zero] <;> rfl)) (by first | (with_reducible exact Mem.ev_const _ _) | (with_reducible exact Mem.ev_zero _ _ _) | (with_reducible (apply Eq.trans (Mem.ev_tmp _ _ _)); simp only [List.getD_cons_succ, List.getD_cons_zero] <;> rfl)) ?_))
        (simp only [Act.put, List.setIfInBounds_toArray, List.set_cons_zero, List.set_cons_succ])
        refine plan_extract _ _ #[v4, (.int .i64 f)] v4 (by rfl) (by rfl) (by rfl) (by first | (with_reducible exact Mem.ev_const _ _) | (with_reducible exact Mem.ev_zero _ _ _) | (with_reducible (apply Eq.trans (Mem.ev_tmp _ _ _)); simp only [List.getD_cons_succ, List.getD_cons_zero] <;> rfl)) (by rfl) ?_
        (simp only [Act.put, List.setIfInBounds_toArray, List.set_cons_zero, List.set_cons_succ])
        refine plan_extract _ _ #[v4, (.int .i64 f)] (.int .i64 f) (by rfl) (by rfl) (by rfl) (by first | (with_reducible exact Mem.ev_const _ _) | (with_reducible exact Mem.ev_zero _ _ _) | (with_reducible (apply Eq.trans (Mem.ev_tmp _ _ _)); simp only [List.getD_cons_succ, List.getD_cons_zero] <;> rfl)) (by rfl) ?_
        (simp only [Act.put, List.setIfInBounds_toArray, List.set_cons_zero, List.set_cons_succ])
        (first | (refine plan_move _ _ (by rfl) (by rfl) (.inl (by rfl)) (by first | (with_reducible exact Mem.ev_const _ _) | (with_reducible exact Mem.ev_zero _ _ _) | (with_reducible (apply Eq.trans (Mem.ev_tmp _ _ _)); simp only [List.getD_cons_succ, List.getD_cons_zero] <;> rfl)) ?_) | (refine plan_move _ _ (by rfl) (by rfl) (.inr (by rfl)) (by first | (with_reducible exact Mem.ev_const _ _) | (with_reducible exact Mem.ev_zero _ _ _) | (with_reducible (apply Eq.trans (Mem.ev_tmp _ _ _)); simp only [List.getD_cons_succ, List.getD_cons_zero] <;> rfl)) ?_) | (refine plan_pick_t _ _ _ _ (by rfl) (by rfl) (by rfl) (by first | (with_reducible exact Mem.ev_const _ _) | (with_reducible exact Mem.ev_zero _ _ _) | (with_reducible (apply Eq.trans (Mem.ev_tmp _ _ _)); simp only [List.getD_cons_succ, List.getD_cons_zero] <;> rfl)) (by first | (with_reducible exact Mem.ev_const _ _) | (with_reducible exact Mem.ev_zero _ _ _) | (with_reducible (apply Eq.trans (Mem.ev_tmp _ _ _)); simp only [List.getD_cons_succ, List.getD_cons_zero] <;> rfl)) ?_) | (refine plan_pick_f _ _ _ _ (by rfl) (by rfl) (by rfl) (by first | (with_reducible exact Mem.ev_const _ _) | (with_reducible exact Mem.ev_zero _ _ _) | (with_reducible (apply Eq.trans (Mem.ev_tmp _ _ _)); simp only [List.getD_cons_succ, List.getD_cons_zero] <;> rfl)) (by first | (with_reducible exact Mem.ev_const _ _) | (with_reducible exact Mem.ev_zero _ _ _) | (with_reducible (apply Eq.trans (Mem.ev_tmp _ _ _)); simp only [List.getD_cons_succ, List.getD_cons_zero] <;> rfl)) ?_))
        (simp only [Act.put, List.setIfInBounds_toArray, List.set_cons_zero, List.set_cons_succ])
        (first | (refine plan_move _ _ (by rfl) (by rfl) (.inl (by rfl)) (by first | (with_reducible exact Mem.ev_const _ _) | (with_reducible exact Mem.ev_zero _ _ _) | (with_reducible (apply Eq.trans (Mem.ev_tmp _ _ _)); simp only [List.getD_cons_succ, List.getD_cons_zero] <;> rfl)) ?_) | (refine plan_move _ _ (by rfl) (by rfl) (.inr (by rfl)) (by first | (with_reducible exact Mem.ev_const _ _) | (with_reducible exact Mem.ev_zero _ _ _) | (with_reducible (apply Eq.trans (Mem.ev_tmp _ _ _)); simp only [List.getD_cons_succ, List.getD_cons_zero] <;> rfl)) ?_) | (refine plan_pick_t _ _ _ _ (by rfl) (by rfl) (by rfl) (by first | (with_reducible exact Mem.ev_const _ _) | (with_reducible exact Mem.ev_zero _ _ _) | (with_reducible (apply Eq.trans (Mem.ev_tmp _ _ _)); simp only [List.getD_cons_succ, List.getD_cons_zero] <;> rfl)) (by first | (with_reducible exact Mem.ev_const _ _) | (with_reducible exact Mem.ev_zero _ _ _) | (with_reducible (apply Eq.trans (Mem.ev_tmp _ _ _)); simp only [List.getD_cons_succ, List.getD_cons_zero] <;> rfl)) ?_) | (refine plan_pick_f _ _ _ _ (by rfl) (by rfl) (by rfl) (by first | (with_reducible exact Mem.ev_const _ _) | (with_reducible exact Mem.ev_zero _ _ _) | (with_reducible (apply Eq.trans (Mem.ev_tmp _ _ _)); simp only [List.getD_cons_succ, List.getD_cons_zero] <;> rfl)) (by first | (with_reducible exact Mem.ev_const _ _) | (with_reducible exact Mem.ev_zero _ _ _) | (with_reducible (apply Eq.trans (Mem.ev_tmp _ _ _)); simp only [List.getD_cons_succ, List.getD_cons_zero] <;> rfl)) ?_))
        (simp only [Act.put, List.setIfInBounds_toArray, List.set_cons_zero, List.set_cons_succ])
        refine plan_nil ?_
        have V4 := Lib.hid (W4.out); have SX4 := Lib.hid (SX.out.below D2.out); have T4 := Lib.hid (CC.out.below T3.out D2.out); have AX4 := Lib.hid (AX3.out.below D2.out AX3.out.lt); have AM4 := Lib.hid (AM3.out.below D2.out AM3.out.lt); have BB4 := Lib.hid (BB3.out.trans (D2.out.mono BB3.out.size))
        have j34 : y2.cell? ⟨bx, 34, none⟩ = some (.int .i64 bl) := (AX4.out.cell 34).trans K34.out
        clear W4 SX T3 AX3 AM3 BB3 D0 D1 D2 cj
        go_wp2_with (first
          | (refine wpList_load_is (by rfl) 22 _ (by rfl) bx 0 32 (by rfl) _ Tryd.underlying22 (by rfl) (by kernel_rfl) AA _ AX4.out (by rw [MS.out]; decide) K KK.out ?_)
          | (refine wpList_load_all (by rfl) 38 _ (by rfl) br (by rfl) _ Tryd.underlying38 (by rfl) M _ AM4.out (by rw [RS.out]; exact infoRfR) ?_))
        refine (HF.out.rop (.slice ax m cx) y2 SX4.out).mono ?_
        rintro e w5 ⟨u5, rfl, hs, hb⟩
        have U5 := Lib.hid hs; have V5 := Lib.hid (V4.out.below hb); have SX5 := Lib.hid (SX4.out.below hb); have T5 := Lib.hid (CC.out.below T4.out hb); have AX5 := Lib.hid (AX4.out.below hb AX4.out.lt); have AM5 := Lib.hid (AM4.out.below hb AM4.out.lt); have BB5 := Lib.hid (BB4.out.trans (hb.mono BB4.out.size))
        clear hs hb V4 SX4 T4 AX4 AM4 BB4 j34
        have j32 : w5.cell? ⟨bx, 32, none⟩ = some (.int .u32 (V ep)) := (AX5.out.cell 32).trans K32.out
        have j34 : w5.cell? ⟨bx, 34, none⟩ = some (.int .i64 bl) := (AX5.out.cell 34).trans K34.out
        go_wp2_with (refine wpList_load_is (by rfl) 22 _ (by rfl) bx 0 32 (by rfl) _ Tryd.underlying22 (by rfl) (by kernel_rfl) AA _ AX5.out (by rw [MS.out]; decide) K KK.out ?_)
        refine (HF.out.rhi (.slice ax m cx) w5 SX5.out).mono ?_
        rintro e w6 ⟨u6, rfl, hb0⟩
        have hal : Below w6.heap.size w6 (w6.alloc (.cells X 38)) := (Below.refl _ _).alloc (Nat.le_refl _) _
        have hb := hb0.trans (hal.mono hb0.size)
        have R7 := Lib.hid (at_new w6 X 38); have U7 := Lib.hid (U5.out.below hb); have V7 := Lib.hid (V5.out.below hb); have SX7 := Lib.hid (SX5.out.below hb); have T7 := Lib.hid (CC.out.below T5.out hb); have AX7 := Lib.hid (AX5.out.below hb AX5.out.lt); have BB7 := Lib.hid (BB5.out.trans (hb.mono BB5.out.size))
        clear hb0 hal hb U5 V5 SX5 T5 AX5 AM5 BB5 j32 j34
        go_wp2_with (refine wpList_store_new (by rfl) 38 _ _ (by rfl) (by rfl) X _ _ (by rfl) (by rfl) (by rw [HF.out.xs]; exact infoRfR) (by rw [HF.out.xs, ZS.out]) HF.out.xo ?_; clear hxR; generalize w6.alloc (.cells X 38) = w7 at *; generalize w6.heap.size = b7 at *)
        have D0 : Hid (Below w7.heap.size w7 w7.drew) := Lib.hid (Below.refl _ _).drew
        refine wp_region_plan_in (fun x' => Below w7.heap.size w7 x') (.take 0 (.take 1 (.take 2 (.take 4 (.take 5 (.take 6 (.sole 3 (.sole 7 (.take 8 (.take 9 (.take 10 (.take 11 (.take 12 .done))))))))))))) (by kernel_rfl) (by kernel_rfl) (by kernel_rfl) D0.out ?_
        refine plan_field 25 _ 0 bx 0 ⟨bx, 0, none⟩ (by rfl) (by rfl) (by rfl) (by first | (with_reducible exact Mem.ev_const _ _) | (with_reducible exact Mem.ev_zero _ _ _) | (with_reducible (apply Eq.trans (Mem.ev_tmp _ _ _)); simp only [List.getD_cons_succ, List.getD_cons_zero] <;> rfl)) (fun wx => by go_simp) ?_
        (simp only [Act.put, List.setIfInBounds_toArray, List.set_cons_zero, List.set_cons_succ])
        refine plan_row_at 22 _ bx 0 32 _ AA K 25 (by rfl) (by rfl) (by rfl) (by first | (with_reducible exact Mem.ev_const _ _) | (with_reducible exact Mem.ev_zero _ _ _) | (with_reducible (apply Eq.trans (Mem.ev_tmp _ _ _)); simp only [List.getD_cons_succ, List.getD_cons_zero] <;> rfl)) (fun w' hw' => AX7.out.below hw' AX7.out.lt) Tryd.underlying22 (by rfl) infoDg (by rw [MS.out]; decide) KK.out ?_
        (simp only [Act.put, List.setIfInBounds_toArray, List.set_cons_zero, List.set_cons_succ])
        refine plan_row 38 _ b7 _ X 38 (by rfl) (by rfl) (by rfl) (by first | (with_reducible exact Mem.ev_const _ _) | (with_reducible exact Mem.ev_zero _ _ _) | (with_reducible (apply Eq.trans (Mem.ev_tmp _ _ _)); simp only [List.getD_cons_succ, List.getD_cons_zero] <;> rfl)) (fun w' hw' => R7.out.below hw' R7.out.lt) Tryd.underlying38 (by rfl) (by rw [HF.out.xs]; exact infoRfR) ?_
        (simp only [Act.put, List.setIfInBounds_toArray, List.set_cons_zero, List.set_cons_succ])
        refine plan_field 25 _ 3 bx 0 ⟨bx, 34, none⟩ (by rfl) (by rfl) (by rfl) (by first | (with_reducible exact Mem.ev_const _ _) | (with_reducible exact Mem.ev_zero _ _ _) | (with_reducible (apply Eq.trans (Mem.ev_tmp _ _ _)); simp only [List.getD_cons_succ, List.getD_cons_zero] <;> rfl)) (fun wx => by go_simp) ?_
        (simp only [Act.put, List.setIfInBounds_toArray, List.set_cons_zero, List.set_cons_succ])
        refine plan_cell 3 _ _ (.int .i64 bl) _ (by rfl) (by rfl) (by rfl) (by first | (with_reducible exact Mem.ev_const _ _) | (with_reducible exact Mem.ev_zero _ _ _) | (with_reducible (apply Eq.trans (Mem.ev_tmp _ _ _)); simp only [List.getD_cons_succ, List.getD_cons_zero] <;> rfl)) (fun w' hw' => by rw [(AX7.out.below hw' AX7.out.lt).cell]; exact K34.out) Tryd.underlying3 (by rfl) ?_
        (simp only [Act.put, List.setIfInBounds_toArray, List.set_cons_zero, List.set_cons_succ])
        (first | (refine plan_move _ _ (by rfl) (by rfl) (.inl (by rfl)) (by first | (with_reducible exact Mem.ev_const _ _) | (with_reducible exact Mem.ev_zero _ _ _) | (with_reducible (apply Eq.trans (Mem.ev_tmp _ _ _)); simp only [List.getD_cons_succ, List.getD_cons_zero] <;> rfl)) ?_) | (refine plan_move _ _ (by rfl) (by rfl) (.inr (by rfl)) (by first | (with_reducible exact Mem.ev_const _ _) | (with_reducible exact Mem.ev_zero _ _ _) | (with_reducible (apply Eq.trans (Mem.ev_tmp _ _ _)); simp only [List.getD_cons_succ, List.getD_cons_zero] <;> rfl)) ?_) | (refine plan_pick_t _ _ _ _ (by rfl) (by rfl) (by rfl) (by first | (with_reducible exact Mem.ev_const _ _) | (with_reducible exact Mem.ev_zero _ _ _) | (with_reducible (apply Eq.trans (Mem.ev_tmp _ _ _)); simp only [List.getD_cons_succ, List.getD_cons_zero] <;> rfl)) (by first | (with_reducible exact Mem.ev_const _ _) | (with_reducible exact Mem.ev_zero _ _ _) | (with_reducible (apply Eq.trans (Mem.ev_tmp _ _ _)); simp only [List.getD_cons_succ, List.getD_cons_zero] <;> rfl)) ?_) | (refine plan_pick_f _ _ _ _ (by rfl) (by rfl) (by rfl) (by first | (with_reducible exact Mem.ev_const _ _) | (with_reducible exact Mem.ev_zero _ _ _) | (with_reducible (apply Eq.trans (Mem.ev_tmp _ _ _)); simp only [List.getD_cons_succ, List.getD_cons_zero] <;> rfl)) (by first | (with_reducible exact Mem.ev_const _ _) | (with_reducible exact Mem.ev_zero _ _ _) | (with_reducible (apply Eq.trans (Mem.ev_tmp _ _ _)); simp only [List.getD_cons_succ, List.getD_cons_zero] <;> rfl)) ?_))
        (simp only [Act.put, List.setIfInBounds_toArray, List.set_cons_zero, List.set_cons_succ])
        refine plan_call 18 _ _ _ (by kernel_rfl) (by rfl) (by rfl) (by rfl) (by first | exact Mem.ev_none _ | (simp only [List.map_toArray, List.map_cons, List.map_nil, Mem.ev_tmp, List.getD_cons_succ, List.getD_cons_zero] <;> rfl)) ?_
        refine (HF.out.th2 _).mono ?_
        rintro o' y1 ⟨rfl, hb⟩
        have D1 : Hid (Below w7.heap.size w7 y1) := Lib.hid (D0.out.trans (hb.mono D0.out.size))
        clear hb
        refine ⟨_, rfl, D1.out, ?_⟩
        (simp only [Act.put, List.setIfInBounds_toArray, List.set_cons_zero, List.set_cons_succ])
        refine plan_call 17 _ _ _ (by kernel_rfl) (by rfl) (by rfl) (by rfl) (by first | exact Mem.ev_none _ | (simp only [List.map_toArray, List.map_cons, List.map_nil, Mem.ev_tmp, List.getD_cons_succ, List.getD_cons_zero] <;> rfl)) ?_
        refine (HF.out.op2 (.slice ax m cx) _ (SX7.out.below D1.out) (CC.out.below T7.out D1.out)).mono ?_
        rintro o' y2 ⟨v8, rfl, hs, hb⟩
        have D2 : Hid (Below w7.heap.size w7 y2) := Lib.hid (D1.out.trans (hb.mono D1.out.size))
        have W4 := Lib.hid hs
        clear hs hb
        refine ⟨_, rfl, D2.out, ?_⟩
        (simp only [Act.put, List.setIfInBounds_toArray, List.set_cons_zero, List.set_cons_succ])
        (first | (refine plan_move _ _ (by rfl) (by rfl) (.inl (by rfl)) (by first | (with_reducible exact Mem.ev_const _ _) | (with_reducible exact Mem.ev_zero _ _ _) | (with_reducible (apply Eq.trans (Mem.ev_tmp _ _ _)); simp only [List.getD_cons_succ, List.getD_cons_zero] <;> rfl)) ?_) | (refine plan_move _ _ (by rfl) (by rfl) (.inr (by rfl)) (by first | (with_reducible exact Mem.ev_const _ _) | (with_reducible exact Mem.ev_zero _ _ _) | (with_reducible (apply Eq.trans (Mem.ev_tmp _ _ _)); simp only [List.getD_cons_succ, List.getD_cons_zero] <;> rfl)) ?_) | (refine plan_pick_t _ _ _ _ (by rfl) (by rfl) (by rfl) (by first | (with_reducible exact Mem.ev_const _ _) | (with_reducible exact Mem.ev_zero _ _ _) | (with_reducible (apply Eq.trans (Mem.ev_tmp _ _ _)); simp only [List.getD_cons_succ, List.getD_cons_zero] <;> rfl)) (by first | (with_reducible exact Mem.ev_const _ _) | (with_reducible exact Mem.ev_zero _ _ _) | (with_reducible (apply Eq.trans (Mem.ev_tmp _ _ _)); simp only [List.getD_cons_succ, List.getD_cons_zero] <;> rfl)) ?_) | (refine plan_pick_f _ _ _ _ (by rfl) (by rfl) (by rfl) (by first | (with_reducible exact Mem.ev_const _ _) | (with_reducible exact Mem.ev_zero _ _ _) | (with_reducible (apply Eq.trans (Mem.ev_tmp _ _ _)); simp only [List.getD_cons_succ, List.getD_cons_zero] <;> rfl)) (by first | (with_reducible exact Mem.ev_const _ _) | (with_reducible exact Mem.ev_zero _ _ _) | (with_reducible (apply Eq.trans (Mem.ev_tmp _ _ _)); simp only [List.getD_cons_succ, List.getD_cons_zero] <;> rfl)) ?_))
        (simp only [Act.put, List.setIfInBounds_toArray, List.set_cons_zero, List.set_cons_succ])
        refine plan_extract _ _ #[v8, (.int .i64 f2)] v8 (by rfl) (by rfl) (by rfl) (by first | (with_reducible exact Mem.ev_const _ _) | (with_reducible exact Mem.ev_zero _ _ _) | (with_reducible (apply Eq.trans (Mem.ev_tmp _ _ _)); simp only [List.getD_cons_succ, List.getD_cons_zero] <;> rfl)) (by rfl) ?_
        (simp only [Act.put, List.setIfInBounds_toArray, List.set_cons_zero, List.set_cons_succ])
        refine plan_extract _ _ #[v8, (.int .i64 f2)] (.int .i64 f2) (by rfl) (by rfl) (by rfl) (by first | (with_reducible exact Mem.ev_const _ _) | (with_reducible exact Mem.ev_zero _ _ _) | (with_reducible (apply Eq.trans (Mem.ev_tmp _ _ _)); simp only [List.getD_cons_succ, List.getD_cons_zero] <;> rfl)) (by rfl) ?_
        (simp only [Act.put, List.setIfInBounds_toArray, List.set_cons_zero, List.set_cons_succ])
        (first | (refine plan_move _ _ (by rfl) (by rfl) (.inl (by rfl)) (by first | (with_reducible exact Mem.ev_const _ _) | (with_reducible exact Mem.ev_zero _ _ _) | (with_reducible (apply Eq.trans (Mem.ev_tmp _ _ _)); simp only [List.getD_cons_succ, List.getD_cons_zero] <;> rfl)) ?_) | (refine plan_move _ _ (by rfl) (by rfl) (.inr (by rfl)) (by first | (with_reducible exact Mem.ev_const _ _) | (with_reducible exact Mem.ev_zero _ _ _) | (with_reducible (apply Eq.trans (Mem.ev_tmp _ _ _)); simp only [List.getD_cons_succ, List.getD_cons_zero] <;> rfl)) ?_) | (refine plan_pick_t _ _ _ _ (by rfl) (by rfl) (by rfl) (by first | (with_reducible exact Mem.ev_const _ _) | (with_reducible exact Mem.ev_zero _ _ _) | (with_reducible (apply Eq.trans (Mem.ev_tmp _ _ _)); simp only [List.getD_cons_succ, List.getD_cons_zero] <;> rfl)) (by first | (with_reducible exact Mem.ev_const _ _) | (with_reducible exact Mem.ev_zero _ _ _) | (with_reducible (apply Eq.trans (Mem.ev_tmp _ _ _)); simp only [List.getD_cons_succ, List.getD_cons_zero] <;> rfl)) ?_) | (refine plan_pick_f _ _ _ _ (by rfl) (by rfl) (by rfl) (by first | (with_reducible exact Mem.ev_const _ _) | (with_reducible exact Mem.ev_zero _ _ _) | (with_reducible (apply Eq.trans (Mem.ev_tmp _ _ _)); simp only [List.getD_cons_succ, List.getD_cons_zero] <;> rfl)) (by first | (with_reducible exact Mem.ev_const _ _) | (with_reducible exact Mem.ev_zero _ _ _) | (with_reducible (apply Eq.trans (Mem.ev_tmp _ _ _)); simp only [List.getD_cons_succ, List.getD_cons_zero] <;> rfl)) ?_))
        (simp only [Act.put, List.setIfInBounds_toArray, List.set_cons_zero, List.set_cons_succ])
        (first | (refine plan_move _ _ (by rfl) (by rfl) (.inl (by rfl)) (by first | (with_reducible exact Mem.ev_const _ _) | (with_reducible exact Mem.ev_zero _ _ _) | (with_reducible (apply Eq.trans (Mem.ev_tmp _ _ _)); simp only [List.getD_cons_succ, List.getD_cons_zero] <;> rfl)) ?_) | (refine plan_move _ _ (by rfl) (by rfl) (.inr (by rfl)) (by first | (with_reducible exact Mem.ev_const _ _) | (with_reducible exact Mem.ev_zero _ _ _) | (with_reducible (apply Eq.trans (Mem.ev_tmp _ _ _)); simp only [List.getD_cons_succ, List.getD_cons_zero] <;> rfl)) ?_) | (refine plan_pick_t _ _ _ _ (by rfl) (by rfl) (by rfl) (by first | (with_reducible exact Mem.ev_const _ _) | (with_reducible exact Mem.ev_zero _ _ _) | (with_reducible (apply Eq.trans (Mem.ev_tmp _ _ _)); simp only [List.getD_cons_succ, List.getD_cons_zero] <;> rfl)) (by first | (with_reducible exact Mem.ev_const _ _) | (with_reducible exact Mem.ev_zero _ _ _) | (with_reducible (apply Eq.trans (Mem.ev_tmp _ _ _)); simp only [List.getD_cons_succ, List.getD_cons_zero] <;> rfl)) ?_) | (refine plan_pick_f _ _ _ _ (by rfl) (by rfl) (by rfl) (by first | (with_reducible exact Mem.ev_const _ _) | (with_reducible exact Mem.ev_zero _ _ _) | (with_reducible (apply Eq.trans (Mem.ev_tmp _ _ _)); simp only [List.getD_cons_succ, List.getD_cons_zero] <;> rfl)) (by first | (with_reducible exact Mem.ev_const _ _) | (with_reducible exact Mem.ev_zero _ _ _) | (with_reducible (apply Eq.trans (Mem.ev_tmp _ _ _)); simp only [List.getD_cons_succ, List.getD_cons_zero] <;> rfl)) ?_))
        (simp only [Act.put, List.setIfInBounds_toArray, List.set_cons_zero, List.set_cons_succ])
        refine plan_nil ?_
        have U8 := Lib.hid (U7.out.below D2.out); have V8 := Lib.hid (V7.out.below D2.out); have SX8 := Lib.hid (SX7.out.below D2.out); have T8 := Lib.hid (CC.out.below T7.out D2.out); have AX8 := Lib.hid (AX7.out.below D2.out AX7.out.lt); have R8 := Lib.hid (R7.out.below D2.out R7.out.lt); have BB8 := Lib.hid (BB7.out.trans (D2.out.mono BB7.out.size)); have V28 := Lib.hid W4.out
        have j34 : y2.cell? ⟨bx, 34, none⟩ = some (.int .i64 bl) := (AX8.out.cell 34).trans K34.out
        clear U7 V7 SX7 T7 AX7 R7 BB7 D0 D1 D2 W4
        go_wp2_with (first
          | (refine wpList_load_is (by rfl) 22 _ (by rfl) bx 0 32 (by rfl) _ Tryd.underlying22 (by rfl) (by kernel_rfl) AA _ AX8.out (by rw [MS.out]; decide) K KK.out ?_)
          | (refine wpList_load_all (by rfl) 38 _ (by rfl) b7 (by rfl) _ Tryd.underlying38 (by rfl) X _ R8.out (by rw [HF.out.xs]; exact infoRfR) ?_))
        refine (HF.out.rop2 (.slice ax m cx) y2 SX8.out).mono ?_
        rintro e w9 ⟨u9', rfl, hs, hb⟩
        have U29 := Lib.hid hs; have U9 := Lib.hid (U8.out.below hb); have V9 := Lib.hid (V8.out.below hb); have V29 := Lib.hid (V28.out.below hb); have BB9 := Lib.hid (BB8.out.trans (hb.mono BB8.out.size))
        clear hs hb U8 V8 SX8 T8 AX8 R8 BB8 V28 j34
        go_wp2_with fail
        refine (same_any L L _ _ w9 V9.out U9.out (by have := HF.out.l1; omega) (by have := HF.out.l1; omega)).mono ?_
        rw [sameB_self]
        rintro e w10 ⟨rfl, hb⟩
        have U210 := Lib.hid (U29.out.below hb); have V210 := Lib.hid (V29.out.below hb); have BB10 := Lib.hid (BB9.out.trans (hb.mono BB9.out.size))
        clear hb U9 V9 U29 V29 BB9
        go_wp2_with fail
        refine (same_any L2 L2 _ _ w10 V210.out U210.out (by have := HF.out.l2; omega) (by have := HF.out.l2; omega)).mono ?_
        rw [sameB_self]
        rintro e w11 ⟨rfl, hb⟩
        have BB11 := Lib.hid (BB10.out.trans (hb.mono BB10.out.size))
        clear hb U210 V210 BB10
        have hg1 : ¬ g < 0 := by omega
        go_wp2_with fail
        go_roundw
        case rel => exact ⟨j + 1, by omega, by go_num, BB11.out⟩
        case measure => simp [intOf]; omega
      · have hj2 : j = 2 := by omega
        have hge : ¬ (j : Int) < 2 := by omega
        have BXR := Lib.hid (BX2.out.trans (BB3.out.mono BX2.out.size))
        clear S3 P3 AX3 AM3 bsr hlt hxR
        go_wp2_with fail
        refine (ALV.out wr T3.out).mono ?_
        rintro e w12 ⟨rfl, hb⟩
        have B12 := Lib.hid (BXR.out.trans (hb.mono BXR.out.size))
        clear hb
        go_wp2_with fail
        go_ret
        exact ⟨rfl, B12.out⟩
end Sha
end Go.Proofs.YtmfgimkopddcgaaDoor
namespace Go.Proofs.YtmfgimkopddcgaaDoor
namespace Sha
open Go.ChangeShapes Go.WideShapes Go.ChangeAt Go.WideMaps Go.WideElems Go.RowKit Mem
set_option maxRecDepth 100000

set_option maxRecDepth 100000 in
theorem sealOpens_lifted (os : Os) (started : os.Started) (H : Type) (enc : TypeId × Value → H) :
    ReturnsInHanded {} Tryd.checked os 4 .any (fun w args => (Rows.sealOpensSpec.pre enc Tryd.prog Tryd.f4 [] false w args ∧ laidMetH Tryd.prog laidL w) ∧ sizedMet enc Tryd.prog Tryd.f4 (OpenSpec.ofChange Rows.sealOpensSpec) false w args)
      (Rows.sealOpensSpec.post enc Tryd.prog Tryd.f4 false true false false) := by
  refine law_lift rfl rfl (by kernel_rfl) (fun H ds hl => ?_) (by kernel_rfl) Tryd.func4 os started H enc #[.agg (askC ⟨List.replicate 32 0, 0, 0, 0⟩), .agg (refC zref), .slice none 0 0] 8 (by kernel_rfl) (by kernel_rfl) (by kernel_rfl) (World.shaped_of_RefB (by kernel_rfl) (by kernel_rfl)) (door_met os _) rfl ?_
  · have hl' : ds.length = 3 := hl
    match ds, hl' with
    | [_, _, _], _ => rfl
  · intro W base args ds p hval hA hT
    rw [Tryd.params4] at hA hval
    obtain ⟨v0, vs0, d0, ds0, p0, q0, hargs, rfl, rfl, h0, r0⟩ := trodAll_cons hA
    obtain ⟨v1, vs1, d1, ds1, p1, q1, rfl, rfl, rfl, h1, r1⟩ := trodAll_cons r0
    obtain ⟨v2, vs2, d2, ds2, p2, q2, rfl, rfl, rfl, h2, r2⟩ := trodAll_cons r1
    obtain ⟨rfl, rfl, rfl⟩ := trodAll_nil r2
    obtain rfl : args = #[v0, v1, v2] := by cases args; simp_all
    have k0 := hval 0 25 v0 rfl rfl
    have k1 := hval 1 38 v1 rfl rfl
    have k2 := hval 2 26 v2 rfl rfl
    clear hval
    obtain ⟨a, rfl, ha⟩ := open_ask9 k0 h0
    obtain ⟨r, rfl, hr⟩ := open_ref9 k1 h1
    obtain ⟨b, sb, lb⟩ := open_sl k2 h2
    exact opens_core sealP9 a ha r hr b v2 W sb lb hT
theorem sealOpens_holds : Rows.SealOpensSaid :=
  OpenClaim.holds_of_wide 4 Tryd.f4 rfl rfl rfl rfl rfl rfl rfl ⟨rfl, rfl, rfl, rfl, rfl⟩ rfl rfl rfl rfl rfl (by kernel_rfl) Tryd.func4 (by kernel_rfl)
    (of_decide_eq_true (by kernel_rfl)) (by unfold Func.isWrapper; first | (rw [if_pos (by decide +kernel)]; kernel_rfl) | (rw [if_neg (by decide +kernel)]; exact ⟨rfl, rfl⟩))
    (fun os started H enc _ => sealOpens_lifted os started H enc)
theorem sealOpens_card : Rows.SealOpensCardSaid :=
  Claim7.holds_tied_plain_at .later [] [.data, .data, .data, .data] true (true, "7c2a96d1b893a63d5f7b31ce1bc3e010c6a1c609f653f8130d4722b647222005") false
    sealOpens_holds (fun _ h => by cases h) (by kernel_rfl) (fun _ h => by cases h) sealOpens_row_tie rfl ⟨rfl, rfl⟩ (by kernel_rfl) rfl
    (fun f fn hf hfn => by
      obtain rfl : f = 4 := Option.some.inj ((show Tryd.prog.funcNamed "carling/carlinglaw09.SealOpens" = some 4 by kernel_rfl).symm.trans hf) |>.symm
      obtain rfl : fn = Tryd.f4 := (Option.some.inj (Tryd.func4.symm.trans hfn)).symm
      exact ⟨by kernel_rfl, fun j t ht => by
        rw [Tryd.params4] at ht
        have hm : t ∈ [25, 38, 26] := by simpa using Array.mem_of_getElem? ht
        have hall : ([25, 38, 26].all fun u => !Tryd.prog.wantsStandIn u) = true := by kernel_rfl
        exact (show Tryd.prog.wantsStandIn t = false by simpa using List.all_eq_true.1 hall t hm)⟩)
    (by kernel_rfl)
#print axioms sealOpens_card
end Sha
end Go.Proofs.YtmfgimkopddcgaaDoor
