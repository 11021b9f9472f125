/- The function literal that joins macs, and the walk over a block's macs. -/
import Derived.Test.YtngegegomkclbaaDoorStrJoin
namespace Go.Proofs.YtngegegomkclbaaDoor
namespace Sha
open Go.RowKit Mem
theorem jnOf_size (a b : List (BitVec 8)) (la : a.length = 32) (lb : b.length = 32) : (jnOf a b).size = 32 := by simp [jnOf, u8s, joinB_length a b (by rw [la, lb]), la]
set_option maxRecDepth 100000 in
set_option maxHeartbeats 1000000 in
/-- The literal: the variable that it holds on to has what it was handed joined to it. -/
theorem lit_any (a m : List (BitVec 8)) (la : a.length = 32) (lm : m.length = 32) (bb : Nat) (w : World) (ha : At w bb (u8s a).toArray 25) :
    Calls Tryd.prog 50 #[.agg (u8s m).toArray, .pointer (some ⟨bb, 0, none⟩)] w fun e w' => e = .returned (.tuple #[]) ∧ At w' bb (jnOf a m) 25 ∧ But bb w w' ∧ (∀ B x, Below B x w → B ≤ bb → B ≤ w.heap.size → Below B x w') := by
  have hj := fun wx => join_any a m la lm wx
  obtain ⟨C, hC⟩ : ∃ C, C = (u8s a).toArray := ⟨_, rfl⟩
  obtain ⟨D, hD⟩ : ∃ D, D = (u8s m).toArray := ⟨_, rfl⟩
  obtain ⟨M, hM⟩ : ∃ M, M = jnOf a m := ⟨_, rfl⟩
  have hCs : C.size = 32 := by rw [hC]; simp [u8s, la]
  have hDs : D.size = 32 := by rw [hD]; simp [u8s, lm]
  have hMs : M.size = 32 := by rw [hM]; exact jnOf_size a m la lm
  have hMo : M.all (·.oneCell') = true := by rw [hM]; exact u8s_one _
  rw [← hC] at ha
  rw [← hC, ← hD, ← hM] at hj
  rw [← hD, ← hM]
  have J := Lib.hid hj; have CS := Lib.hid hCs; have DS := Lib.hid hDs; have MS := Lib.hid hMs; have MO := Lib.hid hMo
  have A1 := Lib.hid (ha.alloc (.cells D 25)); have D1 := Lib.hid (at_new w D 25); have LT := Lib.hid ha.lt
  clear hj hC hD hM hCs hDs hMs hMo ha la lm
  go_enter Tryd.func50, Tryd.ntmps50
  go_wp2_with (first
    | (refine wpList_load_all (by rfl) 25 _ (by rfl) bb (by rfl) _ Tryd.underlying25 (by rfl) C _ A1.out (by rw [CS.out]; exact info32) ?_)
    | (refine wpList_load_all (by rfl) 25 _ (by rfl) w.heap.size (by rfl) _ Tryd.underlying25 (by rfl) D _ D1.out (by rw [DS.out]; exact info32) ?_)
    | (go_at_call 26; refine (J.out _).mono ?_; rintro e w2 ⟨rfl, hb2⟩; have A2 := Lib.hid (A1.out.below hb2 A1.out.lt); have B2 := Lib.hid (((Below.refl w.heap.size w).alloc (Nat.le_refl _) (.cells D 25)).trans (hb2.mono (by simp))); clear hb2)
    | (refine wpList_store_all (by rfl) 25 _ _ (by rfl) (by rfl) bb M (by rfl) (by rfl) (by rw [MS.out]; exact info32) _ _ A2.out (by rw [MS.out, CS.out]) MO.out ?_))
  go_end0
  exact ⟨rfl, A2.out.row M, ((But.refl bb w).below B2.out).row (by simp) (fun k hk => setRow_other _ _ k M hk), fun B x hb h1 h2 => below_row (hb.trans (B2.out.mono h2)) h1 M⟩
theorem info4 : (Tryd.prog.info? 81).map (·.size) = some 4 := by kernel_rfl
theorem num_any (n : BitVec 32) : V n / (16777216 : Int) % (256 : Int) = ((wb n 24).toNat : Int) ∧ V n / (65536 : Int) % (256 : Int) = ((wb n 16).toNat : Int) ∧ V n / (256 : Int) % (256 : Int) = ((wb n 8).toNat : Int) ∧ V n % (256 : Int) = ((wb n 0).toNat : Int) := ⟨wb24 n, wb16 n, wb8 n, by rw [← wb0]⟩
theorem one_mac (K salt : List (BitVec 8)) (n : BitVec 32) (i : Nat) (vk vp : Value) (w : World) (hk : Sl w vk K) (hv : Sls w vp [mcs K salt n i]) (lK : K.length = 64) (hL : Tabs w) :
    Calls Tryd.prog 16 #[vk, vp] w fun e w' => e = .returned (.agg (u8s (mcs K salt n (i + 1))).toArray) ∧ Below w.heap.size w w' := by
  have h := mac_any K [mcs K salt n i] vk vp w hk hv (by rw [lK]; decide) (by simp [mcs_length]) (by simp) hL
  rw [show [mcs K salt n i].flatten = mcs K salt n i by simp] at h
  exact h
theorem But.over {b c : Nat} {w w' w2 : World} (h : But b w w') (k : But c w' w2) (hc : w.heap.size ≤ c) : But b w w2 :=
  ⟨Nat.le_trans h.size k.size, fun j hj hne => (k.block j (Nat.lt_of_lt_of_le hj h.size) (by omega)).trans (h.block j hj hne)⟩
theorem But.same {b : Nat} {w w' w2 : World} (h : But b w w') (k : But b w' w2) : But b w w2 :=
  ⟨Nat.le_trans h.size k.size, fun j hj hne => (k.block j (Nat.lt_of_lt_of_le hj h.size) hne).trans (h.block j hj hne)⟩
/-- What stands between two macs. -/
structure EInv (K salt : List (BitVec 8)) (n : BitVec 32) (w0 w : World) (bb bk bm i : Nat) (wr : World) : Prop where
  acc : At wr bb (u8s (blk K salt n i)).toArray 25
  key : At wr bk (u8s K).toArray 28
  mac : At wr bm (u8s (mcs K salt n (i - 1))).toArray 25
  b : Below w0.heap.size w0 wr
  bt : But bb w wr
set_option maxRecDepth 100000 in
set_option maxHeartbeats 2000000 in
theorem each_any (K salt : List (BitVec 8)) (n : BitVec 32) (r : Nat) (vs : Value) (bb : Nat) (w0 w : World) (lK : K.length = 64) (hr1 : 1 ≤ r) (hr2 : r ≤ 10000) (ls : salt.length ≤ 1099511627776)
    (hs : Sl w0 vs salt) (hL : Tabs w0) (hb : Below w0.heap.size w0 w) (hbb : w0.heap.size ≤ bb) (ha : At w bb (u8s (List.replicate 32 0)).toArray 25) :
    Calls Tryd.prog 49 #[.agg (u8s K).toArray, vs, .int .i64 (r : Int), .int .u32 (V n), .func (.func 50) #[] #[.pointer (some ⟨bb, 0, none⟩)]] w
      fun e w' => e = .returned (.tuple #[]) ∧ At w' bb (u8s (blk K salt n r)).toArray 25 ∧ Below w0.heap.size w0 w' ∧ But bb w w' := by
  have hs0 := hs
  obtain ⟨az, cz, rfl, _, _⟩ := hs
  obtain ⟨ns, hns⟩ : ∃ ns, ns = salt.length := ⟨_, rfl⟩
  rw [← hns] at hs0 ⊢
  obtain ⟨F, hF⟩ : ∃ F, F = (u8s K).toArray := ⟨_, rfl⟩
  have hFs : F.size = 64 := by rw [hF]; simp [u8s, lK]
  rw [← hF]
  obtain ⟨e24, e16, e8, e0⟩ := num_any n
  have bs0 : Below w0.heap.size w0 (w.alloc (.cells F 28)) := hb.alloc hb.size _
  have E24 := Lib.hid e24; have E16 := Lib.hid e16; have E8 := Lib.hid e8; have E0 := Lib.hid e0
  have HF := Lib.hid hF; have FS := Lib.hid hFs; have HS := Lib.hid hs0; have HL := Lib.hid hL; have B0 := Lib.hid bs0; have HB := Lib.hid hb; have HBB := Lib.hid hbb; have HA := Lib.hid ha; have LK := Lib.hid lK; have LS := Lib.hid ls
  clear hF hFs hs0 hns hL hb hbb ha lK e24 e16 e8 e0 bs0 ls
  go_enter Tryd.func49, Tryd.ntmps49
  go_wp2_with fail
  rw [E24.out, E16.out, E8.out, E0.out]
  generalize hw1 : (w.alloc (.cells F 28)).alloc _ = w1
  have k5 : At w1 w.heap.size F 28 := by rw [← hw1]; exact (at_new w F _).alloc _
  have n10 : At w1 (w.heap.size + 1) (u8s (be4 n)).toArray 81 := by
    have h := at_new (w.alloc (.cells F 28)) (u8s (be4 n)).toArray 81
    rw [show (w.alloc (.cells F 28)).heap.size = w.heap.size + 1 by simp] at h
    rw [← hw1]; exact h
  have acc : At w1 bb (u8s (List.replicate 32 0)).toArray 25 := by rw [← hw1]; exact (HA.out.alloc _).alloc _
  have b1 : Below w0.heap.size w0 w1 := by rw [← hw1]; exact B0.out.alloc B0.out.size _
  have bt1 : But bb w w1 := (But.refl bb w).below (by rw [← hw1]; exact ((Below.refl _ _).alloc (Nat.le_refl _) _).alloc (by simp) _)
  have slk : Sl w1 (.slice (some ⟨w.heap.size, 0, none⟩) 64 64) K := at_sl (by rw [← HF.out]; exact k5) LK.out
  have sln : Sl w1 (.slice (some ⟨w.heap.size + 1, 0, none⟩) 4 4) (be4 n) := at_sl n10 rfl
  have sls : Sl w1 (.slice az ns cz) salt := HS.out.below b1
  have hmac := fun (wx : World) (vp : Value) (hx : Below w1.heap.size w1 wx) (h2 : Sls wx vp [salt, be4 n]) => mac_any K [salt, be4 n] (.slice (some ⟨w.heap.size, 0, none⟩) 64 64) vp wx (slk.below hx) h2 (by rw [LK.out]; decide) (by have := LS.out; simp [be4]; omega) (by simp) (HL.out.below (b1.trans (hx.mono b1.size)) (Nat.le_refl _))
  rw [show [salt, be4 n].flatten = salt ++ be4 n by simp] at hmac
  have hone := fun (wx : World) (vp : Value) (i : Nat) (hx : Sl wx (.slice (some ⟨w.heap.size, 0, none⟩) 64 64) K) (hb : Below w0.heap.size w0 wx) (h2 : Sls wx vp [mcs K salt n i]) => one_mac K salt n i (.slice (some ⟨w.heap.size, 0, none⟩) 64 64) vp wx hx h2 LK.out (HL.out.below hb (Nat.le_refl _))
  have hbk : w.heap.size < w1.heap.size := k5.lt
  have hba : bb < w.heap.size := HA.out.lt
  have ALL := Lib.hid run_allocDg
  obtain ⟨Z, hZ⟩ : ∃ Z, Z = Z32 := ⟨_, rfl⟩
  rw [← hZ] at ALL
  have hZs : Z.size = 32 := by rw [hZ]; simp [Z32, u8s]
  obtain ⟨G, hG⟩ : ∃ G, G = mcOf K (salt ++ be4 n) := ⟨_, rfl⟩
  have hGs : G.size = 32 := by rw [hG]; exact mcOf_size _ _
  have hGo : G.all (·.oneCell') = true := by rw [hG]; exact mcOf_one _ _
  rw [← hG] at hmac
  obtain ⟨bk, hbkk⟩ : ∃ b, b = w.heap.size := ⟨_, rfl⟩
  obtain ⟨bn, hbn⟩ : ∃ b, b = w.heap.size + 1 := ⟨_, rfl⟩
  rw [← hbn] at sln
  rw [← hbkk] at slk hmac hone k5 hbk hba
  rw [show w.heap.size + 1 = bn from hbn.symm, show w.heap.size = bk from hbkk.symm]
  have MAC := Lib.hid hmac; have ONE := Lib.hid hone; have SLK := Lib.hid slk; have SLN := Lib.hid sln; have SLS := Lib.hid sls; have B1 := Lib.hid b1; have BT1 := Lib.hid bt1; have ACC := Lib.hid acc; have K5 := Lib.hid k5; have BKL := Lib.hid hbk; have BAL := Lib.hid hba
  have ZS := Lib.hid hZs; have GS := Lib.hid hGs; have GO := Lib.hid hGo; have HG := Lib.hid hG
  clear hmac hone slk sln sls b1 bt1 acc k5 n10 hbk hba hZs hGs hGo hG hZ hw1 hbkk hbn E24 E16 E8 E0 B0 HB HA
  go_cut [11] (fun x wx => OneAt w1 G 25 x wx)
  case first =>
    refine wp_region_plan (.take 0 (.take 1 (.take 2 (.two 3 5 (.two 4 5 (.sole 5 (.sole 6 .done)) (.sole 4 (.sole 6 .done))) (.sole 3 (.sole 4 (.sole 6 .done))))))) (by kernel_rfl) (by kernel_rfl) (by kernel_rfl) ?_
    refine plan_cut _ _ 64 5 bk 0 (by rfl) (by rfl) (by rfl) (by first | (with_reducible exact Mem.ev_const _ _) | (with_reducible exact Mem.ev_zero _ _ _) | (with_reducible (apply Eq.trans (Mem.ev_tmp _ _ _)); simp only [List.getD_cons_succ, List.getD_cons_zero] <;> rfl)) Tryd.underlying28 infoB ?_
    (simp only [Act.put, List.setIfInBounds_toArray, List.set_cons_zero, List.set_cons_succ])
    (first | (refine plan_move _ _ (by rfl) (by rfl) (.inl (by rfl)) (by first | (with_reducible exact Mem.ev_const _ _) | (with_reducible exact Mem.ev_zero _ _ _) | (with_reducible (apply Eq.trans (Mem.ev_tmp _ _ _)); simp only [List.getD_cons_succ, List.getD_cons_zero] <;> rfl)) ?_) | (refine plan_move _ _ (by rfl) (by rfl) (.inr (by rfl)) (by first | (with_reducible exact Mem.ev_const _ _) | (with_reducible exact Mem.ev_zero _ _ _) | (with_reducible (apply Eq.trans (Mem.ev_tmp _ _ _)); simp only [List.getD_cons_succ, List.getD_cons_zero] <;> rfl)) ?_) | (refine plan_pick_t _ _ _ _ (by rfl) (by rfl) (by rfl) (by first | (with_reducible exact Mem.ev_const _ _) | (with_reducible exact Mem.ev_zero _ _ _) | (with_reducible (apply Eq.trans (Mem.ev_tmp _ _ _)); simp only [List.getD_cons_succ, List.getD_cons_zero] <;> rfl)) (by first | (with_reducible exact Mem.ev_const _ _) | (with_reducible exact Mem.ev_zero _ _ _) | (with_reducible (apply Eq.trans (Mem.ev_tmp _ _ _)); simp only [List.getD_cons_succ, List.getD_cons_zero] <;> rfl)) ?_) | (refine plan_pick_f _ _ _ _ (by rfl) (by rfl) (by rfl) (by first | (with_reducible exact Mem.ev_const _ _) | (with_reducible exact Mem.ev_zero _ _ _) | (with_reducible (apply Eq.trans (Mem.ev_tmp _ _ _)); simp only [List.getD_cons_succ, List.getD_cons_zero] <;> rfl)) (by first | (with_reducible exact Mem.ev_const _ _) | (with_reducible exact Mem.ev_zero _ _ _) | (with_reducible (apply Eq.trans (Mem.ev_tmp _ _ _)); simp only [List.getD_cons_succ, List.getD_cons_zero] <;> rfl)) ?_))
    (simp only [Act.put, List.setIfInBounds_toArray, List.set_cons_zero, List.set_cons_succ])
    refine plan_cut _ _ 4 5 bn 0 (by rfl) (by rfl) (by rfl) (by first | (with_reducible exact Mem.ev_const _ _) | (with_reducible exact Mem.ev_zero _ _ _) | (with_reducible (apply Eq.trans (Mem.ev_tmp _ _ _)); simp only [List.getD_cons_succ, List.getD_cons_zero] <;> rfl)) Tryd.underlying81 infoB ?_
    (simp only [Act.put, List.setIfInBounds_toArray, List.set_cons_zero, List.set_cons_succ])
    have B : Hid (Below w1.heap.size w1 w1.drew) := (Below.refl _ _).drew
    generalize w1.drew = W at *
    repeat' (first
      | (refine plan_two ?_ ?_)
      | (refine plan_slice (i := 3) 51 22 2 _ #[.slice az ns cz, .slice (some ⟨bn, 0, none⟩) 4 4] (by rfl) (by rfl) (by rfl) Tryd.underlying51 (by kernel_rfl) (B.out.alloc B.out.size _) ?_
         have LIT := Lib.hid (sls_lit2 (SLS.out.below B.out) (SLN.out.below B.out))
         (try (have A8 := Lib.hid (A8.out.alloc (.cells #[.slice az ns cz, .slice (some ⟨bn, 0, none⟩) 4 4] 22))))
         have B := Lib.hid (B.out.alloc B.out.size (.cells #[.slice az ns cz, .slice (some ⟨bn, 0, none⟩) 4 4] 22))
         (simp only [Act.put, List.setIfInBounds_toArray, List.set_cons_zero, List.set_cons_succ])
         obtain ⟨bl, hbl⟩ : ∃ b, b = W.heap.size := ⟨_, rfl⟩
         rw [← hbl] at LIT ⊢
         clear hbl
         generalize W.alloc _ = W at *)
      | (refine plan_call (i := 4) 16 _ _ _ (by kernel_rfl) (by rfl) (by rfl) (by rfl) (by first | exact Mem.ev_none _ | (simp only [List.map_toArray, List.map_cons, List.map_nil, Mem.ev_tmp, List.getD_cons_succ, List.getD_cons_zero] <;> rfl)) ?_
         refine (MAC.out _ _ B.out LIT.out).mono ?_
         rintro e W ⟨rfl, hbn⟩
         have B := Lib.hid (B.out.trans (hbn.mono B.out.size))
         (try (have A8 := Lib.hid (A8.out.below hbn A8.out.lt)))
         clear hbn
         refine ⟨_, rfl, B.out, ?_⟩
         (simp only [Act.put, List.setIfInBounds_toArray, List.set_cons_zero, List.set_cons_succ]))
      | (refine plan_alloc_any (i := 5) 25 Z (by rfl) (by rfl) (by rfl) ALL.out (fun W' h => h _ _ B.out B.out.size) ?_
         intro b8 W ha hlo _ hbb
         have LO8 := Lib.hid (Nat.le_trans B.out.size hlo)
         (try (have LIT := Lib.hid (LIT.out.below (hbb _ _ (Below.refl _ _) (Nat.le_refl _)))))
         have B := Lib.hid (hbb _ _ B.out B.out.size)
         have A8 := Lib.hid ha
         clear ha hlo hbb
         (simp only [Act.put, List.setIfInBounds_toArray, List.set_cons_zero, List.set_cons_succ]))
      | (refine plan_store_any (i := 6) 25 _ _ b8 G Z 25 (by rfl) (by rfl) (by rfl) (by rfl) (by rfl) (by rfl) (by rw [GS.out]; exact info32) A8.out (by rw [GS.out, ZS.out]) GO.out (fun W' h => h _ _ B.out LO8.out) ?_
         intro W ha _ hbb
         have B := Lib.hid (hbb _ _ B.out LO8.out)
         have A8 := Lib.hid ha
         clear ha hbb))
    all_goals (refine plan_nil ?_; go_wp2_with fail; go_meet; exact ⟨b8, rfl, LO8.out, A8.out, B.out⟩)
  case rest =>
    obtain ⟨bm, rfl, hlo, hat, hb⟩ := hcut
    rw [HG.out, show mcOf K (salt ++ be4 n) = (u8s (mcs K salt n 0)).toArray from rfl] at hat
    have hlit := lit_any (List.replicate 32 0) (mcs K salt n 0) (by simp) (mcs_length K salt n 0) bb wc (ACC.out.below hb (Nat.lt_trans BAL.out BKL.out))
    have hwc : w.heap.size ≤ wc.heap.size := Nat.le_trans BT1.out.size hb.size
    have hbm : w.heap.size ≤ bm := Nat.le_trans BT1.out.size hlo
    have hbm0 : w0.heap.size ≤ bm := Nat.le_trans B1.out.size hlo
    have hkm : bk ≠ bm := by have := BKL.out; omega
    have ham : bb ≠ bm := by have := BKL.out; have := BAL.out; omega
    have hbka : bk ≠ bb := by have := BAL.out; omega
    obtain ⟨D, hD⟩ : ∃ D, D = (u8s (mcs K salt n 0)).toArray := ⟨_, rfl⟩
    have hDs : D.size = 32 := by rw [hD]; simp [u8s, mcs_length]
    rw [← hD] at hat hlit
    have LIT := Lib.hid hlit; have HAT := Lib.hid hat; have BMW := Lib.hid hbm; have BM0 := Lib.hid hbm0; have KM := Lib.hid hkm; have AM := Lib.hid ham; have KA := Lib.hid hbka; have DS := Lib.hid hDs; have HD := Lib.hid hD
    have BC := Lib.hid (B1.out.trans (hb.mono B1.out.size)); have BTC := Lib.hid (BT1.out.below hb); have KC := Lib.hid (K5.out.below hb BKL.out)
    clear hlit hat hbm hbm0 hkm ham hbka hDs hD hb hlo hwc MAC SLK SLN SLS B1 BT1 ACC K5 BKL BAL ZS GS GO HG ALL
    go_wp2_with (refine wpList_load_all (by rfl) 25 _ (by rfl) bm (by rfl) _ Tryd.underlying25 (by rfl) D _ HAT.out (by rw [DS.out]; exact info32) ?_)
    refine LIT.out.mono ?_
    rintro e w2 ⟨rfl, ha2, hb2, hbl2⟩
    have I0 : Hid (EInv K salt n w0 w bb bk bm 1 w2) := ⟨ha2, by rw [← HF.out]; exact KC.out.but hb2 KA.out, by show At w2 bm (u8s (mcs K salt n 0)).toArray _; rw [← HD.out]; exact HAT.out.but hb2 (Ne.symm AM.out), hbl2 _ _ BC.out HBB.out BC.out.size, But.same BTC.out hb2⟩
    clear ha2 hb2 hbl2 LIT HAT BC BTC KC HD DS
    go_wp2_with fail
    go_loopw [34] (fun i wr => ∃ j : Nat, j ≤ r - 1 ∧ i = .int .i64 j ∧ EInv K salt n w0 w bb bk bm (j + 1) wr) (fun i _ => r - (intOf i).toNat)
    case atStart => exact ⟨0, by omega, rfl, I0.out⟩
    case round =>
      clear I0
      obtain ⟨j, hj, rfl, hI⟩ := hrel
      by_cases hlt : j < r - 1
      · have hlt' : (j : Int) < (r : Int) - 1 := by omega
        have slk : Sl wr.drew (.slice (some ⟨bk, 0, none⟩) 64 64) K := at_sl hI.key LK.out
        have slm : Sl wr.drew (.slice (some ⟨bm, 0, none⟩) 32 32) (mcs K salt n j) := at_sl (by have h := hI.mac; rw [Nat.add_sub_cancel] at h; exact h) (mcs_length K salt n j)
        have mac0 : At wr bm (u8s (mcs K salt n j)).toArray 25 := by have h := hI.mac; rw [Nat.add_sub_cancel] at h; exact h
        have hlit := fun (wx : World) (h : At wx bb (u8s (blk K salt n (j + 1))).toArray 25) => lit_any (blk K salt n (j + 1)) (mcs K salt n (j + 1)) (blk_length K salt n (j + 1)) (mcs_length K salt n (j + 1)) bb wx h
        obtain ⟨D, hD⟩ : ∃ D, D = (u8s (mcs K salt n (j + 1))).toArray := ⟨_, rfl⟩
        have hDs : D.size = 32 := by rw [hD]; simp [u8s, mcs_length]
        have hDo : D.all (·.oneCell') = true := by rw [hD]; exact u8s_one _
        have hone := fun (wx : World) (vp : Value) (hx : Sl wx (.slice (some ⟨bk, 0, none⟩) 64 64) K) (hb : Below w0.heap.size w0 wx) (h2 : Sls wx vp [mcs K salt n j]) => ONE.out wx vp j hx hb h2
        have m0s : (u8s (mcs K salt n j)).toArray.size = 32 := by simp [u8s, mcs_length]
        rw [← hD] at hlit hone
        have SLK := Lib.hid slk; have SLM := Lib.hid slm; have M0 := Lib.hid mac0; have LIT := Lib.hid hlit; have ON := Lib.hid hone; have DS := Lib.hid hDs; have DO := Lib.hid hDo; have HD := Lib.hid hD; have II := Lib.hid hI; have MS := Lib.hid m0s
        clear slk slm mac0 hlit hone hDs hDo hD hI m0s
        go_wp2_with fail
        refine wp_region_plan_in (fun w' => But bm wr w' ∧ Below w0.heap.size w0 w') (.take 0 (.take 1 (.sole 2 (.sole 3 (.sole 4 .done))))) (by kernel_rfl) (by kernel_rfl) (by kernel_rfl) ⟨⟨Nat.le_refl _, fun _ _ _ => rfl⟩, II.out.b.drew⟩ ?_
        refine plan_cut _ _ 64 5 bk 0 (by rfl) (by rfl) (by rfl) (by first | (with_reducible exact Mem.ev_const _ _) | (with_reducible exact Mem.ev_zero _ _ _) | (with_reducible (apply Eq.trans (Mem.ev_tmp _ _ _)); simp only [List.getD_cons_succ, List.getD_cons_zero] <;> rfl)) Tryd.underlying28 infoB ?_
        (simp only [Act.put, List.setIfInBounds_toArray, List.set_cons_zero, List.set_cons_succ])
        refine plan_cut _ _ 32 5 bm 0 (by rfl) (by rfl) (by rfl) (by first | (with_reducible exact Mem.ev_const _ _) | (with_reducible exact Mem.ev_zero _ _ _) | (with_reducible (apply Eq.trans (Mem.ev_tmp _ _ _)); simp only [List.getD_cons_succ, List.getD_cons_zero] <;> rfl)) Tryd.underlying25 infoB ?_
        (simp only [Act.put, List.setIfInBounds_toArray, List.set_cons_zero, List.set_cons_succ])
        have B : Hid (Below wr.heap.size wr wr.drew) := (Below.refl _ _).drew
        generalize wr.drew = W at *
        refine plan_slice 51 22 1 _ #[.slice (some ⟨bm, 0, none⟩) 32 32] (by rfl) (by rfl) (by rfl) Tryd.underlying51 (by kernel_rfl) ⟨(But.refl _ _).below (B.out.alloc B.out.size _), II.out.b.trans ((B.out.alloc B.out.size _).mono II.out.b.size)⟩ ?_
        have SLS := Lib.hid (sls_lit1 SLM.out)
        have SK := Lib.hid (SLK.out.below ((Below.refl _ _).alloc (Nat.le_refl _) (.cells #[.slice (some ⟨bm, 0, none⟩) 32 32] 22)))
        have B := Lib.hid (B.out.alloc B.out.size (.cells #[.slice (some ⟨bm, 0, none⟩) 32 32] 22))
        (simp only [Act.put, List.setIfInBounds_toArray, List.set_cons_zero, List.set_cons_succ])
        refine plan_call 16 _ _ _ (by kernel_rfl) (by rfl) (by rfl) (by rfl) (by first | exact Mem.ev_none _ | (simp only [List.map_toArray, List.map_cons, List.map_nil, Mem.ev_tmp, List.getD_cons_succ, List.getD_cons_zero] <;> rfl)) ?_
        refine (ON.out _ _ SK.out (II.out.b.trans (B.out.mono II.out.b.size)) SLS.out).mono ?_
        rintro e W ⟨rfl, hbn⟩
        have B := Lib.hid (B.out.trans (hbn.mono B.out.size))
        clear hbn
        refine ⟨_, rfl, ⟨(But.refl _ _).below B.out, II.out.b.trans (B.out.mono II.out.b.size)⟩, ?_⟩
        (simp only [Act.put, List.setIfInBounds_toArray, List.set_cons_zero, List.set_cons_succ])
        refine plan_store 25 _ _ bm D _ 25 (by rfl) (by rfl) (by rfl) (by rfl) (by first | (with_reducible exact Mem.ev_const _ _) | (with_reducible exact Mem.ev_zero _ _ _) | (with_reducible (apply Eq.trans (Mem.ev_tmp _ _ _)); simp only [List.getD_cons_succ, List.getD_cons_zero] <;> rfl)) (by first | (with_reducible exact Mem.ev_const _ _) | (with_reducible exact Mem.ev_zero _ _ _) | (with_reducible (apply Eq.trans (Mem.ev_tmp _ _ _)); simp only [List.getD_cons_succ, List.getD_cons_zero] <;> rfl)) (by rw [DS.out]; exact info32) (M0.out.below B.out M0.out.lt) (by rw [DS.out, MS.out]) DO.out ⟨((But.refl _ _).below B.out).row (by simp) (fun k hk => setRow_other _ _ _ _ hk), below_row (II.out.b.trans (B.out.mono II.out.b.size)) BM0.out D⟩ ?_
        refine plan_nil ?_
        have a3 : At (W.setRow bm D) bb (u8s (blk K salt n (j + 1))).toArray 25 := (II.out.acc.below B.out II.out.acc.lt).row_other D AM.out
        have k3 : At (W.setRow bm D) bk (u8s K).toArray 28 := (II.out.key.below B.out II.out.key.lt).row_other D KM.out
        have m3 : At (W.setRow bm D) bm D 25 := (M0.out.below B.out M0.out.lt).row D
        have b3 : Below w0.heap.size w0 (W.setRow bm D) := below_row (II.out.b.trans (B.out.mono II.out.b.size)) BM0.out D
        have t3 : But bb w (W.setRow bm D) := But.over II.out.bt (((But.refl bm wr).below B.out).row (by simp) (fun k hk => setRow_other _ _ _ _ hk)) BMW.out
        have A3 := Lib.hid a3; have K3 := Lib.hid k3; have M3 := Lib.hid m3; have B3 := Lib.hid b3; have T3 := Lib.hid t3
        clear a3 k3 m3 b3 t3
        generalize W.setRow bm D = W3 at *
        go_wp2_with (refine wpList_load_all (by rfl) 25 _ (by rfl) bm (by rfl) _ Tryd.underlying25 (by rfl) D _ M3.out (by rw [DS.out]; exact info32) ?_)
        refine (LIT.out _ A3.out).mono ?_
        rintro e w4 ⟨rfl, ha4, hb4, hbl4⟩
        have I4 : Hid (EInv K salt n w0 w bb bk bm (j + 1 + 1) w4) := ⟨ha4, K3.out.but hb4 KA.out, by rw [Nat.add_sub_cancel, ← HD.out]; exact M3.out.but hb4 (Ne.symm AM.out), hbl4 _ _ B3.out HBB.out B3.out.size, But.same T3.out hb4⟩
        clear ha4 hb4 hbl4
        go_wp2_with fail
        go_roundw
        case rel => exact ⟨j + 1, by omega, by go_num, I4.out⟩
        case measure => simp [intOf]; omega
      · have hjr : j + 1 = r := by omega
        have hge : ¬ (j : Int) < (r : Int) - 1 := by omega
        rw [hjr] at hI
        have II := Lib.hid hI
        clear hI hjr hlt hj
        go_wp2_with fail
        go_end0
        exact ⟨rfl, II.out.acc, II.out.b, II.out.bt⟩
end Sha
end Go.Proofs.YtngegegomkclbaaDoor
