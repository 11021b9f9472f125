/- Layer 12: ShapeOne, over the contracts. -/
import Derived.Test.YtbboljmemomcnaaShpLive
import Derived.Test.YtbboljmemomcnaaShpMakes
import Derived.Test.YtbboljmemomcnaaOps0
import Derived.Test.YtbboljmemomcnaaPlan3
import Derived.Test.YtbboljmemomcnaaShpMath6
import Derived.Test.YtbboljmemomcnaaMapOne
import Derived.Deep.DeepCutAuto
namespace Go.Proofs.Ytbboljmemomcnaa
namespace Sha
open Go.RowKit Mem
set_option maxRecDepth 100000
set_option maxHeartbeats 4000000 in
theorem one12_bad (S : ShP) (z : Int) (w : World) (hz : z < 1 ∨ 216 < z) : Calls Try.prog 5 #[.int .i64 z] w fun e w' => e = .returned (.bool true) ∧ Below w.heap.size w w' := by
  have al := fun wx => alive12_any S wx
  have nw := S.bad z w hz
  obtain ⟨Z, hZ⟩ : ∃ Z, Z = S.Z := ⟨_, rfl⟩
  have zs := S.zsize; have zx := S.zero
  have zo := S.one w _ _ (S.nil w)
  rw [← hZ] at zs zx zo nw
  have HX := Lib.hid zx; have ZS := Lib.hid zs; have ZO := Lib.hid zo; have INF := Lib.hid S.info
  have AL := Lib.hid al; have NW := Lib.hid nw
  have G0 := Lib.hid (Below.refl w.heap.size w)
  clear al nw zs zx zo hz hZ
  go_enter Try.func5, Try.ntmps5
  go_wp2_with fail
  refine (NW.out).mono ?_
  rintro e x1 ⟨rfl, hb⟩
  have G1 : Hid (Below w.heap.size w x1) := Lib.hid (G0.out.trans (hb.mono G0.out.size))
  clear hb
  clear G0
  have G2 : Hid (Below w.heap.size w (x1.alloc (.cells Z 23))) := Lib.hid (G1.out.alloc G1.out.size _)
  have K1 := Lib.hid (at_new x1 Z 23)
  have hz := HX.out
  go_upto_region 2 with (refine wpList_store_new (by rfl) 23 _ _ (by rfl) (by rfl) Z _ _ (by rfl) (by rfl) (by rw [ZS.out]; exact INF.out) (by first | rfl | rw [ZS.out, ZS.out]) ZO.out ?_)
  clear hz
  obtain ⟨g2, hg⟩ : ∃ g, g = x1.heap.size := ⟨_, rfl⟩
  rw [← hg] at K1 ⊢
  clear hg
  generalize (x1.alloc (.cells Z 23)) = y2 at *
  clear G1
  go_wp2_with (first
    | (refine wpList_load_wanted (by rfl) 23 _ (by rfl) g2 (by rfl) _ Try.underlying23 (by rfl) Z _ K1.out (by rw [ZS.out]; exact INF.out) ?_))
  refine (AL.out _).mono ?_
  rintro e x3 ⟨rfl, hb⟩
  have G3 : Hid (Below w.heap.size w x3) := Lib.hid (G2.out.trans (hb.mono G2.out.size))
  have K1_3 := Lib.hid (K1.out.below hb K1.out.lt)
  clear hb
  clear K1 G2
  go_wp2_with (first
    | (refine wpList_load_wanted (by rfl) 23 _ (by rfl) g2 (by rfl) _ Try.underlying23 (by rfl) Z _ K1_3.out (by rw [ZS.out]; exact INF.out) ?_))
  go_ret
  exact ⟨rfl, G3.out⟩
set_option maxHeartbeats 16000000 in
theorem one12_good (S : ShP) (p : Nat) (w : World) (h0 : 1 ≤ p) (h1 : p ≤ 216) : Calls Try.prog 5 #[.int .i64 (p : Int)] w fun e w' => e = .returned (.bool true) ∧ Below w.heap.size w w' := by
  have al := fun wx => alive12_any S wx
  have nw := S.good p w h0 h1
  have it := fun wx C h => S.items wx C p h1 h
  have rt := fun wx C h => S.root wx C p h1 h
  have kd := fun z wx C h => S.kids wx C p z h1 h
  have pr := fun z wx C h => S.parent wx C p z h1 h
  have lv := fun z wx C h => S.level wx C p z h1 h
  have bk := fun z k wx C h => S.block wx C p z k h1 h
  have im := fun b wx C h => S.item wx C p b h1 h
  have hb := itn_big p h0 h1
  have hmet := fun i hi => met_any p i h0 h1 hi
  have hv0 := vis_first p h0
  have hvn := vis_last p h0 h1
  have hbz : ∀ i k : Nat, i < itn p → k < 2 → BZ p (i : Int) (k : Int) = 2 + 2 * (i : Int) + (k : Int) := fun i k hi hk => BZ_at p i k hi hk
  have hiz : ∀ i k : Nat, i < itn p → k < 2 → IZ p (2 + 2 * (i : Int) + (k : Int)) = ((i : Int), (k : Int), true) := fun i k hi hk => IZ_found p i k _ hi hk rfl
  obtain ⟨n, hn⟩ : ∃ n, n = itn p := ⟨_, rfl⟩
  have hlt9 : ∀ i m K, Met p i m K → ∀ k, k < m → vis p i + k < n := fun i m K h k hk => by rw [hn]; exact h.lt k hk
  rw [← hn] at it rt hb hmet hvn hbz hiz
  have hn9 : n ≤ 259 := hb.2
  have hn1 : 1 ≤ n := by omega
  obtain ⟨Z, hZ⟩ : ∃ Z, Z = S.Z := ⟨_, rfl⟩
  have zs := S.zsize; have zx := S.zero
  rw [← hZ] at zs zx
  have HX := Lib.hid zx; have ZS := Lib.hid zs; have INF := Lib.hid S.info
  have AL := Lib.hid al; have NW := Lib.hid nw; have IT := Lib.hid it; have RT := Lib.hid rt; have KD := Lib.hid kd; have PR := Lib.hid pr; have LV := Lib.hid lv; have BK := Lib.hid bk; have IM := Lib.hid im
  have MET := Lib.hid hmet; have LT9 := Lib.hid hlt9; have V0 := Lib.hid hv0; have VN := Lib.hid hvn; have HBZ := Lib.hid hbz; have HIZ := Lib.hid hiz
  have G0 := Lib.hid (Below.refl w.heap.size w)
  clear al nw it rt kd pr lv bk im hb hmet hlt9 hv0 hvn hbz hiz zs zx hZ hn h0
  go_enter Try.func5, Try.ntmps5
  go_wp2_with fail
  refine (NW.out).mono ?_
  rintro e x1 ⟨C, rfl, hr, hb⟩
  have G1 : Hid (Below w.heap.size w x1) := Lib.hid (G0.out.trans (hb.mono G0.out.size))
  have RR := Lib.hid hr; have CS := Lib.hid (S.size _ _ _ hr); have CO := Lib.hid (S.one _ _ _ hr)
  clear hr hb G0
  have R2 := Lib.hid (S.below _ _ _ _ RR.out ((Below.refl _ _).alloc (Nat.le_refl _) (.cells C 23)))
  have G2 : Hid (Below w.heap.size w (x1.alloc (.cells C 23))) := Lib.hid (G1.out.alloc G1.out.size _)
  have K2 := Lib.hid (at_new x1 C 23)
  have hz := HX.out
  go_upto_region 4 with (refine wpList_store_new (by rfl) 23 _ _ (by rfl) (by rfl) C _ _ (by rfl) (by rfl) (by rw [CS.out]; exact INF.out) (by first | rfl | rw [CS.out, ZS.out]) CO.out ?_)
  clear hz
  obtain ⟨g2, hg⟩ : ∃ g, g = x1.heap.size := ⟨_, rfl⟩
  rw [← hg] at K2 ⊢
  clear hg
  generalize (x1.alloc (.cells C 23)) = y2 at *
  clear RR G1
  have M3 := Lib.hid (oneM_made y2)
  have B3 : Hid (Below y2.heap.size y2 (y2.alloc (.map #[] 0))) := Lib.hid ((Below.refl _ _).alloc (Nat.le_refl _) _)
  go_upto_region 5 with (refine wpList_map_made (by rfl) 42 (by rfl) ?_)
  obtain ⟨bm, hbm⟩ : ∃ b, b = y2.heap.size := ⟨_, rfl⟩
  have HBM := Lib.hid hbm
  rw [← hbm] at M3 ⊢
  clear hbm
  generalize (y2.alloc (.map #[] 0)) = y3 at *
  have A3 := Lib.hid (K2.out.below B3.out K2.out.lt); have R3 := Lib.hid (S.below _ _ _ _ R2.out B3.out)
  go_wp2_with (refine wpList_load_all (by rfl) 23 _ (by rfl) g2 (by rfl) _ Try.underlying23 (by rfl) C _ A3.out (by rw [CS.out]; exact INF.out) ?_)
  refine (IT.out _ _ R3.out).mono ?_
  rintro e y4 ⟨rfl, hb4⟩
  have M4 : Hid (OneM y4 bm 0) := Lib.hid (M3.out.below hb4 M3.out.lt)
  have B4 : Hid (Below y2.heap.size y2 y4) := Lib.hid (B3.out.trans (hb4.mono B3.out.size))
  clear hb4 M3 A3 R3
  go_wp2_with fail
  go_loopw [29] (fun v wr => ∃ i : Nat, i ≤ n ∧ v = .int .i64 i ∧ Below y2.heap.size y2 wr ∧ OneM wr bm (vis p i)) (fun v _ => n - (intOf v).toNat)
  case atStart => exact ⟨0, by omega, rfl, B4.out, by rw [V0.out]; exact M4.out⟩
  case round =>
    obtain ⟨i, hi, rfl, hbw, hmw⟩ := hrel
    have BW := Lib.hid hbw; have MW := Lib.hid hmw; have AW := Lib.hid (K2.out.below hbw K2.out.lt); have RW := Lib.hid (S.below _ _ _ _ R2.out hbw)
    clear hbw hmw
    by_cases hlt : i < n
    · have hlt2 : (i : Int) < (n : Int) := by omega
      obtain ⟨m, hm⟩ := MET.out i hlt
      have kdi := fun wx C h => KD.out (i : Int) wx C h
      obtain ⟨K, hK⟩ : ∃ K, K = KZ p (i : Int) := ⟨_, rfl⟩
      rw [← hK] at hm kdi
      have hlt9 := fun k hk => LT9.out i m K hm k hk
      have HMT := Lib.hid hm; have KDI := Lib.hid kdi; have L9 := Lib.hid hlt9; have hm6 := hm.le
      clear hm kdi hK hlt9
      go_wp2_with (refine wpList_load_all (by rfl) 23 _ (by rfl) g2 (by rfl) _ Try.underlying23 (by rfl) C _ AW.out (by rw [CS.out]; exact INF.out) ?_)
      refine (KDI.out _ _ RW.out).mono ?_
      rintro e x4 ⟨v, rfl, hs, hb⟩
      obtain ⟨ak, ck, rfl⟩ := hs.hdn HMT.out.len
      have T4 := Lib.hid hs
      have B5 : Hid (Below y2.heap.size y2 x4) := Lib.hid (BW.out.trans (hb.mono BW.out.size))
      have M5 : Hid (OneM x4 bm (vis p i)) := Lib.hid (MW.out.below hb MW.out.lt)
      obtain ⟨b0, hb0⟩ : ∃ b, b = vis p i := ⟨_, rfl⟩
      rw [← hb0] at M5
      have HB0 := Lib.hid hb0
      clear hs hb hb0 AW RW BW MW
      go_wp2_with fail
      go_loopw [36] (fun v wr => ∃ k : Nat, k ≤ m ∧ v = .int .i64 k ∧ Below y2.heap.size y2 wr ∧ OneM wr bm (b0 + k) ∧ Chg (fun x => x = bm) x4 wr) (fun v _ => m - (intOf v).toNat)
      case atStart => exact ⟨0, by omega, rfl, B5.out, M5.out, Chg.refl _ _⟩
      case round =>
        obtain ⟨k, hk, rfl, hbw, hmw, hcw⟩ := hrel
        have BW := Lib.hid hbw; have MW := Lib.hid hmw; have CW := Lib.hid hcw
        by_cases hkm : k < m
        · have hkm2 : (k : Int) < (m : Int) := by omega
          have T5 := T4.out.chg M5.out hcw
          obtain ⟨b2, o2, rfl, _, cy⟩ := sli_at (i := k) T5 HMT.out.len.symm hkm
          rw [HMT.out.get k hkm, ← HB0.out] at cy
          have hpar := HMT.out.par k hkm
          have hlev := HMT.out.lev k hkm
          have hxn := L9.out k hkm
          rw [← HB0.out] at hpar hlev hxn
          obtain ⟨x, hx⟩ : ∃ x, x = b0 + k := ⟨_, rfl⟩
          have hmx := MW.out
          rw [← hx] at cy hpar hlev hxn hmx
          have prx := fun wx C h => PR.out (x : Int) wx C h
          rw [hpar] at prx
          have lvx := fun wx C h => LV.out (x : Int) wx C h
          have lvi := fun wx C h => LV.out (i : Int) wx C h
          have hl1 := lvl_lo p (i : Int)
          have hl2 := lvl_lo p (x : Int)
          obtain ⟨li, hli⟩ : ∃ l, l = lvlP p (i : Int) := ⟨_, rfl⟩
          obtain ⟨lx, hlx⟩ : ∃ l, l = lvlP p (x : Int) := ⟨_, rfl⟩
          rw [← hli] at lvi hlev hl1
          rw [← hlx] at lvx hlev hl2
          have MX := Lib.hid hmx; have PRX := Lib.hid prx; have LVX := Lib.hid lvx; have LVI := Lib.hid lvi; have LEV := Lib.hid hlev; have HXK := Lib.hid hx
          have hx9 : x ≤ 1000 := by omega
          clear hbw hmw hcw T5 hpar hlev hmx prx lvx lvi hli hlx hx
          go_upto_region 12 with (first
            | (refine wpList_one_look (by rfl) _ _ (by rfl) bm x x (by rfl) (by rfl) MX.out hx9 0 (by rw [if_neg (by omega)]) ?_)
            | (refine wpList_one_put (by rfl) _ _ _ (by rfl) bm x (by rfl) (by rfl) (by rfl) MX.out hx9 ?_; intro w6 hm6 hc6 hs6; have M6 := Lib.hid hm6; have C6 := Lib.hid hc6; clear hm6 hc6 hs6))
          clear cy
          have B6 : Hid (Below y2.heap.size y2 w6) := Lib.hid (C6.out.below BW.out (fun k e => by rw [e, HBM.out]; exact Nat.le_refl _) BW.out.size)
          have C7 : Hid (Chg (fun x => x = bm) x4 w6) := Lib.hid (CW.out.trans C6.out (fun _ h => Or.inl h))
          have A6 := Lib.hid (K2.out.below B6.out K2.out.lt); have R6 := Lib.hid (S.below _ _ _ _ R2.out B6.out)
          clear C6 CW BW MX
          go_wp2_with (refine wpList_load_all (by rfl) 23 _ (by rfl) g2 (by rfl) _ Try.underlying23 (by rfl) C _ A6.out (by rw [CS.out]; exact INF.out) ?_)
          refine (PRX.out _ _ R6.out).mono ?_
          rintro e x7 ⟨rfl, hb7⟩
          have B7 : Hid (Below y2.heap.size y2 x7) := Lib.hid (B6.out.trans (hb7.mono B6.out.size))
          have M7 : Hid (OneM x7 bm (x + 1)) := Lib.hid (M6.out.below hb7 M6.out.lt)
          have C8 : Hid (Chg (fun x => x = bm) x4 x7) := Lib.hid (C7.out.trans (Chg.of_below hb7) (fun _ h => Or.inl h))
          have AW := Lib.hid (K2.out.below B7.out K2.out.lt); have RW := Lib.hid (S.below _ _ _ _ R2.out B7.out)
          clear hb7 B6 C7 M6 A6 R6
          go_upto_region 13 with fail
          have D0 : Hid (Below x7.heap.size x7 x7.drew) := Lib.hid (Below.refl _ _).drew
          refine wp_region_plan_in (fun x' => Below x7.heap.size x7 x') (.take 0 (.take 1 (.take 2 (.take 3 (.take 4 (.take 5 (.take 6 (.take 7 (.take 8 (.take 9 (.take 10 (.take 11 (.take 12 (.take 13 (.take 14 (.take 16 (.take 17 (.sole 15 (.sole 18 (.take 19 (.take 20 (.take 21 .done)))))))))))))))))))))) (by kernel_rfl) (by kernel_rfl) (by kernel_rfl) D0.out ?_
          (first | (refine plan_move _ _ (by rfl) (by rfl) (.inl (by rfl)) (by first | (with_reducible exact Mem.ev_const _ _) | (with_reducible exact Mem.ev_zero _ _ _) | (with_reducible (apply Eq.trans (Mem.ev_tmp _ _ _)); simp only [List.getD_cons_succ, List.getD_cons_zero] <;> rfl)) ?_) | (refine plan_move _ _ (by rfl) (by rfl) (.inr (by rfl)) (by first | (with_reducible exact Mem.ev_const _ _) | (with_reducible exact Mem.ev_zero _ _ _) | (with_reducible (apply Eq.trans (Mem.ev_tmp _ _ _)); simp only [List.getD_cons_succ, List.getD_cons_zero] <;> rfl)) ?_) | (refine plan_pick_t _ _ _ _ (by rfl) (by rfl) (by rfl) (by first | (with_reducible exact Mem.ev_const _ _) | (with_reducible exact Mem.ev_zero _ _ _) | (with_reducible (apply Eq.trans (Mem.ev_tmp _ _ _)); simp only [List.getD_cons_succ, List.getD_cons_zero] <;> rfl)) (by first | (with_reducible exact Mem.ev_const _ _) | (with_reducible exact Mem.ev_zero _ _ _) | (with_reducible (apply Eq.trans (Mem.ev_tmp _ _ _)); simp only [List.getD_cons_succ, List.getD_cons_zero] <;> rfl)) ?_) | (refine plan_pick_f _ _ _ _ (by rfl) (by rfl) (by rfl) (by first | (with_reducible exact Mem.ev_const _ _) | (with_reducible exact Mem.ev_zero _ _ _) | (with_reducible (apply Eq.trans (Mem.ev_tmp _ _ _)); simp only [List.getD_cons_succ, List.getD_cons_zero] <;> rfl)) (by first | (with_reducible exact Mem.ev_const _ _) | (with_reducible exact Mem.ev_zero _ _ _) | (with_reducible (apply Eq.trans (Mem.ev_tmp _ _ _)); simp only [List.getD_cons_succ, List.getD_cons_zero] <;> rfl)) ?_))
          (simp only [Act.put, List.setIfInBounds_toArray, List.set_cons_zero, List.set_cons_succ])
          (first | (refine plan_move _ _ (by rfl) (by rfl) (.inl (by rfl)) (by first | (with_reducible exact Mem.ev_const _ _) | (with_reducible exact Mem.ev_zero _ _ _) | (with_reducible (apply Eq.trans (Mem.ev_tmp _ _ _)); simp only [List.getD_cons_succ, List.getD_cons_zero] <;> rfl)) ?_) | (refine plan_move _ _ (by rfl) (by rfl) (.inr (by rfl)) (by first | (with_reducible exact Mem.ev_const _ _) | (with_reducible exact Mem.ev_zero _ _ _) | (with_reducible (apply Eq.trans (Mem.ev_tmp _ _ _)); simp only [List.getD_cons_succ, List.getD_cons_zero] <;> rfl)) ?_) | (refine plan_pick_t _ _ _ _ (by rfl) (by rfl) (by rfl) (by first | (with_reducible exact Mem.ev_const _ _) | (with_reducible exact Mem.ev_zero _ _ _) | (with_reducible (apply Eq.trans (Mem.ev_tmp _ _ _)); simp only [List.getD_cons_succ, List.getD_cons_zero] <;> rfl)) (by first | (with_reducible exact Mem.ev_const _ _) | (with_reducible exact Mem.ev_zero _ _ _) | (with_reducible (apply Eq.trans (Mem.ev_tmp _ _ _)); simp only [List.getD_cons_succ, List.getD_cons_zero] <;> rfl)) ?_) | (refine plan_pick_f _ _ _ _ (by rfl) (by rfl) (by rfl) (by first | (with_reducible exact Mem.ev_const _ _) | (with_reducible exact Mem.ev_zero _ _ _) | (with_reducible (apply Eq.trans (Mem.ev_tmp _ _ _)); simp only [List.getD_cons_succ, List.getD_cons_zero] <;> rfl)) (by first | (with_reducible exact Mem.ev_const _ _) | (with_reducible exact Mem.ev_zero _ _ _) | (with_reducible (apply Eq.trans (Mem.ev_tmp _ _ _)); simp only [List.getD_cons_succ, List.getD_cons_zero] <;> rfl)) ?_))
          (simp only [Act.put, List.setIfInBounds_toArray, List.set_cons_zero, List.set_cons_succ])
          refine plan_bin _ _ _ _ _ _ _ (.bool false) (by rfl) (by rfl) (by rfl) (by first | (with_reducible exact Mem.ev_const _ _) | (with_reducible exact Mem.ev_zero _ _ _) | (with_reducible (apply Eq.trans (Mem.ev_tmp _ _ _)); simp only [List.getD_cons_succ, List.getD_cons_zero] <;> rfl)) (by first | (with_reducible exact Mem.ev_const _ _) | (with_reducible exact Mem.ev_zero _ _ _) | (with_reducible (apply Eq.trans (Mem.ev_tmp _ _ _)); simp only [List.getD_cons_succ, List.getD_cons_zero] <;> rfl)) (fun wx => o_ine _ _ _ _ _ wx) ?_
          (simp only [Act.put, List.setIfInBounds_toArray, List.set_cons_zero, List.set_cons_succ])
          (first | (refine plan_move _ _ (by rfl) (by rfl) (.inl (by rfl)) (by first | (with_reducible exact Mem.ev_const _ _) | (with_reducible exact Mem.ev_zero _ _ _) | (with_reducible (apply Eq.trans (Mem.ev_tmp _ _ _)); simp only [List.getD_cons_succ, List.getD_cons_zero] <;> rfl)) ?_) | (refine plan_move _ _ (by rfl) (by rfl) (.inr (by rfl)) (by first | (with_reducible exact Mem.ev_const _ _) | (with_reducible exact Mem.ev_zero _ _ _) | (with_reducible (apply Eq.trans (Mem.ev_tmp _ _ _)); simp only [List.getD_cons_succ, List.getD_cons_zero] <;> rfl)) ?_) | (refine plan_pick_t _ _ _ _ (by rfl) (by rfl) (by rfl) (by first | (with_reducible exact Mem.ev_const _ _) | (with_reducible exact Mem.ev_zero _ _ _) | (with_reducible (apply Eq.trans (Mem.ev_tmp _ _ _)); simp only [List.getD_cons_succ, List.getD_cons_zero] <;> rfl)) (by first | (with_reducible exact Mem.ev_const _ _) | (with_reducible exact Mem.ev_zero _ _ _) | (with_reducible (apply Eq.trans (Mem.ev_tmp _ _ _)); simp only [List.getD_cons_succ, List.getD_cons_zero] <;> rfl)) ?_) | (refine plan_pick_f _ _ _ _ (by rfl) (by rfl) (by rfl) (by first | (with_reducible exact Mem.ev_const _ _) | (with_reducible exact Mem.ev_zero _ _ _) | (with_reducible (apply Eq.trans (Mem.ev_tmp _ _ _)); simp only [List.getD_cons_succ, List.getD_cons_zero] <;> rfl)) (by first | (with_reducible exact Mem.ev_const _ _) | (with_reducible exact Mem.ev_zero _ _ _) | (with_reducible (apply Eq.trans (Mem.ev_tmp _ _ _)); simp only [List.getD_cons_succ, List.getD_cons_zero] <;> rfl)) ?_))
          (simp only [Act.put, List.setIfInBounds_toArray, List.set_cons_zero, List.set_cons_succ])
          (first | (refine plan_move _ _ (by rfl) (by rfl) (.inl (by rfl)) (by first | (with_reducible exact Mem.ev_const _ _) | (with_reducible exact Mem.ev_zero _ _ _) | (with_reducible (apply Eq.trans (Mem.ev_tmp _ _ _)); simp only [List.getD_cons_succ, List.getD_cons_zero] <;> rfl)) ?_) | (refine plan_move _ _ (by rfl) (by rfl) (.inr (by rfl)) (by first | (with_reducible exact Mem.ev_const _ _) | (with_reducible exact Mem.ev_zero _ _ _) | (with_reducible (apply Eq.trans (Mem.ev_tmp _ _ _)); simp only [List.getD_cons_succ, List.getD_cons_zero] <;> rfl)) ?_) | (refine plan_pick_t _ _ _ _ (by rfl) (by rfl) (by rfl) (by first | (with_reducible exact Mem.ev_const _ _) | (with_reducible exact Mem.ev_zero _ _ _) | (with_reducible (apply Eq.trans (Mem.ev_tmp _ _ _)); simp only [List.getD_cons_succ, List.getD_cons_zero] <;> rfl)) (by first | (with_reducible exact Mem.ev_const _ _) | (with_reducible exact Mem.ev_zero _ _ _) | (with_reducible (apply Eq.trans (Mem.ev_tmp _ _ _)); simp only [List.getD_cons_succ, List.getD_cons_zero] <;> rfl)) ?_) | (refine plan_pick_f _ _ _ _ (by rfl) (by rfl) (by rfl) (by first | (with_reducible exact Mem.ev_const _ _) | (with_reducible exact Mem.ev_zero _ _ _) | (with_reducible (apply Eq.trans (Mem.ev_tmp _ _ _)); simp only [List.getD_cons_succ, List.getD_cons_zero] <;> rfl)) (by first | (with_reducible exact Mem.ev_const _ _) | (with_reducible exact Mem.ev_zero _ _ _) | (with_reducible (apply Eq.trans (Mem.ev_tmp _ _ _)); simp only [List.getD_cons_succ, List.getD_cons_zero] <;> rfl)) ?_))
          (simp only [Act.put, List.setIfInBounds_toArray, List.set_cons_zero, List.set_cons_succ])
          (first | (refine plan_move _ _ (by rfl) (by rfl) (.inl (by rfl)) (by first | (with_reducible exact Mem.ev_const _ _) | (with_reducible exact Mem.ev_zero _ _ _) | (with_reducible (apply Eq.trans (Mem.ev_tmp _ _ _)); simp only [List.getD_cons_succ, List.getD_cons_zero] <;> rfl)) ?_) | (refine plan_move _ _ (by rfl) (by rfl) (.inr (by rfl)) (by first | (with_reducible exact Mem.ev_const _ _) | (with_reducible exact Mem.ev_zero _ _ _) | (with_reducible (apply Eq.trans (Mem.ev_tmp _ _ _)); simp only [List.getD_cons_succ, List.getD_cons_zero] <;> rfl)) ?_) | (refine plan_pick_t _ _ _ _ (by rfl) (by rfl) (by rfl) (by first | (with_reducible exact Mem.ev_const _ _) | (with_reducible exact Mem.ev_zero _ _ _) | (with_reducible (apply Eq.trans (Mem.ev_tmp _ _ _)); simp only [List.getD_cons_succ, List.getD_cons_zero] <;> rfl)) (by first | (with_reducible exact Mem.ev_const _ _) | (with_reducible exact Mem.ev_zero _ _ _) | (with_reducible (apply Eq.trans (Mem.ev_tmp _ _ _)); simp only [List.getD_cons_succ, List.getD_cons_zero] <;> rfl)) ?_) | (refine plan_pick_f _ _ _ _ (by rfl) (by rfl) (by rfl) (by first | (with_reducible exact Mem.ev_const _ _) | (with_reducible exact Mem.ev_zero _ _ _) | (with_reducible (apply Eq.trans (Mem.ev_tmp _ _ _)); simp only [List.getD_cons_succ, List.getD_cons_zero] <;> rfl)) (by first | (with_reducible exact Mem.ev_const _ _) | (with_reducible exact Mem.ev_zero _ _ _) | (with_reducible (apply Eq.trans (Mem.ev_tmp _ _ _)); simp only [List.getD_cons_succ, List.getD_cons_zero] <;> rfl)) ?_))
          (simp only [Act.put, List.setIfInBounds_toArray, List.set_cons_zero, List.set_cons_succ])
          refine plan_bin _ _ _ _ _ _ _ (.bool false) (by rfl) (by rfl) (by rfl) (by first | (with_reducible exact Mem.ev_const _ _) | (with_reducible exact Mem.ev_zero _ _ _) | (with_reducible (apply Eq.trans (Mem.ev_tmp _ _ _)); simp only [List.getD_cons_succ, List.getD_cons_zero] <;> rfl)) (by first | (with_reducible exact Mem.ev_const _ _) | (with_reducible exact Mem.ev_zero _ _ _) | (with_reducible (apply Eq.trans (Mem.ev_tmp _ _ _)); simp only [List.getD_cons_succ, List.getD_cons_zero] <;> rfl)) (fun wx => o_ine _ _ _ _ _ wx) ?_
          (simp only [Act.put, List.setIfInBounds_toArray, List.set_cons_zero, List.set_cons_succ])
          refine plan_pick_f _ _ _ _ (by rfl) (by rfl) (by rfl) (by first | (with_reducible exact Mem.ev_const _ _) | (with_reducible exact Mem.ev_zero _ _ _) | (with_reducible (apply Eq.trans (Mem.ev_tmp _ _ _)); simp only [List.getD_cons_succ, List.getD_cons_zero] <;> rfl)) (by first | (with_reducible exact Mem.ev_const _ _) | (with_reducible exact Mem.ev_zero _ _ _) | (with_reducible (apply Eq.trans (Mem.ev_tmp _ _ _)); simp only [List.getD_cons_succ, List.getD_cons_zero] <;> rfl)) ?_
          (simp only [Act.put, List.setIfInBounds_toArray, List.set_cons_zero, List.set_cons_succ])
          (first | (refine plan_move _ _ (by rfl) (by rfl) (.inl (by rfl)) (by first | (with_reducible exact Mem.ev_const _ _) | (with_reducible exact Mem.ev_zero _ _ _) | (with_reducible (apply Eq.trans (Mem.ev_tmp _ _ _)); simp only [List.getD_cons_succ, List.getD_cons_zero] <;> rfl)) ?_) | (refine plan_move _ _ (by rfl) (by rfl) (.inr (by rfl)) (by first | (with_reducible exact Mem.ev_const _ _) | (with_reducible exact Mem.ev_zero _ _ _) | (with_reducible (apply Eq.trans (Mem.ev_tmp _ _ _)); simp only [List.getD_cons_succ, List.getD_cons_zero] <;> rfl)) ?_) | (refine plan_pick_t _ _ _ _ (by rfl) (by rfl) (by rfl) (by first | (with_reducible exact Mem.ev_const _ _) | (with_reducible exact Mem.ev_zero _ _ _) | (with_reducible (apply Eq.trans (Mem.ev_tmp _ _ _)); simp only [List.getD_cons_succ, List.getD_cons_zero] <;> rfl)) (by first | (with_reducible exact Mem.ev_const _ _) | (with_reducible exact Mem.ev_zero _ _ _) | (with_reducible (apply Eq.trans (Mem.ev_tmp _ _ _)); simp only [List.getD_cons_succ, List.getD_cons_zero] <;> rfl)) ?_) | (refine plan_pick_f _ _ _ _ (by rfl) (by rfl) (by rfl) (by first | (with_reducible exact Mem.ev_const _ _) | (with_reducible exact Mem.ev_zero _ _ _) | (with_reducible (apply Eq.trans (Mem.ev_tmp _ _ _)); simp only [List.getD_cons_succ, List.getD_cons_zero] <;> rfl)) (by first | (with_reducible exact Mem.ev_const _ _) | (with_reducible exact Mem.ev_zero _ _ _) | (with_reducible (apply Eq.trans (Mem.ev_tmp _ _ _)); simp only [List.getD_cons_succ, List.getD_cons_zero] <;> rfl)) ?_))
          (simp only [Act.put, List.setIfInBounds_toArray, List.set_cons_zero, List.set_cons_succ])
          (first | (refine plan_move _ _ (by rfl) (by rfl) (.inl (by rfl)) (by first | (with_reducible exact Mem.ev_const _ _) | (with_reducible exact Mem.ev_zero _ _ _) | (with_reducible (apply Eq.trans (Mem.ev_tmp _ _ _)); simp only [List.getD_cons_succ, List.getD_cons_zero] <;> rfl)) ?_) | (refine plan_move _ _ (by rfl) (by rfl) (.inr (by rfl)) (by first | (with_reducible exact Mem.ev_const _ _) | (with_reducible exact Mem.ev_zero _ _ _) | (with_reducible (apply Eq.trans (Mem.ev_tmp _ _ _)); simp only [List.getD_cons_succ, List.getD_cons_zero] <;> rfl)) ?_) | (refine plan_pick_t _ _ _ _ (by rfl) (by rfl) (by rfl) (by first | (with_reducible exact Mem.ev_const _ _) | (with_reducible exact Mem.ev_zero _ _ _) | (with_reducible (apply Eq.trans (Mem.ev_tmp _ _ _)); simp only [List.getD_cons_succ, List.getD_cons_zero] <;> rfl)) (by first | (with_reducible exact Mem.ev_const _ _) | (with_reducible exact Mem.ev_zero _ _ _) | (with_reducible (apply Eq.trans (Mem.ev_tmp _ _ _)); simp only [List.getD_cons_succ, List.getD_cons_zero] <;> rfl)) ?_) | (refine plan_pick_f _ _ _ _ (by rfl) (by rfl) (by rfl) (by first | (with_reducible exact Mem.ev_const _ _) | (with_reducible exact Mem.ev_zero _ _ _) | (with_reducible (apply Eq.trans (Mem.ev_tmp _ _ _)); simp only [List.getD_cons_succ, List.getD_cons_zero] <;> rfl)) (by first | (with_reducible exact Mem.ev_const _ _) | (with_reducible exact Mem.ev_zero _ _ _) | (with_reducible (apply Eq.trans (Mem.ev_tmp _ _ _)); simp only [List.getD_cons_succ, List.getD_cons_zero] <;> rfl)) ?_))
          (simp only [Act.put, List.setIfInBounds_toArray, List.set_cons_zero, List.set_cons_succ])
          refine plan_not_t _ _ (by rfl) (by rfl) (by rfl) (by first | (with_reducible exact Mem.ev_const _ _) | (with_reducible exact Mem.ev_zero _ _ _) | (with_reducible (apply Eq.trans (Mem.ev_tmp _ _ _)); simp only [List.getD_cons_succ, List.getD_cons_zero] <;> rfl)) ?_
          (simp only [Act.put, List.setIfInBounds_toArray, List.set_cons_zero, List.set_cons_succ])
          refine plan_pick_f _ _ _ _ (by rfl) (by rfl) (by rfl) (by first | (with_reducible exact Mem.ev_const _ _) | (with_reducible exact Mem.ev_zero _ _ _) | (with_reducible (apply Eq.trans (Mem.ev_tmp _ _ _)); simp only [List.getD_cons_succ, List.getD_cons_zero] <;> rfl)) (by first | (with_reducible exact Mem.ev_const _ _) | (with_reducible exact Mem.ev_zero _ _ _) | (with_reducible (apply Eq.trans (Mem.ev_tmp _ _ _)); simp only [List.getD_cons_succ, List.getD_cons_zero] <;> rfl)) ?_
          (simp only [Act.put, List.setIfInBounds_toArray, List.set_cons_zero, List.set_cons_succ])
          (first | (refine plan_move _ _ (by rfl) (by rfl) (.inl (by rfl)) (by first | (with_reducible exact Mem.ev_const _ _) | (with_reducible exact Mem.ev_zero _ _ _) | (with_reducible (apply Eq.trans (Mem.ev_tmp _ _ _)); simp only [List.getD_cons_succ, List.getD_cons_zero] <;> rfl)) ?_) | (refine plan_move _ _ (by rfl) (by rfl) (.inr (by rfl)) (by first | (with_reducible exact Mem.ev_const _ _) | (with_reducible exact Mem.ev_zero _ _ _) | (with_reducible (apply Eq.trans (Mem.ev_tmp _ _ _)); simp only [List.getD_cons_succ, List.getD_cons_zero] <;> rfl)) ?_) | (refine plan_pick_t _ _ _ _ (by rfl) (by rfl) (by rfl) (by first | (with_reducible exact Mem.ev_const _ _) | (with_reducible exact Mem.ev_zero _ _ _) | (with_reducible (apply Eq.trans (Mem.ev_tmp _ _ _)); simp only [List.getD_cons_succ, List.getD_cons_zero] <;> rfl)) (by first | (with_reducible exact Mem.ev_const _ _) | (with_reducible exact Mem.ev_zero _ _ _) | (with_reducible (apply Eq.trans (Mem.ev_tmp _ _ _)); simp only [List.getD_cons_succ, List.getD_cons_zero] <;> rfl)) ?_) | (refine plan_pick_f _ _ _ _ (by rfl) (by rfl) (by rfl) (by first | (with_reducible exact Mem.ev_const _ _) | (with_reducible exact Mem.ev_zero _ _ _) | (with_reducible (apply Eq.trans (Mem.ev_tmp _ _ _)); simp only [List.getD_cons_succ, List.getD_cons_zero] <;> rfl)) (by first | (with_reducible exact Mem.ev_const _ _) | (with_reducible exact Mem.ev_zero _ _ _) | (with_reducible (apply Eq.trans (Mem.ev_tmp _ _ _)); simp only [List.getD_cons_succ, List.getD_cons_zero] <;> rfl)) ?_))
          (simp only [Act.put, List.setIfInBounds_toArray, List.set_cons_zero, List.set_cons_succ])
          refine plan_row 23 _ g2 _ C 23 (by rfl) (by rfl) (by rfl) (by first | (with_reducible exact Mem.ev_const _ _) | (with_reducible exact Mem.ev_zero _ _ _) | (with_reducible (apply Eq.trans (Mem.ev_tmp _ _ _)); simp only [List.getD_cons_succ, List.getD_cons_zero] <;> rfl)) (fun w' hw' => AW.out.below hw' AW.out.lt) Try.underlying23 (by rfl) (by rw [CS.out]; exact INF.out) ?_
          (simp only [Act.put, List.setIfInBounds_toArray, List.set_cons_zero, List.set_cons_succ])
          (first | (refine plan_move _ _ (by rfl) (by rfl) (.inl (by rfl)) (by first | (with_reducible exact Mem.ev_const _ _) | (with_reducible exact Mem.ev_zero _ _ _) | (with_reducible (apply Eq.trans (Mem.ev_tmp _ _ _)); simp only [List.getD_cons_succ, List.getD_cons_zero] <;> rfl)) ?_) | (refine plan_move _ _ (by rfl) (by rfl) (.inr (by rfl)) (by first | (with_reducible exact Mem.ev_const _ _) | (with_reducible exact Mem.ev_zero _ _ _) | (with_reducible (apply Eq.trans (Mem.ev_tmp _ _ _)); simp only [List.getD_cons_succ, List.getD_cons_zero] <;> rfl)) ?_) | (refine plan_pick_t _ _ _ _ (by rfl) (by rfl) (by rfl) (by first | (with_reducible exact Mem.ev_const _ _) | (with_reducible exact Mem.ev_zero _ _ _) | (with_reducible (apply Eq.trans (Mem.ev_tmp _ _ _)); simp only [List.getD_cons_succ, List.getD_cons_zero] <;> rfl)) (by first | (with_reducible exact Mem.ev_const _ _) | (with_reducible exact Mem.ev_zero _ _ _) | (with_reducible (apply Eq.trans (Mem.ev_tmp _ _ _)); simp only [List.getD_cons_succ, List.getD_cons_zero] <;> rfl)) ?_) | (refine plan_pick_f _ _ _ _ (by rfl) (by rfl) (by rfl) (by first | (with_reducible exact Mem.ev_const _ _) | (with_reducible exact Mem.ev_zero _ _ _) | (with_reducible (apply Eq.trans (Mem.ev_tmp _ _ _)); simp only [List.getD_cons_succ, List.getD_cons_zero] <;> rfl)) (by first | (with_reducible exact Mem.ev_const _ _) | (with_reducible exact Mem.ev_zero _ _ _) | (with_reducible (apply Eq.trans (Mem.ev_tmp _ _ _)); simp only [List.getD_cons_succ, List.getD_cons_zero] <;> rfl)) ?_))
          (simp only [Act.put, List.setIfInBounds_toArray, List.set_cons_zero, List.set_cons_succ])
          refine plan_row 23 _ g2 _ C 23 (by rfl) (by rfl) (by rfl) (by first | (with_reducible exact Mem.ev_const _ _) | (with_reducible exact Mem.ev_zero _ _ _) | (with_reducible (apply Eq.trans (Mem.ev_tmp _ _ _)); simp only [List.getD_cons_succ, List.getD_cons_zero] <;> rfl)) (fun w' hw' => AW.out.below hw' AW.out.lt) Try.underlying23 (by rfl) (by rw [CS.out]; exact INF.out) ?_
          (simp only [Act.put, List.setIfInBounds_toArray, List.set_cons_zero, List.set_cons_succ])
          (first | (refine plan_move _ _ (by rfl) (by rfl) (.inl (by rfl)) (by first | (with_reducible exact Mem.ev_const _ _) | (with_reducible exact Mem.ev_zero _ _ _) | (with_reducible (apply Eq.trans (Mem.ev_tmp _ _ _)); simp only [List.getD_cons_succ, List.getD_cons_zero] <;> rfl)) ?_) | (refine plan_move _ _ (by rfl) (by rfl) (.inr (by rfl)) (by first | (with_reducible exact Mem.ev_const _ _) | (with_reducible exact Mem.ev_zero _ _ _) | (with_reducible (apply Eq.trans (Mem.ev_tmp _ _ _)); simp only [List.getD_cons_succ, List.getD_cons_zero] <;> rfl)) ?_) | (refine plan_pick_t _ _ _ _ (by rfl) (by rfl) (by rfl) (by first | (with_reducible exact Mem.ev_const _ _) | (with_reducible exact Mem.ev_zero _ _ _) | (with_reducible (apply Eq.trans (Mem.ev_tmp _ _ _)); simp only [List.getD_cons_succ, List.getD_cons_zero] <;> rfl)) (by first | (with_reducible exact Mem.ev_const _ _) | (with_reducible exact Mem.ev_zero _ _ _) | (with_reducible (apply Eq.trans (Mem.ev_tmp _ _ _)); simp only [List.getD_cons_succ, List.getD_cons_zero] <;> rfl)) ?_) | (refine plan_pick_f _ _ _ _ (by rfl) (by rfl) (by rfl) (by first | (with_reducible exact Mem.ev_const _ _) | (with_reducible exact Mem.ev_zero _ _ _) | (with_reducible (apply Eq.trans (Mem.ev_tmp _ _ _)); simp only [List.getD_cons_succ, List.getD_cons_zero] <;> rfl)) (by first | (with_reducible exact Mem.ev_const _ _) | (with_reducible exact Mem.ev_zero _ _ _) | (with_reducible (apply Eq.trans (Mem.ev_tmp _ _ _)); simp only [List.getD_cons_succ, List.getD_cons_zero] <;> rfl)) ?_))
          (simp only [Act.put, List.setIfInBounds_toArray, List.set_cons_zero, List.set_cons_succ])
          refine plan_call 14 _ _ _ (by kernel_rfl) (by rfl) (by rfl) (by rfl) (by first | exact Mem.ev_none _ | (simp only [List.map_toArray, List.map_cons, List.map_nil, Mem.ev_tmp, List.getD_cons_succ, List.getD_cons_zero] <;> rfl)) ?_
          refine (LVX.out _ _ (S.below _ _ _ _ RW.out D0.out)).mono ?_
          rintro e z15 ⟨rfl, hb15⟩
          have E15 : Hid (Below x7.heap.size x7 z15) := Lib.hid (D0.out.trans (hb15.mono D0.out.size))
          clear hb15
          refine ⟨_, rfl, E15.out, ?_⟩
          (simp only [Act.put, List.setIfInBounds_toArray, List.set_cons_zero, List.set_cons_succ])
          refine plan_call 14 _ _ _ (by kernel_rfl) (by rfl) (by rfl) (by rfl) (by first | exact Mem.ev_none _ | (simp only [List.map_toArray, List.map_cons, List.map_nil, Mem.ev_tmp, List.getD_cons_succ, List.getD_cons_zero] <;> rfl)) ?_
          refine (LVI.out _ _ (S.below _ _ _ _ RW.out E15.out)).mono ?_
          rintro e z18 ⟨rfl, hb18⟩
          have E18 : Hid (Below x7.heap.size x7 z18) := Lib.hid (E15.out.trans (hb18.mono E15.out.size))
          clear hb18
          refine ⟨_, rfl, E18.out, ?_⟩
          (simp only [Act.put, List.setIfInBounds_toArray, List.set_cons_zero, List.set_cons_succ])
          refine plan_bin _ _ _ _ _ _ _ (.int .i64 (lx)) (by rfl) (by rfl) (by rfl) (by first | (with_reducible exact Mem.ev_const _ _) | (with_reducible exact Mem.ev_zero _ _ _) | (with_reducible (apply Eq.trans (Mem.ev_tmp _ _ _)); simp only [List.getD_cons_succ, List.getD_cons_zero] <;> rfl)) (by rfl) (fun wx => o_isub _ _ _ _ _ _ _ LEV.out (by omega) (by omega) wx) ?_
          (simp only [Act.put, List.setIfInBounds_toArray, List.set_cons_zero, List.set_cons_succ])
          refine plan_bin _ _ _ _ _ _ _ (.bool false) (by rfl) (by rfl) (by rfl) (by first | (with_reducible exact Mem.ev_const _ _) | (with_reducible exact Mem.ev_zero _ _ _) | (with_reducible (apply Eq.trans (Mem.ev_tmp _ _ _)); simp only [List.getD_cons_succ, List.getD_cons_zero] <;> rfl)) (by first | (with_reducible exact Mem.ev_const _ _) | (with_reducible exact Mem.ev_zero _ _ _) | (with_reducible (apply Eq.trans (Mem.ev_tmp _ _ _)); simp only [List.getD_cons_succ, List.getD_cons_zero] <;> rfl)) (fun wx => o_ine _ _ _ _ _ wx) ?_
          (simp only [Act.put, List.setIfInBounds_toArray, List.set_cons_zero, List.set_cons_succ])
          refine plan_pick_f _ _ _ _ (by rfl) (by rfl) (by rfl) (by first | (with_reducible exact Mem.ev_const _ _) | (with_reducible exact Mem.ev_zero _ _ _) | (with_reducible (apply Eq.trans (Mem.ev_tmp _ _ _)); simp only [List.getD_cons_succ, List.getD_cons_zero] <;> rfl)) (by first | (with_reducible exact Mem.ev_const _ _) | (with_reducible exact Mem.ev_zero _ _ _) | (with_reducible (apply Eq.trans (Mem.ev_tmp _ _ _)); simp only [List.getD_cons_succ, List.getD_cons_zero] <;> rfl)) ?_
          (simp only [Act.put, List.setIfInBounds_toArray, List.set_cons_zero, List.set_cons_succ])
          refine plan_nil ?_
          have E9 : Hid (Below x7.heap.size x7 z18) := E18
          have B9 : Hid (Below y2.heap.size y2 z18) := Lib.hid (B7.out.trans (E9.out.mono B7.out.size))
          have M9 : Hid (OneM z18 bm (x + 1)) := Lib.hid (M7.out.below E9.out M7.out.lt)
          have C9 : Hid (Chg (fun x => x = bm) x4 z18) := Lib.hid (C8.out.trans (Chg.of_below E9.out) (fun _ h => Or.inl h))
          clear B7 M7 C8 AW RW D0 E9
          go_wp2_with fail
          go_roundw
          case rel => exact ⟨k + 1, by omega, by go_num, B9.out, by rw [← Nat.add_assoc, ← HXK.out]; exact M9.out, C9.out⟩
          case measure => simp [intOf]; omega
        · have hke : k = m := by omega
          subst hke
          have hmm := hmw
          rw [HB0.out, ← HMT.out.next] at hmm
          have MM := Lib.hid hmm
          clear hbw hmw hcw hmm
          go_wp2_with fail
          go_roundw
          case rel => exact ⟨i + 1, by omega, by go_num, BW.out, MM.out⟩
          case measure => simp [intOf]; omega
    · have hie : i = n := by omega
      subst hie
      have hmm := MW.out
      rw [VN.out] at hmm
      have MM := Lib.hid hmm
      clear hmm MW
      go_wp2_with (refine wpList_load_all (by rfl) 23 _ (by rfl) g2 (by rfl) _ Try.underlying23 (by rfl) C _ AW.out (by rw [CS.out]; exact INF.out) ?_)
      refine (IT.out _ _ RW.out).mono ?_
      rintro e z4 ⟨rfl, hb4⟩
      have N4 : Hid (OneM z4 bm (i - 1)) := Lib.hid (MM.out.below hb4 MM.out.lt)
      have D4 : Hid (Below y2.heap.size y2 z4) := Lib.hid (BW.out.trans (hb4.mono BW.out.size))
      clear hb4 MM AW RW BW
      go_wp2_with fail
      go_loopw [78] (fun v wr => ∃ j : Nat, j ≤ i ∧ v = .int .i64 j ∧ Below y2.heap.size y2 wr ∧ OneM wr bm (i - 1)) (fun v _ => i - (intOf v).toNat)
      case atStart => exact ⟨0, by omega, rfl, D4.out, N4.out⟩
      case round =>
        obtain ⟨j, hj, rfl, hbw, hmw⟩ := hrel
        have BW := Lib.hid hbw; have MW := Lib.hid hmw; have AW := Lib.hid (K2.out.below hbw K2.out.lt); have RW := Lib.hid (S.below _ _ _ _ R2.out hbw)
        clear hbw hmw
        by_cases hjn : j < i
        · have hjn2 : (j : Int) < (i : Int) := by omega
          have hj9 : j ≤ 1000 := by omega
          have rtj := fun wx C h => RT.out wx C h
          obtain ⟨r, hr⟩ : ∃ r, r = (i : Int) - 1 := ⟨_, rfl⟩
          rw [← hr] at rtj
          by_cases he : j + 1 = i
          · rw [show r = (j : Int) by omega] at rtj
            have hw0 : (0 : Int) = if j < i - 1 then 1 else 0 := by rw [if_neg (by omega)]
            have HW0 := Lib.hid hw0; have RTJ := Lib.hid rtj
            clear hw0 he hr rtj
            go_wp2_with (refine wpList_load_all (by rfl) 23 _ (by rfl) g2 (by rfl) _ Try.underlying23 (by rfl) C _ AW.out (by rw [CS.out]; exact INF.out) ?_)
            refine (RTJ.out _ _ RW.out).mono ?_
            rintro e x8 ⟨rfl, hb8⟩
            have B8 : Hid (Below y2.heap.size y2 x8) := Lib.hid (BW.out.trans (hb8.mono BW.out.size))
            have M8 : Hid (OneM x8 bm (i - 1)) := Lib.hid (MW.out.below hb8 MW.out.lt)
            clear hb8 BW MW AW RW
            go_wp2_with (refine wpList_one_look (by rfl) _ _ (by rfl) bm (i - 1) j (by rfl) (by rfl) M8.out hj9 0 HW0.out ?_)
            go_loopw [90] (fun v wx => ∃ k : Nat, k ≤ 2 ∧ v = .int .i64 k ∧ Below y2.heap.size y2 wx ∧ OneM wx bm (i - 1)) (fun v _ => 2 - (intOf v).toNat)
            case atStart => exact ⟨0, by omega, rfl, B8.out, M8.out⟩
            case round =>
              obtain ⟨k, hk, rfl, hbw, hmw⟩ := hrel
              have B9 := Lib.hid hbw; have M9 := Lib.hid hmw
              by_cases hk2 : k < 2
              · have hk3 : (k : Int) < 2 := by omega
                have AW := Lib.hid (K2.out.below hbw K2.out.lt); have RW := Lib.hid (S.below _ _ _ _ R2.out hbw)
                have bkj := fun wx C h => BK.out (j : Int) (k : Int) wx C h
                rw [HBZ.out j k hjn hk2] at bkj
                have imj := fun wx C h => IM.out (2 + 2 * (j : Int) + (k : Int)) wx C h
                rw [HIZ.out j k hjn hk2] at imj
                obtain ⟨q, hq⟩ : ∃ q, q = 2 + 2 * (j : Int) + (k : Int) := ⟨_, rfl⟩
                rw [← hq] at bkj imj
                have BKJ := Lib.hid bkj; have IMJ := Lib.hid imj
                clear bkj imj hq hbw hmw
                go_upto_region 28 with fail
                have D0 : Hid (Below wr.heap.size wr wr.drew) := Lib.hid (Below.refl _ _).drew
                refine wp_region_plan_in (fun x' => Below wr.heap.size wr x') (.take 0 (.take 1 (.take 2 (.take 3 (.sole 4 (.sole 5 (.take 6 (.take 7 (.take 8 (.take 9 (.take 10 (.take 11 (.take 12 .done))))))))))))) (by kernel_rfl) (by kernel_rfl) (by kernel_rfl) D0.out ?_
                refine plan_row 23 _ g2 _ C 23 (by rfl) (by rfl) (by rfl) (by first | (with_reducible exact Mem.ev_const _ _) | (with_reducible exact Mem.ev_zero _ _ _) | (with_reducible (apply Eq.trans (Mem.ev_tmp _ _ _)); simp only [List.getD_cons_succ, List.getD_cons_zero] <;> rfl)) (fun w' hw' => AW.out.below hw' AW.out.lt) Try.underlying23 (by rfl) (by rw [CS.out]; exact INF.out) ?_
                (simp only [Act.put, List.setIfInBounds_toArray, List.set_cons_zero, List.set_cons_succ])
                refine plan_row 23 _ g2 _ C 23 (by rfl) (by rfl) (by rfl) (by first | (with_reducible exact Mem.ev_const _ _) | (with_reducible exact Mem.ev_zero _ _ _) | (with_reducible (apply Eq.trans (Mem.ev_tmp _ _ _)); simp only [List.getD_cons_succ, List.getD_cons_zero] <;> rfl)) (fun w' hw' => AW.out.below hw' AW.out.lt) Try.underlying23 (by rfl) (by rw [CS.out]; exact INF.out) ?_
                (simp only [Act.put, List.setIfInBounds_toArray, List.set_cons_zero, List.set_cons_succ])
                (first | (refine plan_move _ _ (by rfl) (by rfl) (.inl (by rfl)) (by first | (with_reducible exact Mem.ev_const _ _) | (with_reducible exact Mem.ev_zero _ _ _) | (with_reducible (apply Eq.trans (Mem.ev_tmp _ _ _)); simp only [List.getD_cons_succ, List.getD_cons_zero] <;> rfl)) ?_) | (refine plan_move _ _ (by rfl) (by rfl) (.inr (by rfl)) (by first | (with_reducible exact Mem.ev_const _ _) | (with_reducible exact Mem.ev_zero _ _ _) | (with_reducible (apply Eq.trans (Mem.ev_tmp _ _ _)); simp only [List.getD_cons_succ, List.getD_cons_zero] <;> rfl)) ?_) | (refine plan_pick_t _ _ _ _ (by rfl) (by rfl) (by rfl) (by first | (with_reducible exact Mem.ev_const _ _) | (with_reducible exact Mem.ev_zero _ _ _) | (with_reducible (apply Eq.trans (Mem.ev_tmp _ _ _)); simp only [List.getD_cons_succ, List.getD_cons_zero] <;> rfl)) (by first | (with_reducible exact Mem.ev_const _ _) | (with_reducible exact Mem.ev_zero _ _ _) | (with_reducible (apply Eq.trans (Mem.ev_tmp _ _ _)); simp only [List.getD_cons_succ, List.getD_cons_zero] <;> rfl)) ?_) | (refine plan_pick_f _ _ _ _ (by rfl) (by rfl) (by rfl) (by first | (with_reducible exact Mem.ev_const _ _) | (with_reducible exact Mem.ev_zero _ _ _) | (with_reducible (apply Eq.trans (Mem.ev_tmp _ _ _)); simp only [List.getD_cons_succ, List.getD_cons_zero] <;> rfl)) (by first | (with_reducible exact Mem.ev_const _ _) | (with_reducible exact Mem.ev_zero _ _ _) | (with_reducible (apply Eq.trans (Mem.ev_tmp _ _ _)); simp only [List.getD_cons_succ, List.getD_cons_zero] <;> rfl)) ?_))
                (simp only [Act.put, List.setIfInBounds_toArray, List.set_cons_zero, List.set_cons_succ])
                (first | (refine plan_move _ _ (by rfl) (by rfl) (.inl (by rfl)) (by first | (with_reducible exact Mem.ev_const _ _) | (with_reducible exact Mem.ev_zero _ _ _) | (with_reducible (apply Eq.trans (Mem.ev_tmp _ _ _)); simp only [List.getD_cons_succ, List.getD_cons_zero] <;> rfl)) ?_) | (refine plan_move _ _ (by rfl) (by rfl) (.inr (by rfl)) (by first | (with_reducible exact Mem.ev_const _ _) | (with_reducible exact Mem.ev_zero _ _ _) | (with_reducible (apply Eq.trans (Mem.ev_tmp _ _ _)); simp only [List.getD_cons_succ, List.getD_cons_zero] <;> rfl)) ?_) | (refine plan_pick_t _ _ _ _ (by rfl) (by rfl) (by rfl) (by first | (with_reducible exact Mem.ev_const _ _) | (with_reducible exact Mem.ev_zero _ _ _) | (with_reducible (apply Eq.trans (Mem.ev_tmp _ _ _)); simp only [List.getD_cons_succ, List.getD_cons_zero] <;> rfl)) (by first | (with_reducible exact Mem.ev_const _ _) | (with_reducible exact Mem.ev_zero _ _ _) | (with_reducible (apply Eq.trans (Mem.ev_tmp _ _ _)); simp only [List.getD_cons_succ, List.getD_cons_zero] <;> rfl)) ?_) | (refine plan_pick_f _ _ _ _ (by rfl) (by rfl) (by rfl) (by first | (with_reducible exact Mem.ev_const _ _) | (with_reducible exact Mem.ev_zero _ _ _) | (with_reducible (apply Eq.trans (Mem.ev_tmp _ _ _)); simp only [List.getD_cons_succ, List.getD_cons_zero] <;> rfl)) (by first | (with_reducible exact Mem.ev_const _ _) | (with_reducible exact Mem.ev_zero _ _ _) | (with_reducible (apply Eq.trans (Mem.ev_tmp _ _ _)); simp only [List.getD_cons_succ, List.getD_cons_zero] <;> rfl)) ?_))
                (simp only [Act.put, List.setIfInBounds_toArray, List.set_cons_zero, List.set_cons_succ])
                refine plan_call 18 _ _ _ (by kernel_rfl) (by rfl) (by rfl) (by rfl) (by first | exact Mem.ev_none _ | (simp only [List.map_toArray, List.map_cons, List.map_nil, Mem.ev_tmp, List.getD_cons_succ, List.getD_cons_zero] <;> rfl)) ?_
                refine (BKJ.out _ _ (S.below _ _ _ _ RW.out D0.out)).mono ?_
                rintro e z4 ⟨rfl, hb4⟩
                have E4 : Hid (Below wr.heap.size wr z4) := Lib.hid (D0.out.trans (hb4.mono D0.out.size))
                clear hb4
                refine ⟨_, rfl, E4.out, ?_⟩
                (simp only [Act.put, List.setIfInBounds_toArray, List.set_cons_zero, List.set_cons_succ])
                refine plan_call 22 _ _ _ (by kernel_rfl) (by rfl) (by rfl) (by rfl) (by first | exact Mem.ev_none _ | (simp only [List.map_toArray, List.map_cons, List.map_nil, Mem.ev_tmp, List.getD_cons_succ, List.getD_cons_zero] <;> rfl)) ?_
                refine (IMJ.out _ _ (S.below _ _ _ _ RW.out E4.out)).mono ?_
                rintro e z5 ⟨rfl, hb5⟩
                have E5 : Hid (Below wr.heap.size wr z5) := Lib.hid (E4.out.trans (hb5.mono E4.out.size))
                clear hb5
                refine ⟨_, rfl, E5.out, ?_⟩
                (simp only [Act.put, List.setIfInBounds_toArray, List.set_cons_zero, List.set_cons_succ])
                (first | (refine plan_move _ _ (by rfl) (by rfl) (.inl (by rfl)) (by first | (with_reducible exact Mem.ev_const _ _) | (with_reducible exact Mem.ev_zero _ _ _) | (with_reducible (apply Eq.trans (Mem.ev_tmp _ _ _)); simp only [List.getD_cons_succ, List.getD_cons_zero] <;> rfl)) ?_) | (refine plan_move _ _ (by rfl) (by rfl) (.inr (by rfl)) (by first | (with_reducible exact Mem.ev_const _ _) | (with_reducible exact Mem.ev_zero _ _ _) | (with_reducible (apply Eq.trans (Mem.ev_tmp _ _ _)); simp only [List.getD_cons_succ, List.getD_cons_zero] <;> rfl)) ?_) | (refine plan_pick_t _ _ _ _ (by rfl) (by rfl) (by rfl) (by first | (with_reducible exact Mem.ev_const _ _) | (with_reducible exact Mem.ev_zero _ _ _) | (with_reducible (apply Eq.trans (Mem.ev_tmp _ _ _)); simp only [List.getD_cons_succ, List.getD_cons_zero] <;> rfl)) (by first | (with_reducible exact Mem.ev_const _ _) | (with_reducible exact Mem.ev_zero _ _ _) | (with_reducible (apply Eq.trans (Mem.ev_tmp _ _ _)); simp only [List.getD_cons_succ, List.getD_cons_zero] <;> rfl)) ?_) | (refine plan_pick_f _ _ _ _ (by rfl) (by rfl) (by rfl) (by first | (with_reducible exact Mem.ev_const _ _) | (with_reducible exact Mem.ev_zero _ _ _) | (with_reducible (apply Eq.trans (Mem.ev_tmp _ _ _)); simp only [List.getD_cons_succ, List.getD_cons_zero] <;> rfl)) (by first | (with_reducible exact Mem.ev_const _ _) | (with_reducible exact Mem.ev_zero _ _ _) | (with_reducible (apply Eq.trans (Mem.ev_tmp _ _ _)); simp only [List.getD_cons_succ, List.getD_cons_zero] <;> rfl)) ?_))
                (simp only [Act.put, List.setIfInBounds_toArray, List.set_cons_zero, List.set_cons_succ])
                refine plan_extract _ _ #[(.int .i64 (j : Int)), (.int .i64 (k : Int)), (.bool true)] (.int .i64 (j : Int)) (by rfl) (by rfl) (by rfl) (by first | (with_reducible exact Mem.ev_const _ _) | (with_reducible exact Mem.ev_zero _ _ _) | (with_reducible (apply Eq.trans (Mem.ev_tmp _ _ _)); simp only [List.getD_cons_succ, List.getD_cons_zero] <;> rfl)) (by rfl) ?_
                (simp only [Act.put, List.setIfInBounds_toArray, List.set_cons_zero, List.set_cons_succ])
                refine plan_extract _ _ #[(.int .i64 (j : Int)), (.int .i64 (k : Int)), (.bool true)] (.int .i64 (k : Int)) (by rfl) (by rfl) (by rfl) (by first | (with_reducible exact Mem.ev_const _ _) | (with_reducible exact Mem.ev_zero _ _ _) | (with_reducible (apply Eq.trans (Mem.ev_tmp _ _ _)); simp only [List.getD_cons_succ, List.getD_cons_zero] <;> rfl)) (by rfl) ?_
                (simp only [Act.put, List.setIfInBounds_toArray, List.set_cons_zero, List.set_cons_succ])
                refine plan_extract _ _ #[(.int .i64 (j : Int)), (.int .i64 (k : Int)), (.bool true)] (.bool true) (by rfl) (by rfl) (by rfl) (by first | (with_reducible exact Mem.ev_const _ _) | (with_reducible exact Mem.ev_zero _ _ _) | (with_reducible (apply Eq.trans (Mem.ev_tmp _ _ _)); simp only [List.getD_cons_succ, List.getD_cons_zero] <;> rfl)) (by rfl) ?_
                (simp only [Act.put, List.setIfInBounds_toArray, List.set_cons_zero, List.set_cons_succ])
                (first | (refine plan_move _ _ (by rfl) (by rfl) (.inl (by rfl)) (by first | (with_reducible exact Mem.ev_const _ _) | (with_reducible exact Mem.ev_zero _ _ _) | (with_reducible (apply Eq.trans (Mem.ev_tmp _ _ _)); simp only [List.getD_cons_succ, List.getD_cons_zero] <;> rfl)) ?_) | (refine plan_move _ _ (by rfl) (by rfl) (.inr (by rfl)) (by first | (with_reducible exact Mem.ev_const _ _) | (with_reducible exact Mem.ev_zero _ _ _) | (with_reducible (apply Eq.trans (Mem.ev_tmp _ _ _)); simp only [List.getD_cons_succ, List.getD_cons_zero] <;> rfl)) ?_) | (refine plan_pick_t _ _ _ _ (by rfl) (by rfl) (by rfl) (by first | (with_reducible exact Mem.ev_const _ _) | (with_reducible exact Mem.ev_zero _ _ _) | (with_reducible (apply Eq.trans (Mem.ev_tmp _ _ _)); simp only [List.getD_cons_succ, List.getD_cons_zero] <;> rfl)) (by first | (with_reducible exact Mem.ev_const _ _) | (with_reducible exact Mem.ev_zero _ _ _) | (with_reducible (apply Eq.trans (Mem.ev_tmp _ _ _)); simp only [List.getD_cons_succ, List.getD_cons_zero] <;> rfl)) ?_) | (refine plan_pick_f _ _ _ _ (by rfl) (by rfl) (by rfl) (by first | (with_reducible exact Mem.ev_const _ _) | (with_reducible exact Mem.ev_zero _ _ _) | (with_reducible (apply Eq.trans (Mem.ev_tmp _ _ _)); simp only [List.getD_cons_succ, List.getD_cons_zero] <;> rfl)) (by first | (with_reducible exact Mem.ev_const _ _) | (with_reducible exact Mem.ev_zero _ _ _) | (with_reducible (apply Eq.trans (Mem.ev_tmp _ _ _)); simp only [List.getD_cons_succ, List.getD_cons_zero] <;> rfl)) ?_))
                (simp only [Act.put, List.setIfInBounds_toArray, List.set_cons_zero, List.set_cons_succ])
                (first | (refine plan_move _ _ (by rfl) (by rfl) (.inl (by rfl)) (by first | (with_reducible exact Mem.ev_const _ _) | (with_reducible exact Mem.ev_zero _ _ _) | (with_reducible (apply Eq.trans (Mem.ev_tmp _ _ _)); simp only [List.getD_cons_succ, List.getD_cons_zero] <;> rfl)) ?_) | (refine plan_move _ _ (by rfl) (by rfl) (.inr (by rfl)) (by first | (with_reducible exact Mem.ev_const _ _) | (with_reducible exact Mem.ev_zero _ _ _) | (with_reducible (apply Eq.trans (Mem.ev_tmp _ _ _)); simp only [List.getD_cons_succ, List.getD_cons_zero] <;> rfl)) ?_) | (refine plan_pick_t _ _ _ _ (by rfl) (by rfl) (by rfl) (by first | (with_reducible exact Mem.ev_const _ _) | (with_reducible exact Mem.ev_zero _ _ _) | (with_reducible (apply Eq.trans (Mem.ev_tmp _ _ _)); simp only [List.getD_cons_succ, List.getD_cons_zero] <;> rfl)) (by first | (with_reducible exact Mem.ev_const _ _) | (with_reducible exact Mem.ev_zero _ _ _) | (with_reducible (apply Eq.trans (Mem.ev_tmp _ _ _)); simp only [List.getD_cons_succ, List.getD_cons_zero] <;> rfl)) ?_) | (refine plan_pick_f _ _ _ _ (by rfl) (by rfl) (by rfl) (by first | (with_reducible exact Mem.ev_const _ _) | (with_reducible exact Mem.ev_zero _ _ _) | (with_reducible (apply Eq.trans (Mem.ev_tmp _ _ _)); simp only [List.getD_cons_succ, List.getD_cons_zero] <;> rfl)) (by first | (with_reducible exact Mem.ev_const _ _) | (with_reducible exact Mem.ev_zero _ _ _) | (with_reducible (apply Eq.trans (Mem.ev_tmp _ _ _)); simp only [List.getD_cons_succ, List.getD_cons_zero] <;> rfl)) ?_))
                (simp only [Act.put, List.setIfInBounds_toArray, List.set_cons_zero, List.set_cons_succ])
                (first | (refine plan_move _ _ (by rfl) (by rfl) (.inl (by rfl)) (by first | (with_reducible exact Mem.ev_const _ _) | (with_reducible exact Mem.ev_zero _ _ _) | (with_reducible (apply Eq.trans (Mem.ev_tmp _ _ _)); simp only [List.getD_cons_succ, List.getD_cons_zero] <;> rfl)) ?_) | (refine plan_move _ _ (by rfl) (by rfl) (.inr (by rfl)) (by first | (with_reducible exact Mem.ev_const _ _) | (with_reducible exact Mem.ev_zero _ _ _) | (with_reducible (apply Eq.trans (Mem.ev_tmp _ _ _)); simp only [List.getD_cons_succ, List.getD_cons_zero] <;> rfl)) ?_) | (refine plan_pick_t _ _ _ _ (by rfl) (by rfl) (by rfl) (by first | (with_reducible exact Mem.ev_const _ _) | (with_reducible exact Mem.ev_zero _ _ _) | (with_reducible (apply Eq.trans (Mem.ev_tmp _ _ _)); simp only [List.getD_cons_succ, List.getD_cons_zero] <;> rfl)) (by first | (with_reducible exact Mem.ev_const _ _) | (with_reducible exact Mem.ev_zero _ _ _) | (with_reducible (apply Eq.trans (Mem.ev_tmp _ _ _)); simp only [List.getD_cons_succ, List.getD_cons_zero] <;> rfl)) ?_) | (refine plan_pick_f _ _ _ _ (by rfl) (by rfl) (by rfl) (by first | (with_reducible exact Mem.ev_const _ _) | (with_reducible exact Mem.ev_zero _ _ _) | (with_reducible (apply Eq.trans (Mem.ev_tmp _ _ _)); simp only [List.getD_cons_succ, List.getD_cons_zero] <;> rfl)) (by first | (with_reducible exact Mem.ev_const _ _) | (with_reducible exact Mem.ev_zero _ _ _) | (with_reducible (apply Eq.trans (Mem.ev_tmp _ _ _)); simp only [List.getD_cons_succ, List.getD_cons_zero] <;> rfl)) ?_))
                (simp only [Act.put, List.setIfInBounds_toArray, List.set_cons_zero, List.set_cons_succ])
                refine plan_nil ?_
                have E9 : Hid (Below wr.heap.size wr z5) := E5
                have B10 : Hid (Below y2.heap.size y2 z5) := Lib.hid (B9.out.trans (E9.out.mono B9.out.size))
                have M10 : Hid (OneM z5 bm (i - 1)) := Lib.hid (M9.out.below E9.out M9.out.lt)
                clear B9 M9 AW RW D0 E9
                go_wp2_with fail
                go_roundw
                case rel => exact ⟨k + 1, by omega, by go_num, B10.out, M10.out⟩
                case measure => simp [intOf]; omega
              · have hke : k = 2 := by omega
                subst hke
                clear hbw hmw
                go_wp2_with fail
                go_roundw
                case rel => exact ⟨j + 1, by omega, by go_num, B9.out, M9.out⟩
                case measure => simp [intOf]; omega
          · have e2 : ¬ (j : Int) = r := by omega
            have hw0 : (1 : Int) = if j < i - 1 then 1 else 0 := by rw [if_pos (by omega)]
            have HW0 := Lib.hid hw0; have RTJ := Lib.hid rtj
            clear hw0 he hr rtj
            go_wp2_with (refine wpList_load_all (by rfl) 23 _ (by rfl) g2 (by rfl) _ Try.underlying23 (by rfl) C _ AW.out (by rw [CS.out]; exact INF.out) ?_)
            refine (RTJ.out _ _ RW.out).mono ?_
            rintro e x8 ⟨rfl, hb8⟩
            have B8 : Hid (Below y2.heap.size y2 x8) := Lib.hid (BW.out.trans (hb8.mono BW.out.size))
            have M8 : Hid (OneM x8 bm (i - 1)) := Lib.hid (MW.out.below hb8 MW.out.lt)
            clear hb8 BW MW AW RW
            go_wp2_with (refine wpList_one_look (by rfl) _ _ (by rfl) bm (i - 1) j (by rfl) (by rfl) M8.out hj9 1 HW0.out ?_)
            go_loopw [90] (fun v wx => ∃ k : Nat, k ≤ 2 ∧ v = .int .i64 k ∧ Below y2.heap.size y2 wx ∧ OneM wx bm (i - 1)) (fun v _ => 2 - (intOf v).toNat)
            case atStart => exact ⟨0, by omega, rfl, B8.out, M8.out⟩
            case round =>
              obtain ⟨k, hk, rfl, hbw, hmw⟩ := hrel
              have B9 := Lib.hid hbw; have M9 := Lib.hid hmw
              by_cases hk2 : k < 2
              · have hk3 : (k : Int) < 2 := by omega
                have AW := Lib.hid (K2.out.below hbw K2.out.lt); have RW := Lib.hid (S.below _ _ _ _ R2.out hbw)
                have bkj := fun wx C h => BK.out (j : Int) (k : Int) wx C h
                rw [HBZ.out j k hjn hk2] at bkj
                have imj := fun wx C h => IM.out (2 + 2 * (j : Int) + (k : Int)) wx C h
                rw [HIZ.out j k hjn hk2] at imj
                obtain ⟨q, hq⟩ : ∃ q, q = 2 + 2 * (j : Int) + (k : Int) := ⟨_, rfl⟩
                rw [← hq] at bkj imj
                have BKJ := Lib.hid bkj; have IMJ := Lib.hid imj
                clear bkj imj hq hbw hmw
                go_upto_region 28 with fail
                have D0 : Hid (Below wr.heap.size wr wr.drew) := Lib.hid (Below.refl _ _).drew
                refine wp_region_plan_in (fun x' => Below wr.heap.size wr x') (.take 0 (.take 1 (.take 2 (.take 3 (.sole 4 (.sole 5 (.take 6 (.take 7 (.take 8 (.take 9 (.take 10 (.take 11 (.take 12 .done))))))))))))) (by kernel_rfl) (by kernel_rfl) (by kernel_rfl) D0.out ?_
                refine plan_row 23 _ g2 _ C 23 (by rfl) (by rfl) (by rfl) (by first | (with_reducible exact Mem.ev_const _ _) | (with_reducible exact Mem.ev_zero _ _ _) | (with_reducible (apply Eq.trans (Mem.ev_tmp _ _ _)); simp only [List.getD_cons_succ, List.getD_cons_zero] <;> rfl)) (fun w' hw' => AW.out.below hw' AW.out.lt) Try.underlying23 (by rfl) (by rw [CS.out]; exact INF.out) ?_
                (simp only [Act.put, List.setIfInBounds_toArray, List.set_cons_zero, List.set_cons_succ])
                refine plan_row 23 _ g2 _ C 23 (by rfl) (by rfl) (by rfl) (by first | (with_reducible exact Mem.ev_const _ _) | (with_reducible exact Mem.ev_zero _ _ _) | (with_reducible (apply Eq.trans (Mem.ev_tmp _ _ _)); simp only [List.getD_cons_succ, List.getD_cons_zero] <;> rfl)) (fun w' hw' => AW.out.below hw' AW.out.lt) Try.underlying23 (by rfl) (by rw [CS.out]; exact INF.out) ?_
                (simp only [Act.put, List.setIfInBounds_toArray, List.set_cons_zero, List.set_cons_succ])
                (first | (refine plan_move _ _ (by rfl) (by rfl) (.inl (by rfl)) (by first | (with_reducible exact Mem.ev_const _ _) | (with_reducible exact Mem.ev_zero _ _ _) | (with_reducible (apply Eq.trans (Mem.ev_tmp _ _ _)); simp only [List.getD_cons_succ, List.getD_cons_zero] <;> rfl)) ?_) | (refine plan_move _ _ (by rfl) (by rfl) (.inr (by rfl)) (by first | (with_reducible exact Mem.ev_const _ _) | (with_reducible exact Mem.ev_zero _ _ _) | (with_reducible (apply Eq.trans (Mem.ev_tmp _ _ _)); simp only [List.getD_cons_succ, List.getD_cons_zero] <;> rfl)) ?_) | (refine plan_pick_t _ _ _ _ (by rfl) (by rfl) (by rfl) (by first | (with_reducible exact Mem.ev_const _ _) | (with_reducible exact Mem.ev_zero _ _ _) | (with_reducible (apply Eq.trans (Mem.ev_tmp _ _ _)); simp only [List.getD_cons_succ, List.getD_cons_zero] <;> rfl)) (by first | (with_reducible exact Mem.ev_const _ _) | (with_reducible exact Mem.ev_zero _ _ _) | (with_reducible (apply Eq.trans (Mem.ev_tmp _ _ _)); simp only [List.getD_cons_succ, List.getD_cons_zero] <;> rfl)) ?_) | (refine plan_pick_f _ _ _ _ (by rfl) (by rfl) (by rfl) (by first | (with_reducible exact Mem.ev_const _ _) | (with_reducible exact Mem.ev_zero _ _ _) | (with_reducible (apply Eq.trans (Mem.ev_tmp _ _ _)); simp only [List.getD_cons_succ, List.getD_cons_zero] <;> rfl)) (by first | (with_reducible exact Mem.ev_const _ _) | (with_reducible exact Mem.ev_zero _ _ _) | (with_reducible (apply Eq.trans (Mem.ev_tmp _ _ _)); simp only [List.getD_cons_succ, List.getD_cons_zero] <;> rfl)) ?_))
                (simp only [Act.put, List.setIfInBounds_toArray, List.set_cons_zero, List.set_cons_succ])
                (first | (refine plan_move _ _ (by rfl) (by rfl) (.inl (by rfl)) (by first | (with_reducible exact Mem.ev_const _ _) | (with_reducible exact Mem.ev_zero _ _ _) | (with_reducible (apply Eq.trans (Mem.ev_tmp _ _ _)); simp only [List.getD_cons_succ, List.getD_cons_zero] <;> rfl)) ?_) | (refine plan_move _ _ (by rfl) (by rfl) (.inr (by rfl)) (by first | (with_reducible exact Mem.ev_const _ _) | (with_reducible exact Mem.ev_zero _ _ _) | (with_reducible (apply Eq.trans (Mem.ev_tmp _ _ _)); simp only [List.getD_cons_succ, List.getD_cons_zero] <;> rfl)) ?_) | (refine plan_pick_t _ _ _ _ (by rfl) (by rfl) (by rfl) (by first | (with_reducible exact Mem.ev_const _ _) | (with_reducible exact Mem.ev_zero _ _ _) | (with_reducible (apply Eq.trans (Mem.ev_tmp _ _ _)); simp only [List.getD_cons_succ, List.getD_cons_zero] <;> rfl)) (by first | (with_reducible exact Mem.ev_const _ _) | (with_reducible exact Mem.ev_zero _ _ _) | (with_reducible (apply Eq.trans (Mem.ev_tmp _ _ _)); simp only [List.getD_cons_succ, List.getD_cons_zero] <;> rfl)) ?_) | (refine plan_pick_f _ _ _ _ (by rfl) (by rfl) (by rfl) (by first | (with_reducible exact Mem.ev_const _ _) | (with_reducible exact Mem.ev_zero _ _ _) | (with_reducible (apply Eq.trans (Mem.ev_tmp _ _ _)); simp only [List.getD_cons_succ, List.getD_cons_zero] <;> rfl)) (by first | (with_reducible exact Mem.ev_const _ _) | (with_reducible exact Mem.ev_zero _ _ _) | (with_reducible (apply Eq.trans (Mem.ev_tmp _ _ _)); simp only [List.getD_cons_succ, List.getD_cons_zero] <;> rfl)) ?_))
                (simp only [Act.put, List.setIfInBounds_toArray, List.set_cons_zero, List.set_cons_succ])
                refine plan_call 18 _ _ _ (by kernel_rfl) (by rfl) (by rfl) (by rfl) (by first | exact Mem.ev_none _ | (simp only [List.map_toArray, List.map_cons, List.map_nil, Mem.ev_tmp, List.getD_cons_succ, List.getD_cons_zero] <;> rfl)) ?_
                refine (BKJ.out _ _ (S.below _ _ _ _ RW.out D0.out)).mono ?_
                rintro e z4 ⟨rfl, hb4⟩
                have E4 : Hid (Below wr.heap.size wr z4) := Lib.hid (D0.out.trans (hb4.mono D0.out.size))
                clear hb4
                refine ⟨_, rfl, E4.out, ?_⟩
                (simp only [Act.put, List.setIfInBounds_toArray, List.set_cons_zero, List.set_cons_succ])
                refine plan_call 22 _ _ _ (by kernel_rfl) (by rfl) (by rfl) (by rfl) (by first | exact Mem.ev_none _ | (simp only [List.map_toArray, List.map_cons, List.map_nil, Mem.ev_tmp, List.getD_cons_succ, List.getD_cons_zero] <;> rfl)) ?_
                refine (IMJ.out _ _ (S.below _ _ _ _ RW.out E4.out)).mono ?_
                rintro e z5 ⟨rfl, hb5⟩
                have E5 : Hid (Below wr.heap.size wr z5) := Lib.hid (E4.out.trans (hb5.mono E4.out.size))
                clear hb5
                refine ⟨_, rfl, E5.out, ?_⟩
                (simp only [Act.put, List.setIfInBounds_toArray, List.set_cons_zero, List.set_cons_succ])
                (first | (refine plan_move _ _ (by rfl) (by rfl) (.inl (by rfl)) (by first | (with_reducible exact Mem.ev_const _ _) | (with_reducible exact Mem.ev_zero _ _ _) | (with_reducible (apply Eq.trans (Mem.ev_tmp _ _ _)); simp only [List.getD_cons_succ, List.getD_cons_zero] <;> rfl)) ?_) | (refine plan_move _ _ (by rfl) (by rfl) (.inr (by rfl)) (by first | (with_reducible exact Mem.ev_const _ _) | (with_reducible exact Mem.ev_zero _ _ _) | (with_reducible (apply Eq.trans (Mem.ev_tmp _ _ _)); simp only [List.getD_cons_succ, List.getD_cons_zero] <;> rfl)) ?_) | (refine plan_pick_t _ _ _ _ (by rfl) (by rfl) (by rfl) (by first | (with_reducible exact Mem.ev_const _ _) | (with_reducible exact Mem.ev_zero _ _ _) | (with_reducible (apply Eq.trans (Mem.ev_tmp _ _ _)); simp only [List.getD_cons_succ, List.getD_cons_zero] <;> rfl)) (by first | (with_reducible exact Mem.ev_const _ _) | (with_reducible exact Mem.ev_zero _ _ _) | (with_reducible (apply Eq.trans (Mem.ev_tmp _ _ _)); simp only [List.getD_cons_succ, List.getD_cons_zero] <;> rfl)) ?_) | (refine plan_pick_f _ _ _ _ (by rfl) (by rfl) (by rfl) (by first | (with_reducible exact Mem.ev_const _ _) | (with_reducible exact Mem.ev_zero _ _ _) | (with_reducible (apply Eq.trans (Mem.ev_tmp _ _ _)); simp only [List.getD_cons_succ, List.getD_cons_zero] <;> rfl)) (by first | (with_reducible exact Mem.ev_const _ _) | (with_reducible exact Mem.ev_zero _ _ _) | (with_reducible (apply Eq.trans (Mem.ev_tmp _ _ _)); simp only [List.getD_cons_succ, List.getD_cons_zero] <;> rfl)) ?_))
                (simp only [Act.put, List.setIfInBounds_toArray, List.set_cons_zero, List.set_cons_succ])
                refine plan_extract _ _ #[(.int .i64 (j : Int)), (.int .i64 (k : Int)), (.bool true)] (.int .i64 (j : Int)) (by rfl) (by rfl) (by rfl) (by first | (with_reducible exact Mem.ev_const _ _) | (with_reducible exact Mem.ev_zero _ _ _) | (with_reducible (apply Eq.trans (Mem.ev_tmp _ _ _)); simp only [List.getD_cons_succ, List.getD_cons_zero] <;> rfl)) (by rfl) ?_
                (simp only [Act.put, List.setIfInBounds_toArray, List.set_cons_zero, List.set_cons_succ])
                refine plan_extract _ _ #[(.int .i64 (j : Int)), (.int .i64 (k : Int)), (.bool true)] (.int .i64 (k : Int)) (by rfl) (by rfl) (by rfl) (by first | (with_reducible exact Mem.ev_const _ _) | (with_reducible exact Mem.ev_zero _ _ _) | (with_reducible (apply Eq.trans (Mem.ev_tmp _ _ _)); simp only [List.getD_cons_succ, List.getD_cons_zero] <;> rfl)) (by rfl) ?_
                (simp only [Act.put, List.setIfInBounds_toArray, List.set_cons_zero, List.set_cons_succ])
                refine plan_extract _ _ #[(.int .i64 (j : Int)), (.int .i64 (k : Int)), (.bool true)] (.bool true) (by rfl) (by rfl) (by rfl) (by first | (with_reducible exact Mem.ev_const _ _) | (with_reducible exact Mem.ev_zero _ _ _) | (with_reducible (apply Eq.trans (Mem.ev_tmp _ _ _)); simp only [List.getD_cons_succ, List.getD_cons_zero] <;> rfl)) (by rfl) ?_
                (simp only [Act.put, List.setIfInBounds_toArray, List.set_cons_zero, List.set_cons_succ])
                (first | (refine plan_move _ _ (by rfl) (by rfl) (.inl (by rfl)) (by first | (with_reducible exact Mem.ev_const _ _) | (with_reducible exact Mem.ev_zero _ _ _) | (with_reducible (apply Eq.trans (Mem.ev_tmp _ _ _)); simp only [List.getD_cons_succ, List.getD_cons_zero] <;> rfl)) ?_) | (refine plan_move _ _ (by rfl) (by rfl) (.inr (by rfl)) (by first | (with_reducible exact Mem.ev_const _ _) | (with_reducible exact Mem.ev_zero _ _ _) | (with_reducible (apply Eq.trans (Mem.ev_tmp _ _ _)); simp only [List.getD_cons_succ, List.getD_cons_zero] <;> rfl)) ?_) | (refine plan_pick_t _ _ _ _ (by rfl) (by rfl) (by rfl) (by first | (with_reducible exact Mem.ev_const _ _) | (with_reducible exact Mem.ev_zero _ _ _) | (with_reducible (apply Eq.trans (Mem.ev_tmp _ _ _)); simp only [List.getD_cons_succ, List.getD_cons_zero] <;> rfl)) (by first | (with_reducible exact Mem.ev_const _ _) | (with_reducible exact Mem.ev_zero _ _ _) | (with_reducible (apply Eq.trans (Mem.ev_tmp _ _ _)); simp only [List.getD_cons_succ, List.getD_cons_zero] <;> rfl)) ?_) | (refine plan_pick_f _ _ _ _ (by rfl) (by rfl) (by rfl) (by first | (with_reducible exact Mem.ev_const _ _) | (with_reducible exact Mem.ev_zero _ _ _) | (with_reducible (apply Eq.trans (Mem.ev_tmp _ _ _)); simp only [List.getD_cons_succ, List.getD_cons_zero] <;> rfl)) (by first | (with_reducible exact Mem.ev_const _ _) | (with_reducible exact Mem.ev_zero _ _ _) | (with_reducible (apply Eq.trans (Mem.ev_tmp _ _ _)); simp only [List.getD_cons_succ, List.getD_cons_zero] <;> rfl)) ?_))
                (simp only [Act.put, List.setIfInBounds_toArray, List.set_cons_zero, List.set_cons_succ])
                (first | (refine plan_move _ _ (by rfl) (by rfl) (.inl (by rfl)) (by first | (with_reducible exact Mem.ev_const _ _) | (with_reducible exact Mem.ev_zero _ _ _) | (with_reducible (apply Eq.trans (Mem.ev_tmp _ _ _)); simp only [List.getD_cons_succ, List.getD_cons_zero] <;> rfl)) ?_) | (refine plan_move _ _ (by rfl) (by rfl) (.inr (by rfl)) (by first | (with_reducible exact Mem.ev_const _ _) | (with_reducible exact Mem.ev_zero _ _ _) | (with_reducible (apply Eq.trans (Mem.ev_tmp _ _ _)); simp only [List.getD_cons_succ, List.getD_cons_zero] <;> rfl)) ?_) | (refine plan_pick_t _ _ _ _ (by rfl) (by rfl) (by rfl) (by first | (with_reducible exact Mem.ev_const _ _) | (with_reducible exact Mem.ev_zero _ _ _) | (with_reducible (apply Eq.trans (Mem.ev_tmp _ _ _)); simp only [List.getD_cons_succ, List.getD_cons_zero] <;> rfl)) (by first | (with_reducible exact Mem.ev_const _ _) | (with_reducible exact Mem.ev_zero _ _ _) | (with_reducible (apply Eq.trans (Mem.ev_tmp _ _ _)); simp only [List.getD_cons_succ, List.getD_cons_zero] <;> rfl)) ?_) | (refine plan_pick_f _ _ _ _ (by rfl) (by rfl) (by rfl) (by first | (with_reducible exact Mem.ev_const _ _) | (with_reducible exact Mem.ev_zero _ _ _) | (with_reducible (apply Eq.trans (Mem.ev_tmp _ _ _)); simp only [List.getD_cons_succ, List.getD_cons_zero] <;> rfl)) (by first | (with_reducible exact Mem.ev_const _ _) | (with_reducible exact Mem.ev_zero _ _ _) | (with_reducible (apply Eq.trans (Mem.ev_tmp _ _ _)); simp only [List.getD_cons_succ, List.getD_cons_zero] <;> rfl)) ?_))
                (simp only [Act.put, List.setIfInBounds_toArray, List.set_cons_zero, List.set_cons_succ])
                (first | (refine plan_move _ _ (by rfl) (by rfl) (.inl (by rfl)) (by first | (with_reducible exact Mem.ev_const _ _) | (with_reducible exact Mem.ev_zero _ _ _) | (with_reducible (apply Eq.trans (Mem.ev_tmp _ _ _)); simp only [List.getD_cons_succ, List.getD_cons_zero] <;> rfl)) ?_) | (refine plan_move _ _ (by rfl) (by rfl) (.inr (by rfl)) (by first | (with_reducible exact Mem.ev_const _ _) | (with_reducible exact Mem.ev_zero _ _ _) | (with_reducible (apply Eq.trans (Mem.ev_tmp _ _ _)); simp only [List.getD_cons_succ, List.getD_cons_zero] <;> rfl)) ?_) | (refine plan_pick_t _ _ _ _ (by rfl) (by rfl) (by rfl) (by first | (with_reducible exact Mem.ev_const _ _) | (with_reducible exact Mem.ev_zero _ _ _) | (with_reducible (apply Eq.trans (Mem.ev_tmp _ _ _)); simp only [List.getD_cons_succ, List.getD_cons_zero] <;> rfl)) (by first | (with_reducible exact Mem.ev_const _ _) | (with_reducible exact Mem.ev_zero _ _ _) | (with_reducible (apply Eq.trans (Mem.ev_tmp _ _ _)); simp only [List.getD_cons_succ, List.getD_cons_zero] <;> rfl)) ?_) | (refine plan_pick_f _ _ _ _ (by rfl) (by rfl) (by rfl) (by first | (with_reducible exact Mem.ev_const _ _) | (with_reducible exact Mem.ev_zero _ _ _) | (with_reducible (apply Eq.trans (Mem.ev_tmp _ _ _)); simp only [List.getD_cons_succ, List.getD_cons_zero] <;> rfl)) (by first | (with_reducible exact Mem.ev_const _ _) | (with_reducible exact Mem.ev_zero _ _ _) | (with_reducible (apply Eq.trans (Mem.ev_tmp _ _ _)); simp only [List.getD_cons_succ, List.getD_cons_zero] <;> rfl)) ?_))
                (simp only [Act.put, List.setIfInBounds_toArray, List.set_cons_zero, List.set_cons_succ])
                refine plan_nil ?_
                have E9 : Hid (Below wr.heap.size wr z5) := E5
                have B10 : Hid (Below y2.heap.size y2 z5) := Lib.hid (B9.out.trans (E9.out.mono B9.out.size))
                have M10 : Hid (OneM z5 bm (i - 1)) := Lib.hid (M9.out.below E9.out M9.out.lt)
                clear B9 M9 AW RW D0 E9
                go_wp2_with fail
                go_roundw
                case rel => exact ⟨k + 1, by omega, by go_num, B10.out, M10.out⟩
                case measure => simp [intOf]; omega
              · have hke : k = 2 := by omega
                subst hke
                clear hbw hmw
                go_wp2_with fail
                go_roundw
                case rel => exact ⟨j + 1, by omega, by go_num, B9.out, M9.out⟩
                case measure => simp [intOf]; omega
        · have hje : j = i := by omega
          subst hje
          clear MW
          go_wp2_with fail
          refine (AL.out _).mono ?_
          rintro e x9 ⟨rfl, hb9⟩
          have G9 : Hid (Below w.heap.size w x9) := Lib.hid (G2.out.trans ((BW.out.trans (hb9.mono BW.out.size)).mono G2.out.size))
          clear hb9
          go_wp2_with fail
          go_ret
          exact ⟨rfl, G9.out⟩
theorem one12_core (S : ShP) (z : Int) (w : World) : Calls Try.prog 5 #[.int .i64 z] w fun e w' => e = .returned (.bool true) ∧ Below w.heap.size w w' := by
  by_cases h : z < 1 ∨ 216 < z
  · exact one12_bad S z w h
  · obtain ⟨p, rfl⟩ : ∃ p : Nat, z = (p : Int) := ⟨z.toNat, by omega⟩
    exact one12_good S p w (by omega) (by omega)
end Sha
end Go.Proofs.Ytbboljmemomcnaa
