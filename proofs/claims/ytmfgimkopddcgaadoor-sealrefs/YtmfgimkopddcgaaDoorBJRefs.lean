/- The law SealRefs of layer 9: any reference's bytes, and the reference of any bytes, are the document's, or refused; what is laid is parsed. For every input, the tables of packages cipher and sha tied to the program's text. -/
import Derived.Test.YtmfgimkopddcgaaDoorBG
import Derived.Test.YtmfgimkopddcgaaDoorBI
import Derived.Test.YtmfgimkopddcgaaDoorCards
import Derived.Test.YtmfgimkopddcgaaDoorTie
namespace Go.Proofs.YtmfgimkopddcgaaDoor
namespace Sha
open Go.RowKit Mem
theorem parse_lay (r : RefV) (hr : r.Wf) (h : r.pl = 0 ∨ r.pl = 1) : parseRf (layRf r) = (r, 0) := by
  have hl := layRf_length hr
  have h0 : ((layRf r).getD 0 0).toNat = r.pl.toNat := by
    rcases h with h | h <;> (simp [layRf, h])
  have h1 : ¬ ((layRf r).length ≠ 37 ∨ 1 < ((layRf r).getD 0 0).toNat) := by
    rw [h0]; omega
  unfold parseRf
  rw [if_neg h1]
  have e1 : lew ((layRf r).drop 1) 0 = r.ep := by
    show lew (le4 r.ep ++ r.dg) 0 = r.ep
    exact lew_le4 _ _
  have e2 : (layRf r).drop 5 = r.dg := rfl
  show ((⟨(((layRf r).getD 0 0).toNat : Int), lew ((layRf r).drop 1) 0, (layRf r).drop 5⟩ : RefV), (0 : Int)) = (r, 0)
  rw [h0, e1, e2]
  have e3 : (r.pl.toNat : Int) = r.pl := by omega
  rw [e3]
theorem lay_parse (b : List (BitVec 8)) (h : (parseRf b).2 = 0) : layRf (parseRf b).1 = b := by
  unfold parseRf at h ⊢
  by_cases g : b.length ≠ 37 ∨ 1 < (b.getD 0 0).toNat
  · rw [if_pos g] at h; exact absurd h (by decide)
  · rw [if_neg g]
    have hl : b.length = 37 := by omega
    match b, hl with
    | a :: x :: y :: z :: u :: t, _ =>
      show [BitVec.ofInt 8 (a.toNat : Int)] ++ le4 (lew (x :: y :: z :: u :: t) 0) ++ t = _
      rw [le4_lew]
      have e : BitVec.ofInt 8 (a.toNat : Int) = a := by
        apply BitVec.eq_of_toNat_eq
        rw [BitVec.toNat_ofInt]
        have := a.isLt
        omega
      rw [e]
      rfl
set_option maxRecDepth 100000 in
set_option maxHeartbeats 8000000 in
theorem refs_core {T : World → Prop} (C : SealP T) (r : RefV) (hr : r.Wf) (b : List (BitVec 8)) (v : Value) (w : World) (hv : Sl w v b) (hn : b.length ≤ 9223372036854775807) (hT : T w) :
    Calls Tryd.prog 5 #[.agg (refC r), v] w fun e w' => e = .returned (.bool true) ∧ Below w.heap.size w w' := by
  have ALV := Lib.hid (fun wx h => alive9_any C wx h)
  have CC := Lib.hid C
  obtain ⟨a0, c0, rfl⟩ := sl_inv hv
  obtain ⟨n, hnn⟩ : ∃ n, n = b.length := ⟨_, rfl⟩
  rw [← hnn] at hn
  have h0 := ref0 r
  have ms := refC_size hr
  have an := at_new w (refC r) 38
  have bn : Below w.heap.size w (w.alloc (.cells (refC r) 38)) := (Below.refl _ _).alloc (Nat.le_refl _) _
  by_cases g1 : 100 < n
  · have g1' : (100 : Int) < (n : Int) := by omega
    rw [← hnn]
    have BN := Lib.hid bn; have TT := Lib.hid (C.below hT bn)
    obtain ⟨M, hM⟩ : ∃ M, M = refC r := ⟨_, rfl⟩
    rw [← hM] at BN TT ⊢
    clear hv hnn hT C h0 ms an bn hM
    go_enter Tryd.func5, Tryd.ntmps5
    go_wp2_with fail
    refine (ALV.out _ TT.out).mono ?_
    rintro e w1 ⟨rfl, hb⟩
    have B1 := Lib.hid (BN.out.trans (hb.mono BN.out.size))
    clear hb
    go_wp2_with fail
    go_ret
    exact ⟨rfl, B1.out⟩
  · have g1' : ¬ (100 : Int) < (n : Int) := by omega
    have th := fun wx => theirs9_any r hr wx
    have ly := fun wx (h : T wx) => C.lay r wx hr h
    have rly := fun wx => rlay_any r hr wx
    obtain ⟨RL, hRL⟩ : ∃ RL, RL = layRf r := ⟨_, rfl⟩
    have rll : RL.length = 37 := by rw [hRL]; exact layRf_length hr
    have pa := fun wx (h : Sl wx (.slice a0 b.length c0) b) (ht : T wx) => C.parse b _ wx h (by omega) ht
    have rpa := fun wx (h : Sl wx (.slice a0 b.length c0) b) => rparseRf_any b _ wx h (by omega)
    have pz := fun wx (vx : Value) (h : Sl wx vx RL) (ht : T wx) => C.parse RL vx wx h (by omega) ht
    have hxw := parseRf_wf b
    obtain ⟨x, hx1⟩ : ∃ x, x = (parseRf b).1 := ⟨_, rfl⟩
    obtain ⟨f, hf1⟩ : ∃ f, f = (parseRf b).2 := ⟨_, rfl⟩
    have hzw := parseRf_wf RL
    obtain ⟨z, hz1⟩ : ∃ z, z = (parseRf RL).1 := ⟨_, rfl⟩
    obtain ⟨q, hq1⟩ : ∃ q, q = (parseRf RL).2 := ⟨_, rfl⟩
    rw [← hx1] at pa rpa hxw
    rw [← hf1] at pa rpa
    rw [← hz1] at pz hzw
    rw [← hq1] at pz
    have hzr : (r.pl = 0 ∨ r.pl = 1) → z = r ∧ q = 0 := fun h => by
      have k := parse_lay r hr h
      rw [← hRL] at k
      rw [hz1, hq1, k]
      exact ⟨rfl, rfl⟩
    have hxl : f = 0 → layRf x = b := fun h => by rw [hx1]; exact lay_parse b (by rw [← hf1]; exact h)
    have ou := fun wx => ours9_any x hxw wx
    have lx := fun wx (h : T wx) => C.lay x wx hxw h
    have neq := fun (p q : Operand) wx => neqRR hxw hxw p q wx
    rw [sameRef_self] at neq
    have eqz := fun (h : z = r) (p q : Operand) wx => (by have k := eqlRP hzw hr p q wx; rw [h, sameRef_self] at k; rw [h]; exact k : (do eqGuard .eql 35 p q (.agg (refC z)) (.agg (refC r)); binOp .eql 35 (.agg (refC z)) (.agg (refC r)) : Sem Value).run Tryd.prog wx = .ok (.bool true) wx)
    have xs := refC_size hxw
    have xo := refC_one x
    have zs2 := refC_size hzw
    have zo2 := refC_one z
    obtain ⟨pl, hpl⟩ : ∃ pl, pl = r.pl := ⟨_, rfl⟩
    rw [← hpl] at h0 hzr
    rw [← hRL] at ly rly
    obtain ⟨M, hM⟩ : ∃ M, M = refC r := ⟨_, rfl⟩
    rw [← hM] at h0 ms an bn th ly rly eqz ⊢
    obtain ⟨X, hX⟩ : ∃ X, X = refC x := ⟨_, rfl⟩
    rw [← hX] at pa rpa ou lx neq xs xo
    obtain ⟨Y, hY⟩ : ∃ Y, Y = refC z := ⟨_, rfl⟩
    rw [← hY] at pz eqz zs2 zo2
    obtain ⟨Z, hZ⟩ : ∃ Z, Z = refC zref := ⟨_, rfl⟩
    have zs : Z.size = 34 := by rw [hZ]; exact refC_size zref_wf
    have hxP : ∀ w, (zeroValue 35).run Tryd.prog w = .ok (.agg Z) w := by rw [hZ]; exact zeroRfP
    have hxR : ∀ w, (zeroValue 38).run Tryd.prog w = .ok (.agg Z) w := by rw [hZ]; exact zeroRfR
    rw [← hnn] at pa rpa hv ⊢
    have S1 := Lib.hid (hv.below bn); have T1 := Lib.hid (C.below hT bn); have AX := Lib.hid an; have BX := Lib.hid bn; have TH := Lib.hid th; have LY := Lib.hid ly; have RLY := Lib.hid rly; have PA := Lib.hid pa; have RPA := Lib.hid rpa; have PZ := Lib.hid pz; have OU := Lib.hid ou; have LX := Lib.hid lx; have NEQ := Lib.hid neq; have EQZ := Lib.hid eqz; have HZR := Lib.hid hzr; have HXL := Lib.hid hxl; have MS := Lib.hid ms; have XS := Lib.hid xs; have XO := Lib.hid xo; have YS := Lib.hid zs2; have YO := Lib.hid zo2; have ZS := Lib.hid zs; have H0 := Lib.hid h0; have RLL := Lib.hid rll; have HN := Lib.hid hnn
    clear hv hT C h0 ms an bn th ly rly pa rpa pz hxw hzw hzr hxl ou lx neq eqz xs xo zs2 zo2 zs hM hX hY hZ hpl hRL rll hx1 hf1 hz1 hq1 hnn hr
    go_enter Tryd.func5, Tryd.ntmps5
    go_upto_region 1 with fail
    obtain ⟨bx, hbx⟩ : ∃ bx, bx = w.heap.size := ⟨_, rfl⟩
    rw [← hbx] at AX ⊢
    clear hbx
    generalize w.alloc (.cells M 38) = w1 at *
    go_wp2_with fail
    refine (PA.out w1 S1.out T1.out).mono ?_
    rintro e w2 ⟨rfl, hb2⟩
    have hal : Below w2.heap.size w2 (w2.alloc (.cells X 35)) := (Below.refl _ _).alloc (Nat.le_refl _) _
    have hb3 := hb2.trans (hal.mono hb2.size)
    have S3 := Lib.hid (S1.out.below hb3); have T3 := Lib.hid (CC.out.below T1.out hb3); have AX3 := Lib.hid (AX.out.below hb3 AX.out.lt); have BX3 := Lib.hid (BX.out.trans (hb3.mono BX.out.size)); have A5 := Lib.hid (at_new w2 X 35)
    clear hb2 hal hb3 S1 T1 AX BX PA
    go_wp2_with (refine wpList_store_new (by rfl) 35 _ _ (by rfl) (by rfl) X _ _ (by rfl) (by rfl) (by rw [XS.out]; exact infoRfP) (by rw [XS.out, ZS.out]) XO.out ?_; generalize w2.alloc (.cells X 35) = w3 at *; generalize w2.heap.size = b5 at *)
    refine (RPA.out w3 S3.out).mono ?_
    rintro e w4 ⟨rfl, hb4⟩
    have hal : Below w4.heap.size w4 (w4.alloc (.cells X 38)) := (Below.refl _ _).alloc (Nat.le_refl _) _
    have hb5 := hb4.trans (hal.mono hb4.size)
    have S6 := Lib.hid (S3.out.below hb5); have T6 := Lib.hid (CC.out.below T3.out hb5); have AX6 := Lib.hid (AX3.out.below hb5 AX3.out.lt); have BX6 := Lib.hid (BX3.out.trans (hb5.mono BX3.out.size)); have A56 := Lib.hid (A5.out.below hb5 A5.out.lt); have A76 := Lib.hid (at_new w4 X 38)
    clear hb4 hal hb5 S3 T3 AX3 BX3 A5 RPA
    go_wp2_with (refine wpList_store_new (by rfl) 38 _ _ (by rfl) (by rfl) X _ _ (by rfl) (by rfl) (by rw [XS.out]; exact infoRfR) (by rw [XS.out, ZS.out]) XO.out ?_; clear hxR; generalize w4.alloc (.cells X 38) = w6 at *; generalize w4.heap.size = b7 at *)
    have D0 : Hid (Below w6.heap.size w6 w6.drew) := Lib.hid (Below.refl _ _).drew
    refine wp_region_plan_in (fun x' => Below w6.heap.size w6 x') (.take 0 (.take 3 (.sole 1 (.sole 2 (.sole 4 (.sole 5 (.take 6 (.take 7 (.take 8 (.take 10 (.sole 9 (.take 11 (.take 12 (.take 13 (.take 14 (.take 15 (.take 16 (.take 17 .done)))))))))))))))))) (by kernel_rfl) (by kernel_rfl) (by kernel_rfl) D0.out ?_
    refine plan_row 38 _ bx _ M 38 (by rfl) (by rfl) (by rfl) (by first | (with_reducible exact Mem.ev_const _ _) | (with_reducible exact Mem.ev_zero _ _ _) | (with_reducible (apply Eq.trans (Mem.ev_tmp _ _ _)); simp only [List.getD_cons_succ, List.getD_cons_zero] <;> rfl)) (fun w' hw' => AX6.out.below hw' AX6.out.lt) Tryd.underlying38 (by rfl) (by rw [MS.out]; exact infoRfR) ?_
    (simp only [Act.put, List.setIfInBounds_toArray, List.set_cons_zero, List.set_cons_succ])
    refine plan_row 38 _ bx _ M 38 (by rfl) (by rfl) (by rfl) (by first | (with_reducible exact Mem.ev_const _ _) | (with_reducible exact Mem.ev_zero _ _ _) | (with_reducible (apply Eq.trans (Mem.ev_tmp _ _ _)); simp only [List.getD_cons_succ, List.getD_cons_zero] <;> rfl)) (fun w' hw' => AX6.out.below hw' AX6.out.lt) Tryd.underlying38 (by rfl) (by rw [MS.out]; exact infoRfR) ?_
    (simp only [Act.put, List.setIfInBounds_toArray, List.set_cons_zero, List.set_cons_succ])
    refine plan_call 18 _ _ _ (by kernel_rfl) (by rfl) (by rfl) (by rfl) (by first | exact Mem.ev_none _ | (simp only [List.map_toArray, List.map_cons, List.map_nil, Mem.ev_tmp, List.getD_cons_succ, List.getD_cons_zero] <;> rfl)) ?_
    refine (TH.out _).mono ?_
    rintro o' y1 ⟨rfl, hb⟩
    have D1 : Hid (Below w6.heap.size w6 y1) := Lib.hid (D0.out.trans (hb.mono D0.out.size))
    clear hb
    refine ⟨_, rfl, D1.out, ?_⟩
    (simp only [Act.put, List.setIfInBounds_toArray, List.set_cons_zero, List.set_cons_succ])
    refine plan_call 22 _ _ _ (by kernel_rfl) (by rfl) (by rfl) (by rfl) (by first | exact Mem.ev_none _ | (simp only [List.map_toArray, List.map_cons, List.map_nil, Mem.ev_tmp, List.getD_cons_succ, List.getD_cons_zero] <;> rfl)) ?_
    refine (LY.out _ (CC.out.below T6.out D1.out)).mono ?_
    rintro o' y2 ⟨v2, rfl, hs, hb⟩
    have D2 : Hid (Below w6.heap.size w6 y2) := Lib.hid (D1.out.trans (hb.mono D1.out.size))
    have U1 := Lib.hid hs; have U1B := Lib.hid hb
    clear hs hb
    refine ⟨_, rfl, D2.out, ?_⟩
    (simp only [Act.put, List.setIfInBounds_toArray, List.set_cons_zero, List.set_cons_succ])
    refine plan_call 23 _ _ _ (by kernel_rfl) (by rfl) (by rfl) (by rfl) (by first | exact Mem.ev_none _ | (simp only [List.map_toArray, List.map_cons, List.map_nil, Mem.ev_tmp, List.getD_cons_succ, List.getD_cons_zero] <;> rfl)) ?_
    refine (RLY.out _).mono ?_
    rintro o' y4 ⟨v4, rfl, hs, hb⟩
    have D3 : Hid (Below w6.heap.size w6 y4) := Lib.hid (D2.out.trans (hb.mono D2.out.size))
    have U2 := Lib.hid hs; have U2B := Lib.hid hb
    clear hs hb
    refine ⟨_, rfl, D3.out, ?_⟩
    (simp only [Act.put, List.setIfInBounds_toArray, List.set_cons_zero, List.set_cons_succ])
    refine plan_call 15 _ _ _ (by kernel_rfl) (by rfl) (by rfl) (by rfl) (by first | exact Mem.ev_none _ | (simp only [List.map_toArray, List.map_cons, List.map_nil, Mem.ev_tmp, List.getD_cons_succ, List.getD_cons_zero] <;> rfl)) ?_
    refine (same_any RL RL _ _ _ (U1.out.below U2B.out) U2.out (by rw [RLL.out]; decide) (by rw [RLL.out]; decide)).mono ?_
    rw [sameB_self]
    rintro o' y5 ⟨rfl, hb⟩
    have D4 : Hid (Below w6.heap.size w6 y5) := Lib.hid (D3.out.trans (hb.mono D3.out.size))
    clear hb
    refine ⟨_, rfl, D4.out, ?_⟩
    (simp only [Act.put, List.setIfInBounds_toArray, List.set_cons_zero, List.set_cons_succ])
    refine plan_not_t _ _ (by rfl) (by rfl) (by rfl) (by first | (with_reducible exact Mem.ev_const _ _) | (with_reducible exact Mem.ev_zero _ _ _) | (with_reducible (apply Eq.trans (Mem.ev_tmp _ _ _)); simp only [List.getD_cons_succ, List.getD_cons_zero] <;> rfl)) ?_
    (simp only [Act.put, List.setIfInBounds_toArray, List.set_cons_zero, List.set_cons_succ])
    (first | (refine plan_move _ _ (by rfl) (by rfl) (.inl (by rfl)) (by first | (with_reducible exact Mem.ev_const _ _) | (with_reducible exact Mem.ev_zero _ _ _) | (with_reducible (apply Eq.trans (Mem.ev_tmp _ _ _)); simp only [List.getD_cons_succ, List.getD_cons_zero] <;> rfl)) ?_) | (refine plan_move _ _ (by rfl) (by rfl) (.inr (by rfl)) (by first | (with_reducible exact Mem.ev_const _ _) | (with_reducible exact Mem.ev_zero _ _ _) | (with_reducible (apply Eq.trans (Mem.ev_tmp _ _ _)); simp only [List.getD_cons_succ, List.getD_cons_zero] <;> rfl)) ?_) | (refine plan_pick_t _ _ _ _ (by rfl) (by rfl) (by rfl) (by first | (with_reducible exact Mem.ev_const _ _) | (with_reducible exact Mem.ev_zero _ _ _) | (with_reducible (apply Eq.trans (Mem.ev_tmp _ _ _)); simp only [List.getD_cons_succ, List.getD_cons_zero] <;> rfl)) (by first | (with_reducible exact Mem.ev_const _ _) | (with_reducible exact Mem.ev_zero _ _ _) | (with_reducible (apply Eq.trans (Mem.ev_tmp _ _ _)); simp only [List.getD_cons_succ, List.getD_cons_zero] <;> rfl)) ?_) | (refine plan_pick_f _ _ _ _ (by rfl) (by rfl) (by rfl) (by first | (with_reducible exact Mem.ev_const _ _) | (with_reducible exact Mem.ev_zero _ _ _) | (with_reducible (apply Eq.trans (Mem.ev_tmp _ _ _)); simp only [List.getD_cons_succ, List.getD_cons_zero] <;> rfl)) (by first | (with_reducible exact Mem.ev_const _ _) | (with_reducible exact Mem.ev_zero _ _ _) | (with_reducible (apply Eq.trans (Mem.ev_tmp _ _ _)); simp only [List.getD_cons_succ, List.getD_cons_zero] <;> rfl)) ?_))
    (simp only [Act.put, List.setIfInBounds_toArray, List.set_cons_zero, List.set_cons_succ])
    refine plan_row 35 _ b5 _ X 35 (by rfl) (by rfl) (by rfl) (by first | (with_reducible exact Mem.ev_const _ _) | (with_reducible exact Mem.ev_zero _ _ _) | (with_reducible (apply Eq.trans (Mem.ev_tmp _ _ _)); simp only [List.getD_cons_succ, List.getD_cons_zero] <;> rfl)) (fun w' hw' => A56.out.below hw' A56.out.lt) Tryd.underlying35 (by rfl) (by rw [XS.out]; exact infoRfP) ?_
    (simp only [Act.put, List.setIfInBounds_toArray, List.set_cons_zero, List.set_cons_succ])
    refine plan_row 38 _ b7 _ X 38 (by rfl) (by rfl) (by rfl) (by first | (with_reducible exact Mem.ev_const _ _) | (with_reducible exact Mem.ev_zero _ _ _) | (with_reducible (apply Eq.trans (Mem.ev_tmp _ _ _)); simp only [List.getD_cons_succ, List.getD_cons_zero] <;> rfl)) (fun w' hw' => A76.out.below hw' A76.out.lt) Tryd.underlying38 (by rfl) (by rw [XS.out]; exact infoRfR) ?_
    (simp only [Act.put, List.setIfInBounds_toArray, List.set_cons_zero, List.set_cons_succ])
    refine plan_call 16 _ _ _ (by kernel_rfl) (by rfl) (by rfl) (by rfl) (by first | exact Mem.ev_none _ | (simp only [List.map_toArray, List.map_cons, List.map_nil, Mem.ev_tmp, List.getD_cons_succ, List.getD_cons_zero] <;> rfl)) ?_
    refine (OU.out _).mono ?_
    rintro o' y6 ⟨rfl, hb⟩
    have D6 : Hid (Below w6.heap.size w6 y6) := Lib.hid (D4.out.trans (hb.mono D4.out.size))
    clear hb
    refine ⟨_, rfl, D6.out, ?_⟩
    (simp only [Act.put, List.setIfInBounds_toArray, List.set_cons_zero, List.set_cons_succ])
    refine plan_bin _ _ _ _ _ _ _ (.bool false) (by rfl) (by rfl) (by rfl) (by first | (with_reducible exact Mem.ev_const _ _) | (with_reducible exact Mem.ev_zero _ _ _) | (with_reducible (apply Eq.trans (Mem.ev_tmp _ _ _)); simp only [List.getD_cons_succ, List.getD_cons_zero] <;> rfl)) (by first | (with_reducible exact Mem.ev_const _ _) | (with_reducible exact Mem.ev_zero _ _ _) | (with_reducible (apply Eq.trans (Mem.ev_tmp _ _ _)); simp only [List.getD_cons_succ, List.getD_cons_zero] <;> rfl)) (fun wx => NEQ.out _ _ wx) ?_
    (simp only [Act.put, List.setIfInBounds_toArray, List.set_cons_zero, List.set_cons_succ])
    refine plan_pick_f _ _ _ _ (by rfl) (by rfl) (by rfl) (by first | (with_reducible exact Mem.ev_const _ _) | (with_reducible exact Mem.ev_zero _ _ _) | (with_reducible (apply Eq.trans (Mem.ev_tmp _ _ _)); simp only [List.getD_cons_succ, List.getD_cons_zero] <;> rfl)) (by first | (with_reducible exact Mem.ev_const _ _) | (with_reducible exact Mem.ev_zero _ _ _) | (with_reducible (apply Eq.trans (Mem.ev_tmp _ _ _)); simp only [List.getD_cons_succ, List.getD_cons_zero] <;> rfl)) ?_
    (simp only [Act.put, List.setIfInBounds_toArray, List.set_cons_zero, List.set_cons_succ])
    (first | (refine plan_move _ _ (by rfl) (by rfl) (.inl (by rfl)) (by first | (with_reducible exact Mem.ev_const _ _) | (with_reducible exact Mem.ev_zero _ _ _) | (with_reducible (apply Eq.trans (Mem.ev_tmp _ _ _)); simp only [List.getD_cons_succ, List.getD_cons_zero] <;> rfl)) ?_) | (refine plan_move _ _ (by rfl) (by rfl) (.inr (by rfl)) (by first | (with_reducible exact Mem.ev_const _ _) | (with_reducible exact Mem.ev_zero _ _ _) | (with_reducible (apply Eq.trans (Mem.ev_tmp _ _ _)); simp only [List.getD_cons_succ, List.getD_cons_zero] <;> rfl)) ?_) | (refine plan_pick_t _ _ _ _ (by rfl) (by rfl) (by rfl) (by first | (with_reducible exact Mem.ev_const _ _) | (with_reducible exact Mem.ev_zero _ _ _) | (with_reducible (apply Eq.trans (Mem.ev_tmp _ _ _)); simp only [List.getD_cons_succ, List.getD_cons_zero] <;> rfl)) (by first | (with_reducible exact Mem.ev_const _ _) | (with_reducible exact Mem.ev_zero _ _ _) | (with_reducible (apply Eq.trans (Mem.ev_tmp _ _ _)); simp only [List.getD_cons_succ, List.getD_cons_zero] <;> rfl)) ?_) | (refine plan_pick_f _ _ _ _ (by rfl) (by rfl) (by rfl) (by first | (with_reducible exact Mem.ev_const _ _) | (with_reducible exact Mem.ev_zero _ _ _) | (with_reducible (apply Eq.trans (Mem.ev_tmp _ _ _)); simp only [List.getD_cons_succ, List.getD_cons_zero] <;> rfl)) (by first | (with_reducible exact Mem.ev_const _ _) | (with_reducible exact Mem.ev_zero _ _ _) | (with_reducible (apply Eq.trans (Mem.ev_tmp _ _ _)); simp only [List.getD_cons_succ, List.getD_cons_zero] <;> rfl)) ?_))
    (simp only [Act.put, List.setIfInBounds_toArray, List.set_cons_zero, List.set_cons_succ])
    (first | (refine plan_move _ _ (by rfl) (by rfl) (.inl (by rfl)) (by first | (with_reducible exact Mem.ev_const _ _) | (with_reducible exact Mem.ev_zero _ _ _) | (with_reducible (apply Eq.trans (Mem.ev_tmp _ _ _)); simp only [List.getD_cons_succ, List.getD_cons_zero] <;> rfl)) ?_) | (refine plan_move _ _ (by rfl) (by rfl) (.inr (by rfl)) (by first | (with_reducible exact Mem.ev_const _ _) | (with_reducible exact Mem.ev_zero _ _ _) | (with_reducible (apply Eq.trans (Mem.ev_tmp _ _ _)); simp only [List.getD_cons_succ, List.getD_cons_zero] <;> rfl)) ?_) | (refine plan_pick_t _ _ _ _ (by rfl) (by rfl) (by rfl) (by first | (with_reducible exact Mem.ev_const _ _) | (with_reducible exact Mem.ev_zero _ _ _) | (with_reducible (apply Eq.trans (Mem.ev_tmp _ _ _)); simp only [List.getD_cons_succ, List.getD_cons_zero] <;> rfl)) (by first | (with_reducible exact Mem.ev_const _ _) | (with_reducible exact Mem.ev_zero _ _ _) | (with_reducible (apply Eq.trans (Mem.ev_tmp _ _ _)); simp only [List.getD_cons_succ, List.getD_cons_zero] <;> rfl)) ?_) | (refine plan_pick_f _ _ _ _ (by rfl) (by rfl) (by rfl) (by first | (with_reducible exact Mem.ev_const _ _) | (with_reducible exact Mem.ev_zero _ _ _) | (with_reducible (apply Eq.trans (Mem.ev_tmp _ _ _)); simp only [List.getD_cons_succ, List.getD_cons_zero] <;> rfl)) (by first | (with_reducible exact Mem.ev_const _ _) | (with_reducible exact Mem.ev_zero _ _ _) | (with_reducible (apply Eq.trans (Mem.ev_tmp _ _ _)); simp only [List.getD_cons_succ, List.getD_cons_zero] <;> rfl)) ?_))
    (simp only [Act.put, List.setIfInBounds_toArray, List.set_cons_zero, List.set_cons_succ])
    (first | (refine plan_move _ _ (by rfl) (by rfl) (.inl (by rfl)) (by first | (with_reducible exact Mem.ev_const _ _) | (with_reducible exact Mem.ev_zero _ _ _) | (with_reducible (apply Eq.trans (Mem.ev_tmp _ _ _)); simp only [List.getD_cons_succ, List.getD_cons_zero] <;> rfl)) ?_) | (refine plan_move _ _ (by rfl) (by rfl) (.inr (by rfl)) (by first | (with_reducible exact Mem.ev_const _ _) | (with_reducible exact Mem.ev_zero _ _ _) | (with_reducible (apply Eq.trans (Mem.ev_tmp _ _ _)); simp only [List.getD_cons_succ, List.getD_cons_zero] <;> rfl)) ?_) | (refine plan_pick_t _ _ _ _ (by rfl) (by rfl) (by rfl) (by first | (with_reducible exact Mem.ev_const _ _) | (with_reducible exact Mem.ev_zero _ _ _) | (with_reducible (apply Eq.trans (Mem.ev_tmp _ _ _)); simp only [List.getD_cons_succ, List.getD_cons_zero] <;> rfl)) (by first | (with_reducible exact Mem.ev_const _ _) | (with_reducible exact Mem.ev_zero _ _ _) | (with_reducible (apply Eq.trans (Mem.ev_tmp _ _ _)); simp only [List.getD_cons_succ, List.getD_cons_zero] <;> rfl)) ?_) | (refine plan_pick_f _ _ _ _ (by rfl) (by rfl) (by rfl) (by first | (with_reducible exact Mem.ev_const _ _) | (with_reducible exact Mem.ev_zero _ _ _) | (with_reducible (apply Eq.trans (Mem.ev_tmp _ _ _)); simp only [List.getD_cons_succ, List.getD_cons_zero] <;> rfl)) (by first | (with_reducible exact Mem.ev_const _ _) | (with_reducible exact Mem.ev_zero _ _ _) | (with_reducible (apply Eq.trans (Mem.ev_tmp _ _ _)); simp only [List.getD_cons_succ, List.getD_cons_zero] <;> rfl)) ?_))
    (simp only [Act.put, List.setIfInBounds_toArray, List.set_cons_zero, List.set_cons_succ])
    refine plan_bin _ _ _ _ _ _ _ (.bool false) (by rfl) (by rfl) (by rfl) (by first | (with_reducible exact Mem.ev_const _ _) | (with_reducible exact Mem.ev_zero _ _ _) | (with_reducible (apply Eq.trans (Mem.ev_tmp _ _ _)); simp only [List.getD_cons_succ, List.getD_cons_zero] <;> rfl)) (by first | (with_reducible exact Mem.ev_const _ _) | (with_reducible exact Mem.ev_zero _ _ _) | (with_reducible (apply Eq.trans (Mem.ev_tmp _ _ _)); simp only [List.getD_cons_succ, List.getD_cons_zero] <;> rfl)) (fun wx => o_neqI _ _ _ _ _ wx) ?_
    (simp only [Act.put, List.setIfInBounds_toArray, List.set_cons_zero, List.set_cons_succ])
    refine plan_pick_f _ _ _ _ (by rfl) (by rfl) (by rfl) (by first | (with_reducible exact Mem.ev_const _ _) | (with_reducible exact Mem.ev_zero _ _ _) | (with_reducible (apply Eq.trans (Mem.ev_tmp _ _ _)); simp only [List.getD_cons_succ, List.getD_cons_zero] <;> rfl)) (by first | (with_reducible exact Mem.ev_const _ _) | (with_reducible exact Mem.ev_zero _ _ _) | (with_reducible (apply Eq.trans (Mem.ev_tmp _ _ _)); simp only [List.getD_cons_succ, List.getD_cons_zero] <;> rfl)) ?_
    (simp only [Act.put, List.setIfInBounds_toArray, List.set_cons_zero, List.set_cons_succ])
    refine plan_nil ?_
    have S7 := Lib.hid (S6.out.below D6.out); have T7 := Lib.hid (CC.out.below T6.out D6.out); have AX7 := Lib.hid (AX6.out.below D6.out AX6.out.lt); have BX7 := Lib.hid (BX6.out.trans (D6.out.mono BX6.out.size)); have A57 := Lib.hid (A56.out.below D6.out A56.out.lt)
    clear D6 S6 T6 AX6 BX6 A56 A76 D0 U1 U2
    go_wp2_with (refine wpList_load_all (by rfl) 38 _ (by rfl) bx (by rfl) _ Tryd.underlying38 (by rfl) M _ AX7.out (by rw [MS.out]; exact infoRfR) ?_)
    refine (TH.out y6).mono ?_
    rintro e w8 ⟨rfl, hb8⟩
    have T8 := Lib.hid (CC.out.below T7.out hb8)
    have S8 := Lib.hid (S7.out.below hb8); have AX8 := Lib.hid (AX7.out.below hb8 AX7.out.lt); have BX8 := Lib.hid (BX7.out.trans (hb8.mono BX7.out.size)); have A58 := Lib.hid (A57.out.below hb8 A57.out.lt)
    clear hb8 S7 T7 AX7 BX7 A57
    go_wp2_with fail
    refine (LY.out w8 T8.out).mono ?_
    rintro e w9 ⟨v9, rfl, hs9, hb9⟩
    have V9 := Lib.hid hs9; have T9 := Lib.hid (CC.out.below T8.out hb9)
    have S9 := Lib.hid (S8.out.below hb9); have AX9 := Lib.hid (AX8.out.below hb9 AX8.out.lt); have BX9 := Lib.hid (BX8.out.trans (hb9.mono BX8.out.size)); have A59 := Lib.hid (A58.out.below hb9 A58.out.lt)
    clear hs9 hb9 S8 T8 AX8 BX8 A58
    go_wp2_with fail
    refine (PZ.out w9 v9 V9.out T9.out).mono ?_
    rintro e w10 ⟨rfl, hb10⟩
    have hal : Below w10.heap.size w10 (w10.alloc (.cells Y 35)) := (Below.refl _ _).alloc (Nat.le_refl _) _
    have hb11 := hb10.trans (hal.mono hb10.size)
    have S11 := Lib.hid (S9.out.below hb11); have T11 := Lib.hid (CC.out.below T9.out hb11); have AX11 := Lib.hid (AX9.out.below hb11 AX9.out.lt); have BX11 := Lib.hid (BX9.out.trans (hb11.mono BX9.out.size)); have A511 := Lib.hid (A59.out.below hb11 A59.out.lt); have A9 := Lib.hid (at_new w10 Y 35)
    clear hb10 hal hb11 S9 T9 AX9 BX9 A59 V9 PZ
    have k0 : (w10.alloc (.cells Y 35)).cell? ⟨bx, 0, none⟩ = some (.int .i64 pl) := (AX11.out.cell 0).trans H0.out
    by_cases hp : pl = 0 ∨ pl = 1
    · have hzq := HZR.out hp
      have eq0 : Hid (∀ (p q : Operand) (wx : World), (do eqGuard .eql 35 p q (.agg Y) (.agg M); binOp .eql 35 (.agg Y) (.agg M) : Sem Value).run Tryd.prog wx = .ok (.bool true) wx) := Lib.hid (EQZ.out hzq.1)
      obtain ⟨_, rfl⟩ := hzq
      rcases hp with rfl | rfl
      · go_wp2_with (refine wpList_store_new (by rfl) 35 _ _ (by rfl) (by rfl) Y _ _ (by rfl) (by rfl) (by rw [YS.out]; exact infoRfP) (by rw [YS.out, ZS.out]) YO.out ?_; clear hxP; generalize w10.alloc (.cells Y 35) = w11 at *; generalize w10.heap.size = b9 at *; have D0 : Hid (Below w11.heap.size w11 w11.drew) := Lib.hid (Below.refl _ _).drew)
        refine wp_region_plan_in (fun x' => Below w11.heap.size w11 x') (.take 0 (.take 1 (.sole 2 (.take 3 (.take 4 (.take 5 (.take 6 (.take 7 (.take 8 (.sole 9 (.take 10 (.take 11 .done)))))))))))) (by kernel_rfl) (by kernel_rfl) (by kernel_rfl) D0.out ?_
        refine plan_row 35 _ b9 _ Y 35 (by rfl) (by rfl) (by rfl) (by first | (with_reducible exact Mem.ev_const _ _) | (with_reducible exact Mem.ev_zero _ _ _) | (with_reducible (apply Eq.trans (Mem.ev_tmp _ _ _)); simp only [List.getD_cons_succ, List.getD_cons_zero] <;> rfl)) (fun w' hw' => A9.out.below hw' A9.out.lt) Tryd.underlying35 (by rfl) (by rw [YS.out]; exact infoRfP) ?_
        (simp only [Act.put, List.setIfInBounds_toArray, List.set_cons_zero, List.set_cons_succ])
        refine plan_row 38 _ bx _ M 38 (by rfl) (by rfl) (by rfl) (by first | (with_reducible exact Mem.ev_const _ _) | (with_reducible exact Mem.ev_zero _ _ _) | (with_reducible (apply Eq.trans (Mem.ev_tmp _ _ _)); simp only [List.getD_cons_succ, List.getD_cons_zero] <;> rfl)) (fun w' hw' => AX11.out.below hw' AX11.out.lt) Tryd.underlying38 (by rfl) (by rw [MS.out]; exact infoRfR) ?_
        (simp only [Act.put, List.setIfInBounds_toArray, List.set_cons_zero, List.set_cons_succ])
        refine plan_call 18 _ _ _ (by kernel_rfl) (by rfl) (by rfl) (by rfl) (by first | exact Mem.ev_none _ | (simp only [List.map_toArray, List.map_cons, List.map_nil, Mem.ev_tmp, List.getD_cons_succ, List.getD_cons_zero] <;> rfl)) ?_
        refine (TH.out _).mono ?_
        rintro o' y1 ⟨rfl, hb⟩
        have D1 : Hid (Below w11.heap.size w11 y1) := Lib.hid (D0.out.trans (hb.mono D0.out.size))
        clear hb
        refine ⟨_, rfl, D1.out, ?_⟩
        (simp only [Act.put, List.setIfInBounds_toArray, List.set_cons_zero, List.set_cons_succ])
        refine plan_bin _ _ _ _ _ _ _ (.bool true) (by rfl) (by rfl) (by rfl) (by first | (with_reducible exact Mem.ev_const _ _) | (with_reducible exact Mem.ev_zero _ _ _) | (with_reducible (apply Eq.trans (Mem.ev_tmp _ _ _)); simp only [List.getD_cons_succ, List.getD_cons_zero] <;> rfl)) (by first | (with_reducible exact Mem.ev_const _ _) | (with_reducible exact Mem.ev_zero _ _ _) | (with_reducible (apply Eq.trans (Mem.ev_tmp _ _ _)); simp only [List.getD_cons_succ, List.getD_cons_zero] <;> rfl)) (fun wx => eq0.out _ _ wx) ?_
        (simp only [Act.put, List.setIfInBounds_toArray, List.set_cons_zero, List.set_cons_succ])
        (first | (refine plan_move _ _ (by rfl) (by rfl) (.inl (by rfl)) (by first | (with_reducible exact Mem.ev_const _ _) | (with_reducible exact Mem.ev_zero _ _ _) | (with_reducible (apply Eq.trans (Mem.ev_tmp _ _ _)); simp only [List.getD_cons_succ, List.getD_cons_zero] <;> rfl)) ?_) | (refine plan_move _ _ (by rfl) (by rfl) (.inr (by rfl)) (by first | (with_reducible exact Mem.ev_const _ _) | (with_reducible exact Mem.ev_zero _ _ _) | (with_reducible (apply Eq.trans (Mem.ev_tmp _ _ _)); simp only [List.getD_cons_succ, List.getD_cons_zero] <;> rfl)) ?_) | (refine plan_pick_t _ _ _ _ (by rfl) (by rfl) (by rfl) (by first | (with_reducible exact Mem.ev_const _ _) | (with_reducible exact Mem.ev_zero _ _ _) | (with_reducible (apply Eq.trans (Mem.ev_tmp _ _ _)); simp only [List.getD_cons_succ, List.getD_cons_zero] <;> rfl)) (by first | (with_reducible exact Mem.ev_const _ _) | (with_reducible exact Mem.ev_zero _ _ _) | (with_reducible (apply Eq.trans (Mem.ev_tmp _ _ _)); simp only [List.getD_cons_succ, List.getD_cons_zero] <;> rfl)) ?_) | (refine plan_pick_f _ _ _ _ (by rfl) (by rfl) (by rfl) (by first | (with_reducible exact Mem.ev_const _ _) | (with_reducible exact Mem.ev_zero _ _ _) | (with_reducible (apply Eq.trans (Mem.ev_tmp _ _ _)); simp only [List.getD_cons_succ, List.getD_cons_zero] <;> rfl)) (by first | (with_reducible exact Mem.ev_const _ _) | (with_reducible exact Mem.ev_zero _ _ _) | (with_reducible (apply Eq.trans (Mem.ev_tmp _ _ _)); simp only [List.getD_cons_succ, List.getD_cons_zero] <;> rfl)) ?_))
        (simp only [Act.put, List.setIfInBounds_toArray, List.set_cons_zero, List.set_cons_succ])
        (first | (refine plan_move _ _ (by rfl) (by rfl) (.inl (by rfl)) (by first | (with_reducible exact Mem.ev_const _ _) | (with_reducible exact Mem.ev_zero _ _ _) | (with_reducible (apply Eq.trans (Mem.ev_tmp _ _ _)); simp only [List.getD_cons_succ, List.getD_cons_zero] <;> rfl)) ?_) | (refine plan_move _ _ (by rfl) (by rfl) (.inr (by rfl)) (by first | (with_reducible exact Mem.ev_const _ _) | (with_reducible exact Mem.ev_zero _ _ _) | (with_reducible (apply Eq.trans (Mem.ev_tmp _ _ _)); simp only [List.getD_cons_succ, List.getD_cons_zero] <;> rfl)) ?_) | (refine plan_pick_t _ _ _ _ (by rfl) (by rfl) (by rfl) (by first | (with_reducible exact Mem.ev_const _ _) | (with_reducible exact Mem.ev_zero _ _ _) | (with_reducible (apply Eq.trans (Mem.ev_tmp _ _ _)); simp only [List.getD_cons_succ, List.getD_cons_zero] <;> rfl)) (by first | (with_reducible exact Mem.ev_const _ _) | (with_reducible exact Mem.ev_zero _ _ _) | (with_reducible (apply Eq.trans (Mem.ev_tmp _ _ _)); simp only [List.getD_cons_succ, List.getD_cons_zero] <;> rfl)) ?_) | (refine plan_pick_f _ _ _ _ (by rfl) (by rfl) (by rfl) (by first | (with_reducible exact Mem.ev_const _ _) | (with_reducible exact Mem.ev_zero _ _ _) | (with_reducible (apply Eq.trans (Mem.ev_tmp _ _ _)); simp only [List.getD_cons_succ, List.getD_cons_zero] <;> rfl)) (by first | (with_reducible exact Mem.ev_const _ _) | (with_reducible exact Mem.ev_zero _ _ _) | (with_reducible (apply Eq.trans (Mem.ev_tmp _ _ _)); simp only [List.getD_cons_succ, List.getD_cons_zero] <;> rfl)) ?_))
        (simp only [Act.put, List.setIfInBounds_toArray, List.set_cons_zero, List.set_cons_succ])
        refine plan_bin _ _ _ _ _ _ _ (.bool true) (by rfl) (by rfl) (by rfl) (by first | (with_reducible exact Mem.ev_const _ _) | (with_reducible exact Mem.ev_zero _ _ _) | (with_reducible (apply Eq.trans (Mem.ev_tmp _ _ _)); simp only [List.getD_cons_succ, List.getD_cons_zero] <;> rfl)) (by rfl) (fun wx => o_eqlI _ _ _ _ _ wx) ?_
        (simp only [Act.put, List.setIfInBounds_toArray, List.set_cons_zero, List.set_cons_succ])
        refine plan_pick_t _ _ _ _ (by rfl) (by rfl) (by rfl) (by first | (with_reducible exact Mem.ev_const _ _) | (with_reducible exact Mem.ev_zero _ _ _) | (with_reducible (apply Eq.trans (Mem.ev_tmp _ _ _)); simp only [List.getD_cons_succ, List.getD_cons_zero] <;> rfl)) (by first | (with_reducible exact Mem.ev_const _ _) | (with_reducible exact Mem.ev_zero _ _ _) | (with_reducible (apply Eq.trans (Mem.ev_tmp _ _ _)); simp only [List.getD_cons_succ, List.getD_cons_zero] <;> rfl)) ?_
        (simp only [Act.put, List.setIfInBounds_toArray, List.set_cons_zero, List.set_cons_succ])
        (first | (refine plan_move _ _ (by rfl) (by rfl) (.inl (by rfl)) (by first | (with_reducible exact Mem.ev_const _ _) | (with_reducible exact Mem.ev_zero _ _ _) | (with_reducible (apply Eq.trans (Mem.ev_tmp _ _ _)); simp only [List.getD_cons_succ, List.getD_cons_zero] <;> rfl)) ?_) | (refine plan_move _ _ (by rfl) (by rfl) (.inr (by rfl)) (by first | (with_reducible exact Mem.ev_const _ _) | (with_reducible exact Mem.ev_zero _ _ _) | (with_reducible (apply Eq.trans (Mem.ev_tmp _ _ _)); simp only [List.getD_cons_succ, List.getD_cons_zero] <;> rfl)) ?_) | (refine plan_pick_t _ _ _ _ (by rfl) (by rfl) (by rfl) (by first | (with_reducible exact Mem.ev_const _ _) | (with_reducible exact Mem.ev_zero _ _ _) | (with_reducible (apply Eq.trans (Mem.ev_tmp _ _ _)); simp only [List.getD_cons_succ, List.getD_cons_zero] <;> rfl)) (by first | (with_reducible exact Mem.ev_const _ _) | (with_reducible exact Mem.ev_zero _ _ _) | (with_reducible (apply Eq.trans (Mem.ev_tmp _ _ _)); simp only [List.getD_cons_succ, List.getD_cons_zero] <;> rfl)) ?_) | (refine plan_pick_f _ _ _ _ (by rfl) (by rfl) (by rfl) (by first | (with_reducible exact Mem.ev_const _ _) | (with_reducible exact Mem.ev_zero _ _ _) | (with_reducible (apply Eq.trans (Mem.ev_tmp _ _ _)); simp only [List.getD_cons_succ, List.getD_cons_zero] <;> rfl)) (by first | (with_reducible exact Mem.ev_const _ _) | (with_reducible exact Mem.ev_zero _ _ _) | (with_reducible (apply Eq.trans (Mem.ev_tmp _ _ _)); simp only [List.getD_cons_succ, List.getD_cons_zero] <;> rfl)) ?_))
        (simp only [Act.put, List.setIfInBounds_toArray, List.set_cons_zero, List.set_cons_succ])
        refine plan_call 9 _ _ _ (by kernel_rfl) (by rfl) (by rfl) (by rfl) (by first | exact Mem.ev_none _ | (simp only [List.map_toArray, List.map_cons, List.map_nil, Mem.ev_tmp, List.getD_cons_succ, List.getD_cons_zero] <;> rfl)) ?_
        refine (ALV.out _ (CC.out.below T11.out D1.out)).mono ?_
        rintro o' y2 ⟨rfl, hb⟩
        have D2 : Hid (Below w11.heap.size w11 y2) := Lib.hid (D1.out.trans (hb.mono D1.out.size))
        clear hb
        refine ⟨_, rfl, D2.out, ?_⟩
        (simp only [Act.put, List.setIfInBounds_toArray, List.set_cons_zero, List.set_cons_succ])
        refine plan_pick_t _ _ _ _ (by rfl) (by rfl) (by rfl) (by first | (with_reducible exact Mem.ev_const _ _) | (with_reducible exact Mem.ev_zero _ _ _) | (with_reducible (apply Eq.trans (Mem.ev_tmp _ _ _)); simp only [List.getD_cons_succ, List.getD_cons_zero] <;> rfl)) (by first | (with_reducible exact Mem.ev_const _ _) | (with_reducible exact Mem.ev_zero _ _ _) | (with_reducible (apply Eq.trans (Mem.ev_tmp _ _ _)); simp only [List.getD_cons_succ, List.getD_cons_zero] <;> rfl)) ?_
        (simp only [Act.put, List.setIfInBounds_toArray, List.set_cons_zero, List.set_cons_succ])
        (first | (refine plan_move _ _ (by rfl) (by rfl) (.inl (by rfl)) (by first | (with_reducible exact Mem.ev_const _ _) | (with_reducible exact Mem.ev_zero _ _ _) | (with_reducible (apply Eq.trans (Mem.ev_tmp _ _ _)); simp only [List.getD_cons_succ, List.getD_cons_zero] <;> rfl)) ?_) | (refine plan_move _ _ (by rfl) (by rfl) (.inr (by rfl)) (by first | (with_reducible exact Mem.ev_const _ _) | (with_reducible exact Mem.ev_zero _ _ _) | (with_reducible (apply Eq.trans (Mem.ev_tmp _ _ _)); simp only [List.getD_cons_succ, List.getD_cons_zero] <;> rfl)) ?_) | (refine plan_pick_t _ _ _ _ (by rfl) (by rfl) (by rfl) (by first | (with_reducible exact Mem.ev_const _ _) | (with_reducible exact Mem.ev_zero _ _ _) | (with_reducible (apply Eq.trans (Mem.ev_tmp _ _ _)); simp only [List.getD_cons_succ, List.getD_cons_zero] <;> rfl)) (by first | (with_reducible exact Mem.ev_const _ _) | (with_reducible exact Mem.ev_zero _ _ _) | (with_reducible (apply Eq.trans (Mem.ev_tmp _ _ _)); simp only [List.getD_cons_succ, List.getD_cons_zero] <;> rfl)) ?_) | (refine plan_pick_f _ _ _ _ (by rfl) (by rfl) (by rfl) (by first | (with_reducible exact Mem.ev_const _ _) | (with_reducible exact Mem.ev_zero _ _ _) | (with_reducible (apply Eq.trans (Mem.ev_tmp _ _ _)); simp only [List.getD_cons_succ, List.getD_cons_zero] <;> rfl)) (by first | (with_reducible exact Mem.ev_const _ _) | (with_reducible exact Mem.ev_zero _ _ _) | (with_reducible (apply Eq.trans (Mem.ev_tmp _ _ _)); simp only [List.getD_cons_succ, List.getD_cons_zero] <;> rfl)) ?_))
        (simp only [Act.put, List.setIfInBounds_toArray, List.set_cons_zero, List.set_cons_succ])
        refine plan_nil ?_
        go_wp2_with fail
        go_ret
        exact ⟨rfl, BX11.out.trans (D2.out.mono BX11.out.size)⟩
      · go_wp2_with (refine wpList_store_new (by rfl) 35 _ _ (by rfl) (by rfl) Y _ _ (by rfl) (by rfl) (by rw [YS.out]; exact infoRfP) (by rw [YS.out, ZS.out]) YO.out ?_; clear hxP; generalize w10.alloc (.cells Y 35) = w11 at *; generalize w10.heap.size = b9 at *; have D0 : Hid (Below w11.heap.size w11 w11.drew) := Lib.hid (Below.refl _ _).drew)
        refine wp_region_plan_in (fun x' => Below w11.heap.size w11 x') (.take 0 (.take 1 (.sole 2 (.take 3 (.take 4 (.take 5 (.take 6 (.take 7 (.take 8 (.sole 9 (.take 10 (.take 11 .done)))))))))))) (by kernel_rfl) (by kernel_rfl) (by kernel_rfl) D0.out ?_
        refine plan_row 35 _ b9 _ Y 35 (by rfl) (by rfl) (by rfl) (by first | (with_reducible exact Mem.ev_const _ _) | (with_reducible exact Mem.ev_zero _ _ _) | (with_reducible (apply Eq.trans (Mem.ev_tmp _ _ _)); simp only [List.getD_cons_succ, List.getD_cons_zero] <;> rfl)) (fun w' hw' => A9.out.below hw' A9.out.lt) Tryd.underlying35 (by rfl) (by rw [YS.out]; exact infoRfP) ?_
        (simp only [Act.put, List.setIfInBounds_toArray, List.set_cons_zero, List.set_cons_succ])
        refine plan_row 38 _ bx _ M 38 (by rfl) (by rfl) (by rfl) (by first | (with_reducible exact Mem.ev_const _ _) | (with_reducible exact Mem.ev_zero _ _ _) | (with_reducible (apply Eq.trans (Mem.ev_tmp _ _ _)); simp only [List.getD_cons_succ, List.getD_cons_zero] <;> rfl)) (fun w' hw' => AX11.out.below hw' AX11.out.lt) Tryd.underlying38 (by rfl) (by rw [MS.out]; exact infoRfR) ?_
        (simp only [Act.put, List.setIfInBounds_toArray, List.set_cons_zero, List.set_cons_succ])
        refine plan_call 18 _ _ _ (by kernel_rfl) (by rfl) (by rfl) (by rfl) (by first | exact Mem.ev_none _ | (simp only [List.map_toArray, List.map_cons, List.map_nil, Mem.ev_tmp, List.getD_cons_succ, List.getD_cons_zero] <;> rfl)) ?_
        refine (TH.out _).mono ?_
        rintro o' y1 ⟨rfl, hb⟩
        have D1 : Hid (Below w11.heap.size w11 y1) := Lib.hid (D0.out.trans (hb.mono D0.out.size))
        clear hb
        refine ⟨_, rfl, D1.out, ?_⟩
        (simp only [Act.put, List.setIfInBounds_toArray, List.set_cons_zero, List.set_cons_succ])
        refine plan_bin _ _ _ _ _ _ _ (.bool true) (by rfl) (by rfl) (by rfl) (by first | (with_reducible exact Mem.ev_const _ _) | (with_reducible exact Mem.ev_zero _ _ _) | (with_reducible (apply Eq.trans (Mem.ev_tmp _ _ _)); simp only [List.getD_cons_succ, List.getD_cons_zero] <;> rfl)) (by first | (with_reducible exact Mem.ev_const _ _) | (with_reducible exact Mem.ev_zero _ _ _) | (with_reducible (apply Eq.trans (Mem.ev_tmp _ _ _)); simp only [List.getD_cons_succ, List.getD_cons_zero] <;> rfl)) (fun wx => eq0.out _ _ wx) ?_
        (simp only [Act.put, List.setIfInBounds_toArray, List.set_cons_zero, List.set_cons_succ])
        (first | (refine plan_move _ _ (by rfl) (by rfl) (.inl (by rfl)) (by first | (with_reducible exact Mem.ev_const _ _) | (with_reducible exact Mem.ev_zero _ _ _) | (with_reducible (apply Eq.trans (Mem.ev_tmp _ _ _)); simp only [List.getD_cons_succ, List.getD_cons_zero] <;> rfl)) ?_) | (refine plan_move _ _ (by rfl) (by rfl) (.inr (by rfl)) (by first | (with_reducible exact Mem.ev_const _ _) | (with_reducible exact Mem.ev_zero _ _ _) | (with_reducible (apply Eq.trans (Mem.ev_tmp _ _ _)); simp only [List.getD_cons_succ, List.getD_cons_zero] <;> rfl)) ?_) | (refine plan_pick_t _ _ _ _ (by rfl) (by rfl) (by rfl) (by first | (with_reducible exact Mem.ev_const _ _) | (with_reducible exact Mem.ev_zero _ _ _) | (with_reducible (apply Eq.trans (Mem.ev_tmp _ _ _)); simp only [List.getD_cons_succ, List.getD_cons_zero] <;> rfl)) (by first | (with_reducible exact Mem.ev_const _ _) | (with_reducible exact Mem.ev_zero _ _ _) | (with_reducible (apply Eq.trans (Mem.ev_tmp _ _ _)); simp only [List.getD_cons_succ, List.getD_cons_zero] <;> rfl)) ?_) | (refine plan_pick_f _ _ _ _ (by rfl) (by rfl) (by rfl) (by first | (with_reducible exact Mem.ev_const _ _) | (with_reducible exact Mem.ev_zero _ _ _) | (with_reducible (apply Eq.trans (Mem.ev_tmp _ _ _)); simp only [List.getD_cons_succ, List.getD_cons_zero] <;> rfl)) (by first | (with_reducible exact Mem.ev_const _ _) | (with_reducible exact Mem.ev_zero _ _ _) | (with_reducible (apply Eq.trans (Mem.ev_tmp _ _ _)); simp only [List.getD_cons_succ, List.getD_cons_zero] <;> rfl)) ?_))
        (simp only [Act.put, List.setIfInBounds_toArray, List.set_cons_zero, List.set_cons_succ])
        (first | (refine plan_move _ _ (by rfl) (by rfl) (.inl (by rfl)) (by first | (with_reducible exact Mem.ev_const _ _) | (with_reducible exact Mem.ev_zero _ _ _) | (with_reducible (apply Eq.trans (Mem.ev_tmp _ _ _)); simp only [List.getD_cons_succ, List.getD_cons_zero] <;> rfl)) ?_) | (refine plan_move _ _ (by rfl) (by rfl) (.inr (by rfl)) (by first | (with_reducible exact Mem.ev_const _ _) | (with_reducible exact Mem.ev_zero _ _ _) | (with_reducible (apply Eq.trans (Mem.ev_tmp _ _ _)); simp only [List.getD_cons_succ, List.getD_cons_zero] <;> rfl)) ?_) | (refine plan_pick_t _ _ _ _ (by rfl) (by rfl) (by rfl) (by first | (with_reducible exact Mem.ev_const _ _) | (with_reducible exact Mem.ev_zero _ _ _) | (with_reducible (apply Eq.trans (Mem.ev_tmp _ _ _)); simp only [List.getD_cons_succ, List.getD_cons_zero] <;> rfl)) (by first | (with_reducible exact Mem.ev_const _ _) | (with_reducible exact Mem.ev_zero _ _ _) | (with_reducible (apply Eq.trans (Mem.ev_tmp _ _ _)); simp only [List.getD_cons_succ, List.getD_cons_zero] <;> rfl)) ?_) | (refine plan_pick_f _ _ _ _ (by rfl) (by rfl) (by rfl) (by first | (with_reducible exact Mem.ev_const _ _) | (with_reducible exact Mem.ev_zero _ _ _) | (with_reducible (apply Eq.trans (Mem.ev_tmp _ _ _)); simp only [List.getD_cons_succ, List.getD_cons_zero] <;> rfl)) (by first | (with_reducible exact Mem.ev_const _ _) | (with_reducible exact Mem.ev_zero _ _ _) | (with_reducible (apply Eq.trans (Mem.ev_tmp _ _ _)); simp only [List.getD_cons_succ, List.getD_cons_zero] <;> rfl)) ?_))
        (simp only [Act.put, List.setIfInBounds_toArray, List.set_cons_zero, List.set_cons_succ])
        refine plan_bin _ _ _ _ _ _ _ (.bool true) (by rfl) (by rfl) (by rfl) (by first | (with_reducible exact Mem.ev_const _ _) | (with_reducible exact Mem.ev_zero _ _ _) | (with_reducible (apply Eq.trans (Mem.ev_tmp _ _ _)); simp only [List.getD_cons_succ, List.getD_cons_zero] <;> rfl)) (by rfl) (fun wx => o_eqlI _ _ _ _ _ wx) ?_
        (simp only [Act.put, List.setIfInBounds_toArray, List.set_cons_zero, List.set_cons_succ])
        refine plan_pick_t _ _ _ _ (by rfl) (by rfl) (by rfl) (by first | (with_reducible exact Mem.ev_const _ _) | (with_reducible exact Mem.ev_zero _ _ _) | (with_reducible (apply Eq.trans (Mem.ev_tmp _ _ _)); simp only [List.getD_cons_succ, List.getD_cons_zero] <;> rfl)) (by first | (with_reducible exact Mem.ev_const _ _) | (with_reducible exact Mem.ev_zero _ _ _) | (with_reducible (apply Eq.trans (Mem.ev_tmp _ _ _)); simp only [List.getD_cons_succ, List.getD_cons_zero] <;> rfl)) ?_
        (simp only [Act.put, List.setIfInBounds_toArray, List.set_cons_zero, List.set_cons_succ])
        (first | (refine plan_move _ _ (by rfl) (by rfl) (.inl (by rfl)) (by first | (with_reducible exact Mem.ev_const _ _) | (with_reducible exact Mem.ev_zero _ _ _) | (with_reducible (apply Eq.trans (Mem.ev_tmp _ _ _)); simp only [List.getD_cons_succ, List.getD_cons_zero] <;> rfl)) ?_) | (refine plan_move _ _ (by rfl) (by rfl) (.inr (by rfl)) (by first | (with_reducible exact Mem.ev_const _ _) | (with_reducible exact Mem.ev_zero _ _ _) | (with_reducible (apply Eq.trans (Mem.ev_tmp _ _ _)); simp only [List.getD_cons_succ, List.getD_cons_zero] <;> rfl)) ?_) | (refine plan_pick_t _ _ _ _ (by rfl) (by rfl) (by rfl) (by first | (with_reducible exact Mem.ev_const _ _) | (with_reducible exact Mem.ev_zero _ _ _) | (with_reducible (apply Eq.trans (Mem.ev_tmp _ _ _)); simp only [List.getD_cons_succ, List.getD_cons_zero] <;> rfl)) (by first | (with_reducible exact Mem.ev_const _ _) | (with_reducible exact Mem.ev_zero _ _ _) | (with_reducible (apply Eq.trans (Mem.ev_tmp _ _ _)); simp only [List.getD_cons_succ, List.getD_cons_zero] <;> rfl)) ?_) | (refine plan_pick_f _ _ _ _ (by rfl) (by rfl) (by rfl) (by first | (with_reducible exact Mem.ev_const _ _) | (with_reducible exact Mem.ev_zero _ _ _) | (with_reducible (apply Eq.trans (Mem.ev_tmp _ _ _)); simp only [List.getD_cons_succ, List.getD_cons_zero] <;> rfl)) (by first | (with_reducible exact Mem.ev_const _ _) | (with_reducible exact Mem.ev_zero _ _ _) | (with_reducible (apply Eq.trans (Mem.ev_tmp _ _ _)); simp only [List.getD_cons_succ, List.getD_cons_zero] <;> rfl)) ?_))
        (simp only [Act.put, List.setIfInBounds_toArray, List.set_cons_zero, List.set_cons_succ])
        refine plan_call 9 _ _ _ (by kernel_rfl) (by rfl) (by rfl) (by rfl) (by first | exact Mem.ev_none _ | (simp only [List.map_toArray, List.map_cons, List.map_nil, Mem.ev_tmp, List.getD_cons_succ, List.getD_cons_zero] <;> rfl)) ?_
        refine (ALV.out _ (CC.out.below T11.out D1.out)).mono ?_
        rintro o' y2 ⟨rfl, hb⟩
        have D2 : Hid (Below w11.heap.size w11 y2) := Lib.hid (D1.out.trans (hb.mono D1.out.size))
        clear hb
        refine ⟨_, rfl, D2.out, ?_⟩
        (simp only [Act.put, List.setIfInBounds_toArray, List.set_cons_zero, List.set_cons_succ])
        refine plan_pick_t _ _ _ _ (by rfl) (by rfl) (by rfl) (by first | (with_reducible exact Mem.ev_const _ _) | (with_reducible exact Mem.ev_zero _ _ _) | (with_reducible (apply Eq.trans (Mem.ev_tmp _ _ _)); simp only [List.getD_cons_succ, List.getD_cons_zero] <;> rfl)) (by first | (with_reducible exact Mem.ev_const _ _) | (with_reducible exact Mem.ev_zero _ _ _) | (with_reducible (apply Eq.trans (Mem.ev_tmp _ _ _)); simp only [List.getD_cons_succ, List.getD_cons_zero] <;> rfl)) ?_
        (simp only [Act.put, List.setIfInBounds_toArray, List.set_cons_zero, List.set_cons_succ])
        (first | (refine plan_move _ _ (by rfl) (by rfl) (.inl (by rfl)) (by first | (with_reducible exact Mem.ev_const _ _) | (with_reducible exact Mem.ev_zero _ _ _) | (with_reducible (apply Eq.trans (Mem.ev_tmp _ _ _)); simp only [List.getD_cons_succ, List.getD_cons_zero] <;> rfl)) ?_) | (refine plan_move _ _ (by rfl) (by rfl) (.inr (by rfl)) (by first | (with_reducible exact Mem.ev_const _ _) | (with_reducible exact Mem.ev_zero _ _ _) | (with_reducible (apply Eq.trans (Mem.ev_tmp _ _ _)); simp only [List.getD_cons_succ, List.getD_cons_zero] <;> rfl)) ?_) | (refine plan_pick_t _ _ _ _ (by rfl) (by rfl) (by rfl) (by first | (with_reducible exact Mem.ev_const _ _) | (with_reducible exact Mem.ev_zero _ _ _) | (with_reducible (apply Eq.trans (Mem.ev_tmp _ _ _)); simp only [List.getD_cons_succ, List.getD_cons_zero] <;> rfl)) (by first | (with_reducible exact Mem.ev_const _ _) | (with_reducible exact Mem.ev_zero _ _ _) | (with_reducible (apply Eq.trans (Mem.ev_tmp _ _ _)); simp only [List.getD_cons_succ, List.getD_cons_zero] <;> rfl)) ?_) | (refine plan_pick_f _ _ _ _ (by rfl) (by rfl) (by rfl) (by first | (with_reducible exact Mem.ev_const _ _) | (with_reducible exact Mem.ev_zero _ _ _) | (with_reducible (apply Eq.trans (Mem.ev_tmp _ _ _)); simp only [List.getD_cons_succ, List.getD_cons_zero] <;> rfl)) (by first | (with_reducible exact Mem.ev_const _ _) | (with_reducible exact Mem.ev_zero _ _ _) | (with_reducible (apply Eq.trans (Mem.ev_tmp _ _ _)); simp only [List.getD_cons_succ, List.getD_cons_zero] <;> rfl)) ?_))
        (simp only [Act.put, List.setIfInBounds_toArray, List.set_cons_zero, List.set_cons_succ])
        refine plan_nil ?_
        go_wp2_with fail
        go_ret
        exact ⟨rfl, BX11.out.trans (D2.out.mono BX11.out.size)⟩
    · have hp0 : ¬ pl = 0 := fun h => hp (.inl h)
      have hp1 : ¬ pl = 1 := fun h => hp (.inr h)
      by_cases hf : f = 0
      · have hl := HXL.out hf
        subst hf
        have LX2 : Hid (∀ wx, T wx → Calls Tryd.prog 22 #[.agg X] wx (RSEnd wx b)) := Lib.hid fun wx h => by have k := LX.out wx h; rw [hl] at k; exact k
        clear hl hp
        go_wp2_with (first
          | (refine wpList_store_new (by rfl) 35 _ _ (by rfl) (by rfl) Y _ _ (by rfl) (by rfl) (by rw [YS.out]; exact infoRfP) (by rw [YS.out, ZS.out]) YO.out ?_; clear hxP; generalize w10.alloc (.cells Y 35) = w11 at *; generalize w10.heap.size = b9 at *; have D0 : Hid (Below w11.heap.size w11 w11.drew) := Lib.hid (Below.refl _ _).drew)
          | (refine wpList_load_wanted (by rfl) 35 _ (by rfl) b5 (by rfl) _ Tryd.underlying35 (by rfl) X _ A511.out (by rw [XS.out]; exact infoRfP) ?_))
        refine (LX2.out w11 T11.out).mono ?_
        rintro e w12 ⟨v12, rfl, hs12, hb12⟩
        have V12 := Lib.hid hs12; have S12 := Lib.hid (S11.out.below hb12); have T12 := Lib.hid (CC.out.below T11.out hb12); have BX12 := Lib.hid (BX11.out.trans (hb12.mono BX11.out.size))
        clear hs12 hb12
        go_wp2_with fail
        refine (same_any b b _ _ w12 V12.out S12.out (by rw [← HN.out]; omega) (by rw [← HN.out]; omega)).mono ?_
        rw [sameB_self]
        rintro e w13 ⟨rfl, hb13⟩
        have T13 := Lib.hid (CC.out.below T12.out hb13); have BX13 := Lib.hid (BX12.out.trans (hb13.mono BX12.out.size))
        clear hb13
        go_wp2_with fail
        refine (ALV.out w13 T13.out).mono ?_
        rintro e w14 ⟨rfl, hb14⟩
        have BX14 := Lib.hid (BX13.out.trans (hb14.mono BX13.out.size))
        clear hb14
        go_wp2_with fail
        go_ret
        exact ⟨rfl, BX14.out⟩
      · clear hp
        go_wp2_with (refine wpList_store_new (by rfl) 35 _ _ (by rfl) (by rfl) Y _ _ (by rfl) (by rfl) (by rw [YS.out]; exact infoRfP) (by rw [YS.out, ZS.out]) YO.out ?_; clear hxP; generalize w10.alloc (.cells Y 35) = w11 at *; generalize w10.heap.size = b9 at *; have D0 : Hid (Below w11.heap.size w11 w11.drew) := Lib.hid (Below.refl _ _).drew)
        refine (ALV.out w11 T11.out).mono ?_
        rintro e w14 ⟨rfl, hb14⟩
        have BX14 := Lib.hid (BX11.out.trans (hb14.mono BX11.out.size))
        clear hb14
        go_wp2_with fail
        go_ret
        exact ⟨rfl, BX14.out⟩
end Sha
end Go.Proofs.YtmfgimkopddcgaaDoor
namespace Go.Proofs.YtmfgimkopddcgaaDoor
namespace Sha
open Go.ChangeShapes Go.WideShapes Go.ChangeAt Go.WideMaps Go.WideElems Go.RowKit Mem
set_option maxRecDepth 100000

set_option maxRecDepth 100000 in
theorem sealRefs_lifted (os : Os) (started : os.Started) (H : Type) (enc : TypeId × Value → H) :
    ReturnsInHanded {} Tryd.checked os 5 .any (fun w args => (Rows.sealRefsSpec.pre enc Tryd.prog Tryd.f5 [] false w args ∧ laidMetH Tryd.prog laidL w) ∧ sizedMet enc Tryd.prog Tryd.f5 (OpenSpec.ofChange Rows.sealRefsSpec) false w args)
      (Rows.sealRefsSpec.post enc Tryd.prog Tryd.f5 false true false false) := by
  refine law_lift rfl rfl (by kernel_rfl) (fun H ds hl => ?_) (by kernel_rfl) Tryd.func5 os started H enc #[.agg (refC zref), .slice none 0 0] 8 (by kernel_rfl) (by kernel_rfl) (by kernel_rfl) (World.shaped_of_RefB (by kernel_rfl) (by kernel_rfl)) (door_met os _) rfl ?_
  · have hl' : ds.length = 2 := hl
    match ds, hl' with
    | [_, _], _ => rfl
  · intro W base args ds p hval hA hT
    rw [Tryd.params5] at hA hval
    obtain ⟨v0, vs0, d0, ds0, p0, q0, hargs, rfl, rfl, h0, r0⟩ := trodAll_cons hA
    obtain ⟨v1, vs1, d1, ds1, p1, q1, rfl, rfl, rfl, h1, r1⟩ := trodAll_cons r0
    obtain ⟨rfl, rfl, rfl⟩ := trodAll_nil r1
    obtain rfl : args = #[v0, v1] := by cases args; simp_all
    have k0 := hval 0 38 v0 rfl rfl
    have k1 := hval 1 26 v1 rfl rfl
    clear hval
    obtain ⟨r, rfl, hr⟩ := open_ref9 k0 h0
    obtain ⟨b, sb, lb⟩ := open_sl k1 h1
    exact refs_core sealP9 r hr b v1 W sb lb hT
theorem sealRefs_holds : Rows.SealRefsSaid :=
  OpenClaim.holds_of_wide 5 Tryd.f5 rfl rfl rfl rfl rfl rfl rfl ⟨rfl, rfl, rfl, rfl, rfl⟩ rfl rfl rfl rfl rfl (by kernel_rfl) Tryd.func5 (by kernel_rfl)
    (of_decide_eq_true (by kernel_rfl)) (by unfold Func.isWrapper; first | (rw [if_pos (by decide +kernel)]; kernel_rfl) | (rw [if_neg (by decide +kernel)]; exact ⟨rfl, rfl⟩))
    (fun os started H enc _ => sealRefs_lifted os started H enc)
theorem sealRefs_card : Rows.SealRefsCardSaid :=
  Claim7.holds_tied_plain_at .later [] [.data, .data, .data, .data] true (true, "7c2a96d1b893a63d5f7b31ce1bc3e010c6a1c609f653f8130d4722b647222005") false
    sealRefs_holds (fun _ h => by cases h) (by kernel_rfl) (fun _ h => by cases h) sealRefs_row_tie rfl ⟨rfl, rfl⟩ (by kernel_rfl) rfl
    (fun f fn hf hfn => by
      obtain rfl : f = 5 := Option.some.inj ((show Tryd.prog.funcNamed "carling/carlinglaw09.SealRefs" = some 5 by kernel_rfl).symm.trans hf) |>.symm
      obtain rfl : fn = Tryd.f5 := (Option.some.inj (Tryd.func5.symm.trans hfn)).symm
      exact ⟨by kernel_rfl, fun j t ht => by
        rw [Tryd.params5] at ht
        have hm : t ∈ [38, 26] := by simpa using Array.mem_of_getElem? ht
        have hall : ([38, 26].all fun u => !Tryd.prog.wantsStandIn u) = true := by kernel_rfl
        exact (show Tryd.prog.wantsStandIn t = false by simpa using List.all_eq_true.1 hall t hm)⟩)
    (by kernel_rfl)
#print axioms sealRefs_card
end Sha
end Go.Proofs.YtmfgimkopddcgaaDoor
