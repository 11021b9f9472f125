/- Layer 12: ShapeUnder: a page, over the contracts. -/
import Derived.Test.YtbboljmemomcnaaShpUnder
import Derived.Test.YtbboljmemomcnaaShpMath4
import Derived.Deep.DeepCutAuto
namespace Go.Proofs.Ytbboljmemomcnaa
namespace Sha
open Go.RowKit Mem
set_option maxRecDepth 100000
theorem node_in (p g k : Nat) (h0 : 1 ≤ p) (h1 : p ≤ 216) (hg : g < p) (hk : k < topn p) : KZ p (itp p g (k + 1) : Int) = kz p (itp p g (k + 1)) (many p (itp p g (k + 1))) ∧ fst p (itp p g (k + 1)) ≤ 259 := by
  have iq := itp_lev p g h0 h1 hg (k + 1) (by omega)
  have t := top_le p
  have m1 := stn_mono p 1 (k + 1) (by omega) (by omega)
  have m2 := stn_mono p (k + 1 + 1) (topn p + 1) (by omega) (by omega)
  have s1 : stn p 1 = p := rfl
  have s2 : stn p (topn p + 1) = itn p := rfl
  have hb := itn_big p h0 h1
  have fn := fst_next p (itp p g (k + 1)) h0 h1 (by omega) (by omega)
  constructor
  · rw [KZ_nat p _ (by omega), if_pos (by omega)]
  · have fl : fst p (itp p g (k + 1)) ≤ stn p (k + 1) := by unfold fst; rw [iq.2.2]; have c := lvn_cnt p k (by omega); have c2 := cnt_le (lvn p k); have a := stn_lvn p k (by omega); have b := stn_lvn p (k + 1) (by omega); rw [Nat.add_sub_cancel]; omega
    have m3 := stn_mono p (k + 1) (topn p + 1) (by omega) (by omega)
    omega
theorem manyG_le (p g q : Nat) : ∀ j, manyG p g q j ≤ 4 * j := by
  intro j
  induction j with
  | zero => exact Nat.le_refl _
  | succ j ih =>
    have h : manyG p g q (j + 1) = manyG p g q j + cntI (UZ p ((fst p q + j : Nat) : Int) p) (g : Int) := rfl
    have h2 := cnt_UZ p g ((fst p q + j : Nat) : Int) p
    have h3 := hitsN_le p g ((fst p q + j : Nat) : Int) (topn p + 1)
    have h4 := top_le p
    rw [h, h2]
    split <;> omega
theorem cntI_le (l : List Int) (y : Int) (i : Nat) : cntI (l.take i) y ≤ i := by
  unfold cntI
  have h := List.length_filter_le (fun x => x == y) (l.take i)
  have h2 := List.length_take_le i l
  omega
theorem SlI.cap {w : World} {a : Option Addr} {n c : Nat} {l : List Int} (h : SlI w (.slice a n c) l) : n ≤ c := by
  obtain ⟨a', c', e, hc, _⟩ := h
  injection e with _ e1 e2
  omega
set_option maxHeartbeats 16000000 in
theorem under12_in (S : ShP) (p g : Nat) (w : World) (h0 : 1 ≤ p) (h1 : p ≤ 216) (hg : g < p) : Calls Try.prog 6 #[.int .i64 p, .int .i64 g] w fun e w' => e = .returned (.bool true) ∧ Below w.heap.size w w' := by
  have al := fun wx => alive12_any S wx
  have nw := S.good p w h0 h1
  have rt := fun wx C h => S.root wx C p h1 h
  have ur := fun wx C h => S.under wx C p ((itn p : Int) - 1) h1 h
  have pt := fun wx C h => S.path wx C p (g : Int) h1 h
  have lv := fun wx C h => S.levels wx C p h1 h
  have un := fun z wx C h => S.under wx C p z h1 h
  rw [UZ_root p h0 h1 p (Nat.le_refl _)] at ur
  rw [show WZ p (g : Int) = pathZ p g (topn p + 1) by unfold WZ; rw [if_pos ⟨by omega, by omega⟩, Int.toNat_natCast]] at pt
  rw [show lvsP p = ((topn p + 1 : Nat) : Int) by unfold lvsP; rw [if_neg (by omega)]; omega] at lv
  have hroot := itp_root p g h0 h1 hg
  have htop := top_le p
  have hpg := pathZ_get p g (topn p + 1)
  have hpl := pathZ_length p g (topn p + 1)
  have hpt := hpg (topn p) (by omega)
  rw [show (itp p g (topn p) : Int) = (itn p : Int) - 1 by omega] at hpt
  have hp0 : (pathZ p g (topn p + 1)).getD 0 0 = (g : Int) := hpg 0 (by omega)
  obtain ⟨r, hr⟩ : ∃ r, r = (itn p : Int) - 1 := ⟨_, rfl⟩
  obtain ⟨t, ht⟩ : ∃ t, t = topn p := ⟨_, rfl⟩
  obtain ⟨u, hu⟩ : ∃ u, u = t + 1 := ⟨_, rfl⟩
  obtain ⟨lr, hlr⟩ : ∃ l, l = (List.range p).map fun (x : Nat) => (x : Int) := ⟨_, rfl⟩
  have lrl : lr.length = p := by rw [hlr]; simp
  have lrg : ∀ j, j < p → lr.getD j 0 = (j : Int) := fun j hj => by rw [hlr]; simp [List.getD_eq_getElem?_getD, hj]
  rw [← hlr] at ur
  rw [← ht, ← hu] at pt lv hpg hpl hpt hp0
  obtain ⟨lp, hlp⟩ : ∃ l, l = pathZ p g u := ⟨_, rfl⟩
  rw [← hlp] at pt hpg hpl hpt hp0
  rw [← hr] at rt ur hpt
  obtain ⟨Z, hZ⟩ : ∃ Z, Z = S.Z := ⟨_, rfl⟩
  have zs := S.zsize; have zx := S.zero
  rw [← hZ] at zs zx
  have HX := Lib.hid zx; have ZS := Lib.hid zs; have INF := Lib.hid S.info
  have AL := Lib.hid al; have NW := Lib.hid nw; have PT := Lib.hid pt; have RT := Lib.hid rt; have UR := Lib.hid ur; have LV := Lib.hid lv; have UN := Lib.hid un
  have HPG := Lib.hid hpg; have HPL := Lib.hid hpl; have HPT := Lib.hid hpt; have HP0 := Lib.hid hp0; have LRL := Lib.hid lrl; have LRG := Lib.hid lrg; have HU := Lib.hid hu
  have t3 : t ≤ 3 := by omega
  have t1 : 1 ≤ t := by omega
  have MO := Lib.hid (fun k hk => many_one p g k h0 h1 hg hk)
  have KQ := Lib.hid (fun k (hk : k < topn p) => node_in p g k h0 h1 hg hk)
  rw [← ht] at MO KQ
  have KD := Lib.hid (fun z wx C h => S.kids wx C p z h1 h)
  have ULN := Lib.hid (fun z => show (UZ p z p).length ≤ 900 by have := UZ_len p z p; omega)
  have hg2 : (g : Int) < (p : Int) := by omega
  have hg3 : ¬ (g : Int) < 0 := by omega
  have G0 := Lib.hid (Below.refl w.heap.size w)
  clear al nw pt rt ur lv un zs zx hZ hpg hpl hpt hp0 lrl lrg hu hr ht hlr hlp hroot htop hg h0
  go_enter Try.func6, Try.ntmps6
  go_wp2_with fail
  refine (NW.out).mono ?_
  rintro e x1 ⟨C, rfl, hr, hb⟩
  have G1 : Hid (Below w.heap.size w x1) := Lib.hid (G0.out.trans (hb.mono G0.out.size))
  have RR := Lib.hid hr; have CS := Lib.hid (S.size _ _ _ hr); have CO := Lib.hid (S.one _ _ _ hr)
  clear hr
  clear hb
  clear G0
  have RR_2 := Lib.hid (S.below _ _ _ _ RR.out ((Below.refl _ _).alloc (Nat.le_refl _) (.cells C 23)))
  have G2 : Hid (Below w.heap.size w (x1.alloc (.cells C 23))) := Lib.hid (G1.out.alloc G1.out.size _)
  have K1 := Lib.hid (at_new x1 C 23)
  have hz := HX.out
  go_upto_region 4 with (refine wpList_store_new (by rfl) 23 _ _ (by rfl) (by rfl) C _ _ (by rfl) (by rfl) (by rw [CS.out]; exact INF.out) (by first | rfl | rw [CS.out, ZS.out]) CO.out ?_)
  clear hz
  obtain ⟨g2, hg⟩ : ∃ g, g = x1.heap.size := ⟨_, rfl⟩
  rw [← hg] at K1 ⊢
  clear hg
  generalize (x1.alloc (.cells C 23)) = y2 at *
  clear RR G1
  have D0 : Hid (Below y2.heap.size y2 y2.drew) := Lib.hid (Below.refl _ _).drew
  have AW := Lib.hid K1.out; have RW := Lib.hid RR_2.out
  refine wp_region_plan_in (fun x' => Below y2.heap.size y2 x') (.take 0 (.take 1 (.sole 2 (.sole 3 (.take 4 .done))))) (by kernel_rfl) (by kernel_rfl) (by kernel_rfl) D0.out ?_
  refine plan_row 23 _ g2 _ C 23 (by rfl) (by rfl) (by rfl) (by first | (with_reducible exact Mem.ev_const _ _) | (with_reducible exact Mem.ev_zero _ _ _) | (with_reducible (apply Eq.trans (Mem.ev_tmp _ _ _)); simp only [List.getD_cons_succ, List.getD_cons_zero] <;> rfl)) (fun w' hw' => AW.out.below hw' AW.out.lt) Try.underlying23 (by rfl) (by rw [CS.out]; exact INF.out) ?_
  (simp only [Act.put, List.setIfInBounds_toArray, List.set_cons_zero, List.set_cons_succ])
  refine plan_row 23 _ g2 _ C 23 (by rfl) (by rfl) (by rfl) (by first | (with_reducible exact Mem.ev_const _ _) | (with_reducible exact Mem.ev_zero _ _ _) | (with_reducible (apply Eq.trans (Mem.ev_tmp _ _ _)); simp only [List.getD_cons_succ, List.getD_cons_zero] <;> rfl)) (fun w' hw' => AW.out.below hw' AW.out.lt) Try.underlying23 (by rfl) (by rw [CS.out]; exact INF.out) ?_
  (simp only [Act.put, List.setIfInBounds_toArray, List.set_cons_zero, List.set_cons_succ])
  refine plan_call 13 _ _ _ (by kernel_rfl) (by rfl) (by rfl) (by rfl) (by first | exact Mem.ev_none _ | (simp only [List.map_toArray, List.map_cons, List.map_nil, Mem.ev_tmp, List.getD_cons_succ, List.getD_cons_zero] <;> rfl)) ?_
  refine (RT.out _ _ (S.below _ _ _ _ RW.out D0.out)).mono ?_
  rintro e z2 ⟨rfl, hb2⟩
  have E2 : Hid (Below y2.heap.size y2 z2) := Lib.hid (D0.out.trans (hb2.mono D0.out.size))
  clear hb2
  refine ⟨_, rfl, E2.out, ?_⟩
  (simp only [Act.put, List.setIfInBounds_toArray, List.set_cons_zero, List.set_cons_succ])
  refine plan_call 17 _ _ _ (by kernel_rfl) (by rfl) (by rfl) (by rfl) (by first | exact Mem.ev_none _ | (simp only [List.map_toArray, List.map_cons, List.map_nil, Mem.ev_tmp, List.getD_cons_succ, List.getD_cons_zero] <;> rfl)) ?_
  refine (UR.out _ _ (S.below _ _ _ _ RW.out E2.out)).mono ?_
  rintro e z3 ⟨v3, rfl, hs3, hb3⟩
  have E3 : Hid (Below y2.heap.size y2 z3) := Lib.hid (E2.out.trans (hb3.mono E2.out.size))
  clear hb3
  obtain ⟨a3, c3, rfl⟩ := hs3.hdn LRL.out
  have T3 := Lib.hid hs3
  clear hs3
  refine ⟨_, rfl, E3.out, ?_⟩
  (simp only [Act.put, List.setIfInBounds_toArray, List.set_cons_zero, List.set_cons_succ])
  (first | (refine plan_move _ _ (by rfl) (by rfl) (.inl (by rfl)) (by first | (with_reducible exact Mem.ev_const _ _) | (with_reducible exact Mem.ev_zero _ _ _) | (with_reducible (apply Eq.trans (Mem.ev_tmp _ _ _)); simp only [List.getD_cons_succ, List.getD_cons_zero] <;> rfl)) ?_) | (refine plan_move _ _ (by rfl) (by rfl) (.inr (by rfl)) (by first | (with_reducible exact Mem.ev_const _ _) | (with_reducible exact Mem.ev_zero _ _ _) | (with_reducible (apply Eq.trans (Mem.ev_tmp _ _ _)); simp only [List.getD_cons_succ, List.getD_cons_zero] <;> rfl)) ?_) | (refine plan_pick_t _ _ _ _ (by rfl) (by rfl) (by rfl) (by first | (with_reducible exact Mem.ev_const _ _) | (with_reducible exact Mem.ev_zero _ _ _) | (with_reducible (apply Eq.trans (Mem.ev_tmp _ _ _)); simp only [List.getD_cons_succ, List.getD_cons_zero] <;> rfl)) (by first | (with_reducible exact Mem.ev_const _ _) | (with_reducible exact Mem.ev_zero _ _ _) | (with_reducible (apply Eq.trans (Mem.ev_tmp _ _ _)); simp only [List.getD_cons_succ, List.getD_cons_zero] <;> rfl)) ?_) | (refine plan_pick_f _ _ _ _ (by rfl) (by rfl) (by rfl) (by first | (with_reducible exact Mem.ev_const _ _) | (with_reducible exact Mem.ev_zero _ _ _) | (with_reducible (apply Eq.trans (Mem.ev_tmp _ _ _)); simp only [List.getD_cons_succ, List.getD_cons_zero] <;> rfl)) (by first | (with_reducible exact Mem.ev_const _ _) | (with_reducible exact Mem.ev_zero _ _ _) | (with_reducible (apply Eq.trans (Mem.ev_tmp _ _ _)); simp only [List.getD_cons_succ, List.getD_cons_zero] <;> rfl)) ?_))
  (simp only [Act.put, List.setIfInBounds_toArray, List.set_cons_zero, List.set_cons_succ])
  refine plan_nil ?_
  have G5 : Hid (Below w.heap.size w z3) := Lib.hid (G2.out.trans (E3.out.mono G2.out.size))
  have A5 := Lib.hid (AW.out.below E3.out AW.out.lt); have R5 := Lib.hid (S.below _ _ _ _ RW.out E3.out)
  clear AW RW D0 E2 E3 G2 K1 RR_2
  go_wp2_with fail
  go_loopw [48] (fun v wr => ∃ j : Nat, j ≤ p ∧ v = .int .i64 j ∧ wr = z3) (fun v _ => p - (intOf v).toNat)
  case atStart => exact ⟨0, Nat.zero_le _, rfl, rfl⟩
  case round =>
    obtain ⟨j, hj, rfl, rfl⟩ := hrel
    by_cases hjp : j < p
    · have hjp2 : (j : Int) < (p : Int) := by omega
      obtain ⟨b1, o1, rfl, _, cx⟩ := sli_at (i := j) T3.out LRL.out.symm hjp
      rw [LRG.out j hjp] at cx
      go_wp2_with fail
      go_roundw
      case rel => exact ⟨j + 1, by omega, by go_num, by first | rfl | trivial⟩
      case measure => simp [intOf]; omega
    · have hje : p = j := by omega
      subst hje
      clear hj hjp
      go_wp2_with (first
        | (refine wpList_load_wanted (by rfl) 23 _ (by rfl) g2 (by rfl) _ Try.underlying23 (by rfl) C _ A5.out (by rw [CS.out]; exact INF.out) ?_))
      refine (PT.out _ _ R5.out).mono ?_
      rintro e x3 ⟨v, rfl, hs, hb⟩
      have G3 : Hid (Below w.heap.size w x3) := Lib.hid (G5.out.trans (hb.mono G5.out.size))
      have A5_3 := Lib.hid (A5.out.below hb A5.out.lt)
      have R5_3 := Lib.hid (S.below _ _ _ _ R5.out hb)
      obtain ⟨ap, cp, rfl⟩ := hs.hdn HPL.out
      obtain ⟨bp, op, rfl, hlt, hc0⟩ := sli_at (i := 0) hs HPL.out.symm (by rw [HU.out]; omega)
      have hct := sli_cell (i := t) hs HPL.out.symm (by rw [HU.out]; omega)
      have hcp := hs.cap
      have hu1 : 2 ≤ u := by rw [HU.out]; omega
      rw [HP0.out] at hc0
      rw [HPT.out] at hct
      have C0 := Lib.hid hc0; have CT := Lib.hid hct; have LT := Lib.hid hlt; have TP := Lib.hid hs
      clear hc0 hct hlt hs
      clear hb
      clear A5 R5 G5
      go_upto_region 12 with (first
        | (refine wpList_load_wanted (by rfl) 23 _ (by rfl) g2 (by rfl) _ Try.underlying23 (by rfl) C _ A5_3.out (by rw [CS.out]; exact INF.out) ?_))
      have D0 : Hid (Below x3.heap.size x3 x3.drew) := Lib.hid (Below.refl _ _).drew
      have AW := Lib.hid A5_3.out; have RW := Lib.hid R5_3.out
      have C0w := C0.out; have CTw := CT.out; have LTw := LT.out
      clear C0w CTw LTw
      refine wp_region_plan_in (fun x' => Below x3.heap.size x3 x') (.take 0 (.take 1 (.take 2 (.take 3 (.take 4 (.take 5 (.take 6 (.take 7 (.sole 8 (.take 9 (.take 10 (.take 11 (.take 12 (.take 13 (.take 14 (.take 15 (.take 16 (.take 17 (.take 18 (.take 19 (.take 20 (.take 21 (.take 22 (.take 23 (.take 24 (.take 25 (.sole 26 (.take 27 (.take 28 .done))))))))))))))))))))))))))))) (by kernel_rfl) (by kernel_rfl) (by kernel_rfl) D0.out ?_
      (first | (refine plan_move _ _ (by rfl) (by rfl) (.inl (by rfl)) (by first | (with_reducible exact Mem.ev_const _ _) | (with_reducible exact Mem.ev_zero _ _ _) | (with_reducible (apply Eq.trans (Mem.ev_tmp _ _ _)); simp only [List.getD_cons_succ, List.getD_cons_zero] <;> rfl)) ?_) | (refine plan_move _ _ (by rfl) (by rfl) (.inr (by rfl)) (by first | (with_reducible exact Mem.ev_const _ _) | (with_reducible exact Mem.ev_zero _ _ _) | (with_reducible (apply Eq.trans (Mem.ev_tmp _ _ _)); simp only [List.getD_cons_succ, List.getD_cons_zero] <;> rfl)) ?_) | (refine plan_pick_t _ _ _ _ (by rfl) (by rfl) (by rfl) (by first | (with_reducible exact Mem.ev_const _ _) | (with_reducible exact Mem.ev_zero _ _ _) | (with_reducible (apply Eq.trans (Mem.ev_tmp _ _ _)); simp only [List.getD_cons_succ, List.getD_cons_zero] <;> rfl)) (by first | (with_reducible exact Mem.ev_const _ _) | (with_reducible exact Mem.ev_zero _ _ _) | (with_reducible (apply Eq.trans (Mem.ev_tmp _ _ _)); simp only [List.getD_cons_succ, List.getD_cons_zero] <;> rfl)) ?_) | (refine plan_pick_f _ _ _ _ (by rfl) (by rfl) (by rfl) (by first | (with_reducible exact Mem.ev_const _ _) | (with_reducible exact Mem.ev_zero _ _ _) | (with_reducible (apply Eq.trans (Mem.ev_tmp _ _ _)); simp only [List.getD_cons_succ, List.getD_cons_zero] <;> rfl)) (by first | (with_reducible exact Mem.ev_const _ _) | (with_reducible exact Mem.ev_zero _ _ _) | (with_reducible (apply Eq.trans (Mem.ev_tmp _ _ _)); simp only [List.getD_cons_succ, List.getD_cons_zero] <;> rfl)) ?_))
      (simp only [Act.put, List.setIfInBounds_toArray, List.set_cons_zero, List.set_cons_succ])
      refine plan_len _ _ _ a3 p c3 (by rfl) (by rfl) (by rfl) (by rfl) (by first | (with_reducible exact Mem.ev_const _ _) | (with_reducible exact Mem.ev_zero _ _ _) | (with_reducible (apply Eq.trans (Mem.ev_tmp _ _ _)); simp only [List.getD_cons_succ, List.getD_cons_zero] <;> rfl)) (fun w' => by first | rfl | go_simp) ?_
      (simp only [Act.put, List.setIfInBounds_toArray, List.set_cons_zero, List.set_cons_succ])
      (first | (refine plan_move _ _ (by rfl) (by rfl) (.inl (by rfl)) (by first | (with_reducible exact Mem.ev_const _ _) | (with_reducible exact Mem.ev_zero _ _ _) | (with_reducible (apply Eq.trans (Mem.ev_tmp _ _ _)); simp only [List.getD_cons_succ, List.getD_cons_zero] <;> rfl)) ?_) | (refine plan_move _ _ (by rfl) (by rfl) (.inr (by rfl)) (by first | (with_reducible exact Mem.ev_const _ _) | (with_reducible exact Mem.ev_zero _ _ _) | (with_reducible (apply Eq.trans (Mem.ev_tmp _ _ _)); simp only [List.getD_cons_succ, List.getD_cons_zero] <;> rfl)) ?_) | (refine plan_pick_t _ _ _ _ (by rfl) (by rfl) (by rfl) (by first | (with_reducible exact Mem.ev_const _ _) | (with_reducible exact Mem.ev_zero _ _ _) | (with_reducible (apply Eq.trans (Mem.ev_tmp _ _ _)); simp only [List.getD_cons_succ, List.getD_cons_zero] <;> rfl)) (by first | (with_reducible exact Mem.ev_const _ _) | (with_reducible exact Mem.ev_zero _ _ _) | (with_reducible (apply Eq.trans (Mem.ev_tmp _ _ _)); simp only [List.getD_cons_succ, List.getD_cons_zero] <;> rfl)) ?_) | (refine plan_pick_f _ _ _ _ (by rfl) (by rfl) (by rfl) (by first | (with_reducible exact Mem.ev_const _ _) | (with_reducible exact Mem.ev_zero _ _ _) | (with_reducible (apply Eq.trans (Mem.ev_tmp _ _ _)); simp only [List.getD_cons_succ, List.getD_cons_zero] <;> rfl)) (by first | (with_reducible exact Mem.ev_const _ _) | (with_reducible exact Mem.ev_zero _ _ _) | (with_reducible (apply Eq.trans (Mem.ev_tmp _ _ _)); simp only [List.getD_cons_succ, List.getD_cons_zero] <;> rfl)) ?_))
      (simp only [Act.put, List.setIfInBounds_toArray, List.set_cons_zero, List.set_cons_succ])
      refine plan_bin _ _ _ _ _ _ _ (.bool false) (by rfl) (by rfl) (by rfl) (by first | (with_reducible exact Mem.ev_const _ _) | (with_reducible exact Mem.ev_zero _ _ _) | (with_reducible (apply Eq.trans (Mem.ev_tmp _ _ _)); simp only [List.getD_cons_succ, List.getD_cons_zero] <;> rfl)) (by first | (with_reducible exact Mem.ev_const _ _) | (with_reducible exact Mem.ev_zero _ _ _) | (with_reducible (apply Eq.trans (Mem.ev_tmp _ _ _)); simp only [List.getD_cons_succ, List.getD_cons_zero] <;> rfl)) (fun wx => o_ine _ _ _ _ _ wx) ?_
      (simp only [Act.put, List.setIfInBounds_toArray, List.set_cons_zero, List.set_cons_succ])
      (first | (refine plan_move _ _ (by rfl) (by rfl) (.inl (by rfl)) (by first | (with_reducible exact Mem.ev_const _ _) | (with_reducible exact Mem.ev_zero _ _ _) | (with_reducible (apply Eq.trans (Mem.ev_tmp _ _ _)); simp only [List.getD_cons_succ, List.getD_cons_zero] <;> rfl)) ?_) | (refine plan_move _ _ (by rfl) (by rfl) (.inr (by rfl)) (by first | (with_reducible exact Mem.ev_const _ _) | (with_reducible exact Mem.ev_zero _ _ _) | (with_reducible (apply Eq.trans (Mem.ev_tmp _ _ _)); simp only [List.getD_cons_succ, List.getD_cons_zero] <;> rfl)) ?_) | (refine plan_pick_t _ _ _ _ (by rfl) (by rfl) (by rfl) (by first | (with_reducible exact Mem.ev_const _ _) | (with_reducible exact Mem.ev_zero _ _ _) | (with_reducible (apply Eq.trans (Mem.ev_tmp _ _ _)); simp only [List.getD_cons_succ, List.getD_cons_zero] <;> rfl)) (by first | (with_reducible exact Mem.ev_const _ _) | (with_reducible exact Mem.ev_zero _ _ _) | (with_reducible (apply Eq.trans (Mem.ev_tmp _ _ _)); simp only [List.getD_cons_succ, List.getD_cons_zero] <;> rfl)) ?_) | (refine plan_pick_f _ _ _ _ (by rfl) (by rfl) (by rfl) (by first | (with_reducible exact Mem.ev_const _ _) | (with_reducible exact Mem.ev_zero _ _ _) | (with_reducible (apply Eq.trans (Mem.ev_tmp _ _ _)); simp only [List.getD_cons_succ, List.getD_cons_zero] <;> rfl)) (by first | (with_reducible exact Mem.ev_const _ _) | (with_reducible exact Mem.ev_zero _ _ _) | (with_reducible (apply Eq.trans (Mem.ev_tmp _ _ _)); simp only [List.getD_cons_succ, List.getD_cons_zero] <;> rfl)) ?_))
      (simp only [Act.put, List.setIfInBounds_toArray, List.set_cons_zero, List.set_cons_succ])
      (first | (refine plan_move _ _ (by rfl) (by rfl) (.inl (by rfl)) (by first | (with_reducible exact Mem.ev_const _ _) | (with_reducible exact Mem.ev_zero _ _ _) | (with_reducible (apply Eq.trans (Mem.ev_tmp _ _ _)); simp only [List.getD_cons_succ, List.getD_cons_zero] <;> rfl)) ?_) | (refine plan_move _ _ (by rfl) (by rfl) (.inr (by rfl)) (by first | (with_reducible exact Mem.ev_const _ _) | (with_reducible exact Mem.ev_zero _ _ _) | (with_reducible (apply Eq.trans (Mem.ev_tmp _ _ _)); simp only [List.getD_cons_succ, List.getD_cons_zero] <;> rfl)) ?_) | (refine plan_pick_t _ _ _ _ (by rfl) (by rfl) (by rfl) (by first | (with_reducible exact Mem.ev_const _ _) | (with_reducible exact Mem.ev_zero _ _ _) | (with_reducible (apply Eq.trans (Mem.ev_tmp _ _ _)); simp only [List.getD_cons_succ, List.getD_cons_zero] <;> rfl)) (by first | (with_reducible exact Mem.ev_const _ _) | (with_reducible exact Mem.ev_zero _ _ _) | (with_reducible (apply Eq.trans (Mem.ev_tmp _ _ _)); simp only [List.getD_cons_succ, List.getD_cons_zero] <;> rfl)) ?_) | (refine plan_pick_f _ _ _ _ (by rfl) (by rfl) (by rfl) (by first | (with_reducible exact Mem.ev_const _ _) | (with_reducible exact Mem.ev_zero _ _ _) | (with_reducible (apply Eq.trans (Mem.ev_tmp _ _ _)); simp only [List.getD_cons_succ, List.getD_cons_zero] <;> rfl)) (by first | (with_reducible exact Mem.ev_const _ _) | (with_reducible exact Mem.ev_zero _ _ _) | (with_reducible (apply Eq.trans (Mem.ev_tmp _ _ _)); simp only [List.getD_cons_succ, List.getD_cons_zero] <;> rfl)) ?_))
      (simp only [Act.put, List.setIfInBounds_toArray, List.set_cons_zero, List.set_cons_succ])
      refine plan_len _ _ _ (some ⟨bp, op, none⟩) u cp (by rfl) (by rfl) (by rfl) (by rfl) (by first | (with_reducible exact Mem.ev_const _ _) | (with_reducible exact Mem.ev_zero _ _ _) | (with_reducible (apply Eq.trans (Mem.ev_tmp _ _ _)); simp only [List.getD_cons_succ, List.getD_cons_zero] <;> rfl)) (fun w' => by first | rfl | go_simp) ?_
      (simp only [Act.put, List.setIfInBounds_toArray, List.set_cons_zero, List.set_cons_succ])
      refine plan_row 23 _ g2 _ C 23 (by rfl) (by rfl) (by rfl) (by first | (with_reducible exact Mem.ev_const _ _) | (with_reducible exact Mem.ev_zero _ _ _) | (with_reducible (apply Eq.trans (Mem.ev_tmp _ _ _)); simp only [List.getD_cons_succ, List.getD_cons_zero] <;> rfl)) (fun w' hw' => AW.out.below hw' AW.out.lt) Try.underlying23 (by rfl) (by rw [CS.out]; exact INF.out) ?_
      (simp only [Act.put, List.setIfInBounds_toArray, List.set_cons_zero, List.set_cons_succ])
      refine plan_call 12 _ _ _ (by kernel_rfl) (by rfl) (by rfl) (by rfl) (by first | exact Mem.ev_none _ | (simp only [List.map_toArray, List.map_cons, List.map_nil, Mem.ev_tmp, List.getD_cons_succ, List.getD_cons_zero] <;> rfl)) ?_
      refine (LV.out _ _ (S.below _ _ _ _ RW.out D0.out)).mono ?_
      rintro e z8 ⟨rfl, hb8⟩
      have E8 : Hid (Below x3.heap.size x3 z8) := Lib.hid (D0.out.trans (hb8.mono D0.out.size))
      clear hb8
      refine ⟨_, rfl, E8.out, ?_⟩
      (simp only [Act.put, List.setIfInBounds_toArray, List.set_cons_zero, List.set_cons_succ])
      refine plan_bin _ _ _ _ _ _ _ (.bool false) (by rfl) (by rfl) (by rfl) (by first | (with_reducible exact Mem.ev_const _ _) | (with_reducible exact Mem.ev_zero _ _ _) | (with_reducible (apply Eq.trans (Mem.ev_tmp _ _ _)); simp only [List.getD_cons_succ, List.getD_cons_zero] <;> rfl)) (by first | (with_reducible exact Mem.ev_const _ _) | (with_reducible exact Mem.ev_zero _ _ _) | (with_reducible (apply Eq.trans (Mem.ev_tmp _ _ _)); simp only [List.getD_cons_succ, List.getD_cons_zero] <;> rfl)) (fun wx => o_ine _ _ _ _ _ wx) ?_
      (simp only [Act.put, List.setIfInBounds_toArray, List.set_cons_zero, List.set_cons_succ])
      refine plan_pick_f _ _ _ _ (by rfl) (by rfl) (by rfl) (by first | (with_reducible exact Mem.ev_const _ _) | (with_reducible exact Mem.ev_zero _ _ _) | (with_reducible (apply Eq.trans (Mem.ev_tmp _ _ _)); simp only [List.getD_cons_succ, List.getD_cons_zero] <;> rfl)) (by first | (with_reducible exact Mem.ev_const _ _) | (with_reducible exact Mem.ev_zero _ _ _) | (with_reducible (apply Eq.trans (Mem.ev_tmp _ _ _)); simp only [List.getD_cons_succ, List.getD_cons_zero] <;> rfl)) ?_
      (simp only [Act.put, List.setIfInBounds_toArray, List.set_cons_zero, List.set_cons_succ])
      (first | (refine plan_move _ _ (by rfl) (by rfl) (.inl (by rfl)) (by first | (with_reducible exact Mem.ev_const _ _) | (with_reducible exact Mem.ev_zero _ _ _) | (with_reducible (apply Eq.trans (Mem.ev_tmp _ _ _)); simp only [List.getD_cons_succ, List.getD_cons_zero] <;> rfl)) ?_) | (refine plan_move _ _ (by rfl) (by rfl) (.inr (by rfl)) (by first | (with_reducible exact Mem.ev_const _ _) | (with_reducible exact Mem.ev_zero _ _ _) | (with_reducible (apply Eq.trans (Mem.ev_tmp _ _ _)); simp only [List.getD_cons_succ, List.getD_cons_zero] <;> rfl)) ?_) | (refine plan_pick_t _ _ _ _ (by rfl) (by rfl) (by rfl) (by first | (with_reducible exact Mem.ev_const _ _) | (with_reducible exact Mem.ev_zero _ _ _) | (with_reducible (apply Eq.trans (Mem.ev_tmp _ _ _)); simp only [List.getD_cons_succ, List.getD_cons_zero] <;> rfl)) (by first | (with_reducible exact Mem.ev_const _ _) | (with_reducible exact Mem.ev_zero _ _ _) | (with_reducible (apply Eq.trans (Mem.ev_tmp _ _ _)); simp only [List.getD_cons_succ, List.getD_cons_zero] <;> rfl)) ?_) | (refine plan_pick_f _ _ _ _ (by rfl) (by rfl) (by rfl) (by first | (with_reducible exact Mem.ev_const _ _) | (with_reducible exact Mem.ev_zero _ _ _) | (with_reducible (apply Eq.trans (Mem.ev_tmp _ _ _)); simp only [List.getD_cons_succ, List.getD_cons_zero] <;> rfl)) (by first | (with_reducible exact Mem.ev_const _ _) | (with_reducible exact Mem.ev_zero _ _ _) | (with_reducible (apply Eq.trans (Mem.ev_tmp _ _ _)); simp only [List.getD_cons_succ, List.getD_cons_zero] <;> rfl)) ?_))
      (simp only [Act.put, List.setIfInBounds_toArray, List.set_cons_zero, List.set_cons_succ])
      (first | (refine plan_move _ _ (by rfl) (by rfl) (.inl (by rfl)) (by first | (with_reducible exact Mem.ev_const _ _) | (with_reducible exact Mem.ev_zero _ _ _) | (with_reducible (apply Eq.trans (Mem.ev_tmp _ _ _)); simp only [List.getD_cons_succ, List.getD_cons_zero] <;> rfl)) ?_) | (refine plan_move _ _ (by rfl) (by rfl) (.inr (by rfl)) (by first | (with_reducible exact Mem.ev_const _ _) | (with_reducible exact Mem.ev_zero _ _ _) | (with_reducible (apply Eq.trans (Mem.ev_tmp _ _ _)); simp only [List.getD_cons_succ, List.getD_cons_zero] <;> rfl)) ?_) | (refine plan_pick_t _ _ _ _ (by rfl) (by rfl) (by rfl) (by first | (with_reducible exact Mem.ev_const _ _) | (with_reducible exact Mem.ev_zero _ _ _) | (with_reducible (apply Eq.trans (Mem.ev_tmp _ _ _)); simp only [List.getD_cons_succ, List.getD_cons_zero] <;> rfl)) (by first | (with_reducible exact Mem.ev_const _ _) | (with_reducible exact Mem.ev_zero _ _ _) | (with_reducible (apply Eq.trans (Mem.ev_tmp _ _ _)); simp only [List.getD_cons_succ, List.getD_cons_zero] <;> rfl)) ?_) | (refine plan_pick_f _ _ _ _ (by rfl) (by rfl) (by rfl) (by first | (with_reducible exact Mem.ev_const _ _) | (with_reducible exact Mem.ev_zero _ _ _) | (with_reducible (apply Eq.trans (Mem.ev_tmp _ _ _)); simp only [List.getD_cons_succ, List.getD_cons_zero] <;> rfl)) (by first | (with_reducible exact Mem.ev_const _ _) | (with_reducible exact Mem.ev_zero _ _ _) | (with_reducible (apply Eq.trans (Mem.ev_tmp _ _ _)); simp only [List.getD_cons_succ, List.getD_cons_zero] <;> rfl)) ?_))
      (simp only [Act.put, List.setIfInBounds_toArray, List.set_cons_zero, List.set_cons_succ])
      refine plan_index 27 3 _ _ bp op u cp 0 (by rfl) (by rfl) (by rfl) (by first | (with_reducible exact Mem.ev_const _ _) | (with_reducible exact Mem.ev_zero _ _ _) | (with_reducible (apply Eq.trans (Mem.ev_tmp _ _ _)); simp only [List.getD_cons_succ, List.getD_cons_zero] <;> rfl)) (by rfl) (by have := HU.out; omega) Try.underlying27 (by kernel_rfl) ?_
      (simp only [Act.put, List.setIfInBounds_toArray, List.set_cons_zero, List.set_cons_succ])
      refine plan_cell 3 _ ⟨bp, op + 0, none⟩ (.int .i64 (g : Int)) _ (by rfl) (by rfl) (by rfl) (by first | (with_reducible exact Mem.ev_const _ _) | (with_reducible exact Mem.ev_zero _ _ _) | (with_reducible (apply Eq.trans (Mem.ev_tmp _ _ _)); simp only [List.getD_cons_succ, List.getD_cons_zero] <;> rfl)) (fun w' hw' => (Below.cell hw' (p := ⟨bp, op + 0, none⟩) LT.out).trans C0.out) Try.underlying3 (by rfl) ?_
      (simp only [Act.put, List.setIfInBounds_toArray, List.set_cons_zero, List.set_cons_succ])
      (first | (refine plan_move _ _ (by rfl) (by rfl) (.inl (by rfl)) (by first | (with_reducible exact Mem.ev_const _ _) | (with_reducible exact Mem.ev_zero _ _ _) | (with_reducible (apply Eq.trans (Mem.ev_tmp _ _ _)); simp only [List.getD_cons_succ, List.getD_cons_zero] <;> rfl)) ?_) | (refine plan_move _ _ (by rfl) (by rfl) (.inr (by rfl)) (by first | (with_reducible exact Mem.ev_const _ _) | (with_reducible exact Mem.ev_zero _ _ _) | (with_reducible (apply Eq.trans (Mem.ev_tmp _ _ _)); simp only [List.getD_cons_succ, List.getD_cons_zero] <;> rfl)) ?_) | (refine plan_pick_t _ _ _ _ (by rfl) (by rfl) (by rfl) (by first | (with_reducible exact Mem.ev_const _ _) | (with_reducible exact Mem.ev_zero _ _ _) | (with_reducible (apply Eq.trans (Mem.ev_tmp _ _ _)); simp only [List.getD_cons_succ, List.getD_cons_zero] <;> rfl)) (by first | (with_reducible exact Mem.ev_const _ _) | (with_reducible exact Mem.ev_zero _ _ _) | (with_reducible (apply Eq.trans (Mem.ev_tmp _ _ _)); simp only [List.getD_cons_succ, List.getD_cons_zero] <;> rfl)) ?_) | (refine plan_pick_f _ _ _ _ (by rfl) (by rfl) (by rfl) (by first | (with_reducible exact Mem.ev_const _ _) | (with_reducible exact Mem.ev_zero _ _ _) | (with_reducible (apply Eq.trans (Mem.ev_tmp _ _ _)); simp only [List.getD_cons_succ, List.getD_cons_zero] <;> rfl)) (by first | (with_reducible exact Mem.ev_const _ _) | (with_reducible exact Mem.ev_zero _ _ _) | (with_reducible (apply Eq.trans (Mem.ev_tmp _ _ _)); simp only [List.getD_cons_succ, List.getD_cons_zero] <;> rfl)) ?_))
      (simp only [Act.put, List.setIfInBounds_toArray, List.set_cons_zero, List.set_cons_succ])
      refine plan_bin _ _ _ _ _ _ _ (.bool false) (by rfl) (by rfl) (by rfl) (by first | (with_reducible exact Mem.ev_const _ _) | (with_reducible exact Mem.ev_zero _ _ _) | (with_reducible (apply Eq.trans (Mem.ev_tmp _ _ _)); simp only [List.getD_cons_succ, List.getD_cons_zero] <;> rfl)) (by first | (with_reducible exact Mem.ev_const _ _) | (with_reducible exact Mem.ev_zero _ _ _) | (with_reducible (apply Eq.trans (Mem.ev_tmp _ _ _)); simp only [List.getD_cons_succ, List.getD_cons_zero] <;> rfl)) (fun wx => o_ine _ _ _ _ _ wx) ?_
      (simp only [Act.put, List.setIfInBounds_toArray, List.set_cons_zero, List.set_cons_succ])
      refine plan_pick_f _ _ _ _ (by rfl) (by rfl) (by rfl) (by first | (with_reducible exact Mem.ev_const _ _) | (with_reducible exact Mem.ev_zero _ _ _) | (with_reducible (apply Eq.trans (Mem.ev_tmp _ _ _)); simp only [List.getD_cons_succ, List.getD_cons_zero] <;> rfl)) (by first | (with_reducible exact Mem.ev_const _ _) | (with_reducible exact Mem.ev_zero _ _ _) | (with_reducible (apply Eq.trans (Mem.ev_tmp _ _ _)); simp only [List.getD_cons_succ, List.getD_cons_zero] <;> rfl)) ?_
      (simp only [Act.put, List.setIfInBounds_toArray, List.set_cons_zero, List.set_cons_succ])
      (first | (refine plan_move _ _ (by rfl) (by rfl) (.inl (by rfl)) (by first | (with_reducible exact Mem.ev_const _ _) | (with_reducible exact Mem.ev_zero _ _ _) | (with_reducible (apply Eq.trans (Mem.ev_tmp _ _ _)); simp only [List.getD_cons_succ, List.getD_cons_zero] <;> rfl)) ?_) | (refine plan_move _ _ (by rfl) (by rfl) (.inr (by rfl)) (by first | (with_reducible exact Mem.ev_const _ _) | (with_reducible exact Mem.ev_zero _ _ _) | (with_reducible (apply Eq.trans (Mem.ev_tmp _ _ _)); simp only [List.getD_cons_succ, List.getD_cons_zero] <;> rfl)) ?_) | (refine plan_pick_t _ _ _ _ (by rfl) (by rfl) (by rfl) (by first | (with_reducible exact Mem.ev_const _ _) | (with_reducible exact Mem.ev_zero _ _ _) | (with_reducible (apply Eq.trans (Mem.ev_tmp _ _ _)); simp only [List.getD_cons_succ, List.getD_cons_zero] <;> rfl)) (by first | (with_reducible exact Mem.ev_const _ _) | (with_reducible exact Mem.ev_zero _ _ _) | (with_reducible (apply Eq.trans (Mem.ev_tmp _ _ _)); simp only [List.getD_cons_succ, List.getD_cons_zero] <;> rfl)) ?_) | (refine plan_pick_f _ _ _ _ (by rfl) (by rfl) (by rfl) (by first | (with_reducible exact Mem.ev_const _ _) | (with_reducible exact Mem.ev_zero _ _ _) | (with_reducible (apply Eq.trans (Mem.ev_tmp _ _ _)); simp only [List.getD_cons_succ, List.getD_cons_zero] <;> rfl)) (by first | (with_reducible exact Mem.ev_const _ _) | (with_reducible exact Mem.ev_zero _ _ _) | (with_reducible (apply Eq.trans (Mem.ev_tmp _ _ _)); simp only [List.getD_cons_succ, List.getD_cons_zero] <;> rfl)) ?_))
      (simp only [Act.put, List.setIfInBounds_toArray, List.set_cons_zero, List.set_cons_succ])
      (first | (refine plan_move _ _ (by rfl) (by rfl) (.inl (by rfl)) (by first | (with_reducible exact Mem.ev_const _ _) | (with_reducible exact Mem.ev_zero _ _ _) | (with_reducible (apply Eq.trans (Mem.ev_tmp _ _ _)); simp only [List.getD_cons_succ, List.getD_cons_zero] <;> rfl)) ?_) | (refine plan_move _ _ (by rfl) (by rfl) (.inr (by rfl)) (by first | (with_reducible exact Mem.ev_const _ _) | (with_reducible exact Mem.ev_zero _ _ _) | (with_reducible (apply Eq.trans (Mem.ev_tmp _ _ _)); simp only [List.getD_cons_succ, List.getD_cons_zero] <;> rfl)) ?_) | (refine plan_pick_t _ _ _ _ (by rfl) (by rfl) (by rfl) (by first | (with_reducible exact Mem.ev_const _ _) | (with_reducible exact Mem.ev_zero _ _ _) | (with_reducible (apply Eq.trans (Mem.ev_tmp _ _ _)); simp only [List.getD_cons_succ, List.getD_cons_zero] <;> rfl)) (by first | (with_reducible exact Mem.ev_const _ _) | (with_reducible exact Mem.ev_zero _ _ _) | (with_reducible (apply Eq.trans (Mem.ev_tmp _ _ _)); simp only [List.getD_cons_succ, List.getD_cons_zero] <;> rfl)) ?_) | (refine plan_pick_f _ _ _ _ (by rfl) (by rfl) (by rfl) (by first | (with_reducible exact Mem.ev_const _ _) | (with_reducible exact Mem.ev_zero _ _ _) | (with_reducible (apply Eq.trans (Mem.ev_tmp _ _ _)); simp only [List.getD_cons_succ, List.getD_cons_zero] <;> rfl)) (by first | (with_reducible exact Mem.ev_const _ _) | (with_reducible exact Mem.ev_zero _ _ _) | (with_reducible (apply Eq.trans (Mem.ev_tmp _ _ _)); simp only [List.getD_cons_succ, List.getD_cons_zero] <;> rfl)) ?_))
      (simp only [Act.put, List.setIfInBounds_toArray, List.set_cons_zero, List.set_cons_succ])
      (first | (refine plan_move _ _ (by rfl) (by rfl) (.inl (by rfl)) (by first | (with_reducible exact Mem.ev_const _ _) | (with_reducible exact Mem.ev_zero _ _ _) | (with_reducible (apply Eq.trans (Mem.ev_tmp _ _ _)); simp only [List.getD_cons_succ, List.getD_cons_zero] <;> rfl)) ?_) | (refine plan_move _ _ (by rfl) (by rfl) (.inr (by rfl)) (by first | (with_reducible exact Mem.ev_const _ _) | (with_reducible exact Mem.ev_zero _ _ _) | (with_reducible (apply Eq.trans (Mem.ev_tmp _ _ _)); simp only [List.getD_cons_succ, List.getD_cons_zero] <;> rfl)) ?_) | (refine plan_pick_t _ _ _ _ (by rfl) (by rfl) (by rfl) (by first | (with_reducible exact Mem.ev_const _ _) | (with_reducible exact Mem.ev_zero _ _ _) | (with_reducible (apply Eq.trans (Mem.ev_tmp _ _ _)); simp only [List.getD_cons_succ, List.getD_cons_zero] <;> rfl)) (by first | (with_reducible exact Mem.ev_const _ _) | (with_reducible exact Mem.ev_zero _ _ _) | (with_reducible (apply Eq.trans (Mem.ev_tmp _ _ _)); simp only [List.getD_cons_succ, List.getD_cons_zero] <;> rfl)) ?_) | (refine plan_pick_f _ _ _ _ (by rfl) (by rfl) (by rfl) (by first | (with_reducible exact Mem.ev_const _ _) | (with_reducible exact Mem.ev_zero _ _ _) | (with_reducible (apply Eq.trans (Mem.ev_tmp _ _ _)); simp only [List.getD_cons_succ, List.getD_cons_zero] <;> rfl)) (by first | (with_reducible exact Mem.ev_const _ _) | (with_reducible exact Mem.ev_zero _ _ _) | (with_reducible (apply Eq.trans (Mem.ev_tmp _ _ _)); simp only [List.getD_cons_succ, List.getD_cons_zero] <;> rfl)) ?_))
      (simp only [Act.put, List.setIfInBounds_toArray, List.set_cons_zero, List.set_cons_succ])
      refine plan_len _ _ _ (some ⟨bp, op, none⟩) u cp (by rfl) (by rfl) (by rfl) (by rfl) (by first | (with_reducible exact Mem.ev_const _ _) | (with_reducible exact Mem.ev_zero _ _ _) | (with_reducible (apply Eq.trans (Mem.ev_tmp _ _ _)); simp only [List.getD_cons_succ, List.getD_cons_zero] <;> rfl)) (fun w' => by first | rfl | go_simp) ?_
      (simp only [Act.put, List.setIfInBounds_toArray, List.set_cons_zero, List.set_cons_succ])
      refine plan_bin _ _ _ _ _ _ _ (.int .i64 ((t : Int))) (by rfl) (by rfl) (by rfl) (by first | (with_reducible exact Mem.ev_const _ _) | (with_reducible exact Mem.ev_zero _ _ _) | (with_reducible (apply Eq.trans (Mem.ev_tmp _ _ _)); simp only [List.getD_cons_succ, List.getD_cons_zero] <;> rfl)) (by rfl) (fun wx => o_isub _ _ _ _ _ _ _ (by rw [HU.out]; omega) (by omega) (by omega) wx) ?_
      (simp only [Act.put, List.setIfInBounds_toArray, List.set_cons_zero, List.set_cons_succ])
      refine plan_index 27 3 _ _ bp op u cp t (by rfl) (by rfl) (by rfl) (by first | (with_reducible exact Mem.ev_const _ _) | (with_reducible exact Mem.ev_zero _ _ _) | (with_reducible (apply Eq.trans (Mem.ev_tmp _ _ _)); simp only [List.getD_cons_succ, List.getD_cons_zero] <;> rfl)) (by first | (with_reducible exact Mem.ev_const _ _) | (with_reducible exact Mem.ev_zero _ _ _) | (with_reducible (apply Eq.trans (Mem.ev_tmp _ _ _)); simp only [List.getD_cons_succ, List.getD_cons_zero] <;> rfl)) (by have := HU.out; omega) Try.underlying27 (by kernel_rfl) ?_
      (simp only [Act.put, List.setIfInBounds_toArray, List.set_cons_zero, List.set_cons_succ])
      refine plan_cell 3 _ ⟨bp, op + t, none⟩ (.int .i64 r) _ (by rfl) (by rfl) (by rfl) (by first | (with_reducible exact Mem.ev_const _ _) | (with_reducible exact Mem.ev_zero _ _ _) | (with_reducible (apply Eq.trans (Mem.ev_tmp _ _ _)); simp only [List.getD_cons_succ, List.getD_cons_zero] <;> rfl)) (fun w' hw' => (Below.cell hw' (p := ⟨bp, op + t, none⟩) LT.out).trans CT.out) Try.underlying3 (by rfl) ?_
      (simp only [Act.put, List.setIfInBounds_toArray, List.set_cons_zero, List.set_cons_succ])
      refine plan_row 23 _ g2 _ C 23 (by rfl) (by rfl) (by rfl) (by first | (with_reducible exact Mem.ev_const _ _) | (with_reducible exact Mem.ev_zero _ _ _) | (with_reducible (apply Eq.trans (Mem.ev_tmp _ _ _)); simp only [List.getD_cons_succ, List.getD_cons_zero] <;> rfl)) (fun w' hw' => AW.out.below hw' AW.out.lt) Try.underlying23 (by rfl) (by rw [CS.out]; exact INF.out) ?_
      (simp only [Act.put, List.setIfInBounds_toArray, List.set_cons_zero, List.set_cons_succ])
      refine plan_call 13 _ _ _ (by kernel_rfl) (by rfl) (by rfl) (by rfl) (by first | exact Mem.ev_none _ | (simp only [List.map_toArray, List.map_cons, List.map_nil, Mem.ev_tmp, List.getD_cons_succ, List.getD_cons_zero] <;> rfl)) ?_
      refine (RT.out _ _ (S.below _ _ _ _ RW.out E8.out)).mono ?_
      rintro e z26 ⟨rfl, hb26⟩
      have E26 : Hid (Below x3.heap.size x3 z26) := Lib.hid (E8.out.trans (hb26.mono E8.out.size))
      clear hb26
      refine ⟨_, rfl, E26.out, ?_⟩
      (simp only [Act.put, List.setIfInBounds_toArray, List.set_cons_zero, List.set_cons_succ])
      refine plan_bin _ _ _ _ _ _ _ (.bool false) (by rfl) (by rfl) (by rfl) (by first | (with_reducible exact Mem.ev_const _ _) | (with_reducible exact Mem.ev_zero _ _ _) | (with_reducible (apply Eq.trans (Mem.ev_tmp _ _ _)); simp only [List.getD_cons_succ, List.getD_cons_zero] <;> rfl)) (by first | (with_reducible exact Mem.ev_const _ _) | (with_reducible exact Mem.ev_zero _ _ _) | (with_reducible (apply Eq.trans (Mem.ev_tmp _ _ _)); simp only [List.getD_cons_succ, List.getD_cons_zero] <;> rfl)) (fun wx => o_ine _ _ _ _ _ wx) ?_
      (simp only [Act.put, List.setIfInBounds_toArray, List.set_cons_zero, List.set_cons_succ])
      refine plan_pick_f _ _ _ _ (by rfl) (by rfl) (by rfl) (by first | (with_reducible exact Mem.ev_const _ _) | (with_reducible exact Mem.ev_zero _ _ _) | (with_reducible (apply Eq.trans (Mem.ev_tmp _ _ _)); simp only [List.getD_cons_succ, List.getD_cons_zero] <;> rfl)) (by first | (with_reducible exact Mem.ev_const _ _) | (with_reducible exact Mem.ev_zero _ _ _) | (with_reducible (apply Eq.trans (Mem.ev_tmp _ _ _)); simp only [List.getD_cons_succ, List.getD_cons_zero] <;> rfl)) ?_
      (simp only [Act.put, List.setIfInBounds_toArray, List.set_cons_zero, List.set_cons_succ])
      refine plan_nil ?_
      have G7 : Hid (Below w.heap.size w z26) := Lib.hid (G3.out.trans (E26.out.mono G3.out.size))
      have A7 := Lib.hid (AW.out.below E26.out AW.out.lt); have R7 := Lib.hid (S.below _ _ _ _ RW.out E26.out); have TQ := Lib.hid (TP.out.below E26.out)
      clear AW RW D0 C0 CT LT TP G3
      go_wp2_with fail
      simp only [Nat.add_zero]
      go_loopw [92] (fun v wr => ∃ k : Nat, k ≤ t ∧ v = .int .i64 k ∧ Below z26.heap.size z26 wr) (fun v _ => t - (intOf v).toNat)
      case atStart => exact ⟨0, Nat.zero_le _, rfl, Below.refl _ _⟩
      case round =>
        obtain ⟨k, hk, rfl, hbw⟩ := hrel
        have BW := Lib.hid hbw; have A8 := Lib.hid (A7.out.below hbw A7.out.lt); have R8 := Lib.hid (S.below _ _ _ _ R7.out hbw); have TW := Lib.hid (TQ.out.below hbw)
        clear hbw
        by_cases hkt : k < t
        · have hkt2 : (k : Int) < (t : Int) := by omega
          have cx := sli_cell (i := k + 1) TW.out HPL.out.symm (by rw [HU.out]; omega)
          rw [HPG.out (k + 1) (by rw [HU.out]; omega), show op + (k + 1) = op + 1 + k by omega] at cx
          have hmo := MO.out k hkt; have hkq := KQ.out k hkt
          obtain ⟨q, hq⟩ : ∃ q, q = itp p g (k + 1) := ⟨_, rfl⟩
          rw [← hq] at cx hmo hkq
          obtain ⟨mk, hmk⟩ : ∃ mk, mk = many p q := ⟨_, rfl⟩
          have hm6 := many_le p q
          rw [← hmk] at hmo hkq hm6
          have kdq := fun wx C h => KD.out (q : Int) wx C h
          rw [hkq.1] at kdq
          have KDQ := Lib.hid kdq; have HMO := Lib.hid hmo; have HF := hkq.2
          clear kdq hmo hkq hq hmk
          have hu3 : (u : Int) = (t : Int) + 1 := by rw [HU.out]; omega
          have HU3 := Lib.hid hu3
          clear hu3
          have hku : k + 1 < u := by rw [HU.out]; omega
          have hku2 : (k : Int) < (u : Int) - 1 := by omega
          go_wp2_with (first
            | (refine wpList_load_wanted (by rfl) 23 _ (by rfl) g2 (by rfl) _ Try.underlying23 (by rfl) C _ A8.out (by rw [CS.out]; exact INF.out) ?_))
          refine (KDQ.out _ _ R8.out).mono ?_
          rintro e x4 ⟨v, rfl, hs, hb⟩
          have G4 : Hid (Below z26.heap.size z26 x4) := Lib.hid (BW.out.trans (hb.mono BW.out.size))
          have A8_4 := Lib.hid (A8.out.below hb A8.out.lt)
          have R8_4 := Lib.hid (S.below _ _ _ _ R8.out hb)
          obtain ⟨ak, ck, rfl⟩ := hs.hdn (kz_length p q mk)
          have TK := Lib.hid hs
          clear hs
          clear hb
          clear A8 R8 BW
          go_wp2_with (first
            | (refine wpList_load_wanted (by rfl) 23 _ (by rfl) g2 (by rfl) _ Try.underlying23 (by rfl) C _ A8_4.out (by rw [CS.out]; exact INF.out) ?_))
          go_loopw [13, 100] (fun c v wr => ∃ j : Nat, j ≤ mk ∧ c = .int .i64 (manyG p g q j : Nat) ∧ v = .int .i64 j ∧ Below x4.heap.size x4 wr) (fun _ v _ => mk - (intOf v).toNat)
          case atStart => exact ⟨0, Nat.zero_le _, rfl, rfl, Below.refl _ _⟩
          case round =>
            obtain ⟨j, hj, rfl, rfl, hbw⟩ := hrel
            have BX := Lib.hid hbw; have A9 := Lib.hid (A8_4.out.below hbw A8_4.out.lt); have R9 := Lib.hid (S.below _ _ _ _ R8_4.out hbw); have TX := Lib.hid (TK.out.below hbw)
            clear hbw
            by_cases hjm : j < mk
            · have hjm2 : (j : Int) < (mk : Int) := by omega
              obtain ⟨b2, o2, rfl, _, cy⟩ := sli_at (i := j) TX.out (kz_length p q mk).symm hjm
              rw [show (kz p q mk).getD j 0 = ((fst p q + j : Nat) : Int) by simp [kz, List.getD_eq_getElem?_getD, hjm]] at cy
              have hstep : manyG p g q (j + 1) = manyG p g q j + cntI (UZ p ((fst p q + j : Nat) : Int) p) (g : Int) := rfl
              obtain ⟨z, hz⟩ : ∃ z : Int, z = ((fst p q + j : Nat) : Int) := ⟨_, rfl⟩
              rw [← hz] at cy hstep
              obtain ⟨lu, hlu⟩ : ∃ l, l = UZ p z p := ⟨_, rfl⟩
              have unz := fun wx C h => UN.out z wx C h
              have hul := ULN.out z; have hM4 := manyG_le p g q j
              rw [← hlu] at unz hul hstep
              obtain ⟨n, hn⟩ : ∃ n, n = lu.length := ⟨_, rfl⟩
              rw [← hn] at hul
              obtain ⟨M, hM⟩ : ∃ M, M = manyG p g q j := ⟨_, rfl⟩
              rw [← hM] at hstep hM4
              have UNZ := Lib.hid unz; have HST := Lib.hid hstep; have HN := Lib.hid hn
              try rw [← hM]
              clear unz hstep hz hlu hn hM
              go_wp2_with (first
                | (refine wpList_load_wanted (by rfl) 23 _ (by rfl) g2 (by rfl) _ Try.underlying23 (by rfl) C _ A9.out (by rw [CS.out]; exact INF.out) ?_))
              refine (UNZ.out _ _ R9.out).mono ?_
              rintro e x5 ⟨v, rfl, hs, hb⟩
              have G5 : Hid (Below x4.heap.size x4 x5) := Lib.hid (BX.out.trans (hb.mono BX.out.size))
              have A9_5 := Lib.hid (A9.out.below hb A9.out.lt)
              have R9_5 := Lib.hid (S.below _ _ _ _ R9.out hb)
              obtain ⟨au, cu, rfl⟩ := hs.hdn HN.out.symm
              have TU := Lib.hid hs
              clear hs
              clear hb
              clear A9 R9 BX
              go_wp2_with (first
                | (refine wpList_load_wanted (by rfl) 23 _ (by rfl) g2 (by rfl) _ Try.underlying23 (by rfl) C _ A9_5.out (by rw [CS.out]; exact INF.out) ?_))
              go_loopw [13, 108] (fun c v wr => ∃ i : Nat, i ≤ n ∧ c = .int .i64 ((M + cntI (lu.take i) (g : Int) : Nat) : Int) ∧ v = .int .i64 i ∧ wr = x5) (fun _ v _ => n - (intOf v).toNat)
              case atStart => exact ⟨0, Nat.zero_le _, rfl, rfl, rfl⟩
              case round =>
                obtain ⟨i, hi, rfl, rfl, rfl⟩ := hrel
                by_cases hin : i < n
                · have hin2 : (i : Int) < (n : Int) := by omega
                  obtain ⟨b3, o3, rfl, _, cz⟩ := sli_at (i := i) TU.out HN.out hin
                  have htk := cntI_take lu (g : Int) i (by rw [← HN.out]; exact hin)
                  obtain ⟨y, hy⟩ : ∃ y, y = lu.getD i 0 := ⟨_, rfl⟩
                  rw [← hy] at cz htk
                  clear hy
                  have hci := cntI_le lu (g : Int) i
                  skip
                  by_cases hyg : y = (g : Int)
                  · subst hyg
                    rw [if_pos rfl] at htk
                    have HTK := Lib.hid htk
                    clear htk
                    go_wp2_with fail
                    go_roundw
                    case rel => exact ⟨i + 1, by omega, by rw [HTK.out]; go_num, by go_num, by first | rfl | trivial⟩
                    case measure => simp [intOf]; omega
                  · rw [if_neg hyg, Nat.add_zero] at htk
                    have HTK := Lib.hid htk
                    clear htk
                    go_wp2_with fail
                    go_roundw
                    case rel => exact ⟨i + 1, by omega, by rw [HTK.out]; rfl, by go_num, by first | rfl | trivial⟩
                    case measure => simp [intOf]; omega
                · have hie : n = i := by omega
                  have hall : lu.take n = lu := List.take_of_length_le (by rw [← HN.out]; exact Nat.le_refl _)
                  subst hie
                  rw [hall]
                  clear hall
                  rw [← HST.out]
                  clear hi hin
                  go_wp2_with fail
                  go_roundw
                  case rel => exact ⟨j + 1, by omega, rfl, by go_num, G5.out⟩
                  case measure => simp [intOf]; omega
            · have hjk : mk = j := by omega
              subst hjk
              rw [HMO.out]
              clear hj hjm
              go_wp2_with fail
              go_roundw
              case rel => exact ⟨k + 1, by omega, by go_num, G4.out.trans (BX.out.mono G4.out.size)⟩
              case measure => simp [intOf]; omega
        · have hkk : u = k + 1 := by rw [HU.out]; omega
          have hku : ¬ k + 1 < u := by omega
          have hku2 : ¬ (k : Int) < (u : Int) - 1 := by omega
          clear hkk
          go_wp2_with fail
          refine (AL.out _).mono ?_
          rintro e x9 ⟨rfl, hb9⟩
          have G9 : Hid (Below z26.heap.size z26 x9) := Lib.hid (BW.out.trans (hb9.mono BW.out.size))
          clear hb9
          go_wp2_with fail
          go_ret
          exact ⟨rfl, G7.out.trans (G9.out.mono G7.out.size)⟩
end Sha
end Go.Proofs.Ytbboljmemomcnaa
