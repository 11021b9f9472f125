/- The walk of the law CipherOne: no two epochs and blocks have one nonce; each quarter round comes back. -/
import Derived.Test.YtikfhabcjjoloaaDoorCipEq
namespace Go.Proofs.YtikfhabcjjoloaaDoor
namespace Sha
open Go.RowKit Mem
/-- Two variables that were made, whole. -/
def TwoAt4 (w : World) (C D : Array Value) (t : TypeId) (x y : Value) (wr : World) : Prop := ∃ b c, x = .pointer (some ⟨b, 0, none⟩) ∧ y = .pointer (some ⟨c, 0, none⟩) ∧ At wr b C t ∧ At wr c D t ∧ Below w.heap.size w wr
theorem run_alloc12 (w : World) : (Instr.alloc 23 true (.tuple #[])).run Tryd.prog w = .ok (.pointer (some ⟨w.heap.size, 0, none⟩)) (w.alloc (.cells Z12 23)) := by kernel_rfl
theorem infoU64 : (Tryd.prog.info? 42).map (·.size) = some 1 := by kernel_rfl
theorem info2w : (Tryd.prog.info? 41).map (·.size) = some 2 := by kernel_rfl
theorem info2d : (Tryd.prog.info? 43).map (·.size) = some 2 := by kernel_rfl
set_option maxRecDepth 100000 in
set_option maxHeartbeats 4000000 in
theorem one_any (n0 n1 : BitVec 32) (d0 d1 : BitVec 64) (q : Q4) (w : World) (hL : CTabs w) :
    Calls Tryd.prog 6 #[.agg #[.int .u32 (V n0), .int .u32 (V n1)], .agg #[.int .u64 (d0.toNat : Int), .int .u64 (d1.toNat : Int)], .agg (qOf q)] w fun e w' => e = .returned (.bool true) ∧ Below w.heap.size w w' := by
  have hal := fun wx (h : Below w.heap.size w wx) => alive4_any wx (hL.below h (Nat.le_refl _))
  have hna := fun wx => nonce_any n0 d0 wx
  have hnb := fun wx => nonce_any n1 d1 wx
  have hrn := fun wx => rnonce_any n0 d0 wx
  have hqu := fun wx => quarter_any q wx
  have hbk := fun wx => rback_any (qr q) wx
  rw [qback_qr] at hbk
  have e1 := fun x y wx => eql_nc n0 n1 d0 d1 x y wx
  have e2 := fun x y wx => eql_nc n0 n0 d0 d0 x y wx
  rw [same_yes] at e2
  have e3 := fun x y wx => eql_q q x y wx
  obtain ⟨sm, hsm⟩ : ∃ s, s = (cnonce n0 d0 == cnonce n1 d1) := ⟨_, rfl⟩
  obtain ⟨NA, hNA⟩ : ∃ M, M = ncOf n0 d0 := ⟨_, rfl⟩
  obtain ⟨NB, hNB⟩ : ∃ M, M = ncOf n1 d1 := ⟨_, rfl⟩
  obtain ⟨QQ, hQQ⟩ : ∃ M, M = qOf q := ⟨_, rfl⟩
  obtain ⟨QR, hQR⟩ : ∃ M, M = qOf (qr q) := ⟨_, rfl⟩
  obtain ⟨P3, hP3⟩ : ∃ M, M = (#[.int .u32 (V n0), .int .u32 (V n1)] : Array Value) := ⟨_, rfl⟩
  obtain ⟨P4, hP4⟩ : ∃ M, M = (#[.int .u64 (d0.toNat : Int), .int .u64 (d1.toNat : Int)] : Array Value) := ⟨_, rfl⟩
  obtain ⟨X, hX⟩ : ∃ X, X = Z12 := ⟨_, rfl⟩
  have hall := run_alloc12
  rw [← hX] at hall
  have hXs : X.size = 12 := by rw [hX]; simp [Z12, u8s]
  have nas : NA.size = 12 := by rw [hNA]; exact ncOf_size _ _
  have nbs : NB.size = 12 := by rw [hNB]; exact ncOf_size _ _
  have nao : NA.all (·.oneCell') = true := by rw [hNA]; exact ncOf_one _ _
  have nbo : NB.all (·.oneCell') = true := by rw [hNB]; exact ncOf_one _ _
  have qs : QQ.size = 4 := by rw [hQQ]; rfl
  have c0 : P3[0]? = some (.int .u32 (V n0)) := by rw [hP3]; rfl
  have c1 : P3[1]? = some (.int .u32 (V n1)) := by rw [hP3]; rfl
  have d0' : P4[0]? = some (.int .u64 (d0.toNat : Int)) := by rw [hP4]; rfl
  have d1' : P4[1]? = some (.int .u64 (d1.toNat : Int)) := by rw [hP4]; rfl
  rw [← hNA] at hna hrn e1 e2; rw [← hNB] at hnb e1; rw [← hQQ] at hqu hbk e3; rw [← hQR] at hqu hbk
  rw [← hsm] at e1
  rw [← hQQ, ← hP3, ← hP4]
  have a3 : At (((w.alloc (.cells P3 41)).alloc (.cells P4 43)).alloc (.cells QQ 26)) w.heap.size P3 41 := ((at_new w P3 _).alloc _).alloc _
  have a4 : At (((w.alloc (.cells P3 41)).alloc (.cells P4 43)).alloc (.cells QQ 26)) (w.heap.size + 1) P4 43 := by
    have h := (at_new (w.alloc (.cells P3 41)) P4 43).alloc (.cells QQ 26)
    simpa using h
  have a5 : At (((w.alloc (.cells P3 41)).alloc (.cells P4 43)).alloc (.cells QQ 26)) (w.heap.size + 1 + 1) QQ 26 := by
    have h := at_new ((w.alloc (.cells P3 41)).alloc (.cells P4 43)) QQ 26
    simpa using h
  have ab : Below w.heap.size w (((w.alloc (.cells P3 41)).alloc (.cells P4 43)).alloc (.cells QQ 26)) := (((Below.refl _ _).alloc (Nat.le_refl _) _).alloc (by simp) _).alloc (by simp; omega) _
  have hcs : (n0 = n1 ∧ d0 = d1 ∧ sm = true) ∨ (n0 = n1 ∧ ¬ (d0.toNat : Int) = (d1.toNat : Int) ∧ sm = false) ∨ (¬ V n0 = V n1 ∧ sm = false) := by
    by_cases h1 : n0 = n1
    · by_cases h2 : d0 = d1
      · exact .inl ⟨h1, h2, by rw [hsm, h1, h2]; exact same_yes _ _⟩
      · exact .inr (.inl ⟨h1, fun h => h2 (BitVec.eq_of_toNat_eq (by omega)), by rw [hsm]; exact same_no2 _ _ _ _ h2⟩)
    · exact .inr (.inr ⟨fun h => h1 (BitVec.eq_of_toNat_eq (by unfold V at h; omega)), by rw [hsm]; exact same_no1 _ _ _ _ h1⟩)
  have AL := Lib.hid hal; have HA := Lib.hid hna; have HB := Lib.hid hnb; have RN := Lib.hid hrn; have QU := Lib.hid hqu; have BK := Lib.hid hbk; have EQ1 := Lib.hid e1; have EQ2 := Lib.hid e2; have EQ3 := Lib.hid e3; have ALL := Lib.hid hall; have XS := Lib.hid hXs; have NAS := Lib.hid nas; have NBS := Lib.hid nbs; have NAO := Lib.hid nao; have NBO := Lib.hid nbo; have QS := Lib.hid qs
  have C0 := Lib.hid c0; have C1 := Lib.hid c1; have D0 := Lib.hid d0'; have D1 := Lib.hid d1'; have A3 := Lib.hid a3; have A4 := Lib.hid a4; have A5 := Lib.hid a5; have AB := Lib.hid ab; have CS := Lib.hid hcs
  clear hal hna hnb hrn hqu hbk e1 e2 e3 hsm hall hXs nas nbs nao nbo qs c0 c1 d0' d1' a3 a4 a5 ab hcs hX hP3 hP4 hQQ hQR hNA hNB hL
  go_enter Tryd.func6, Tryd.ntmps6
  go_upto_region 1 with fail
  generalize ((w.alloc (.cells P3 41)).alloc (.cells P4 43)).alloc (.cells QQ 26) = w1 at *
  go_cut [7] (fun x wx => x = .bool sm ∧ wx = w1)
  case first =>
    have c0 : w1.cell? ⟨w.heap.size, 0, none⟩ = some (.int .u32 (V n0)) := by rw [A3.out.cell]; exact C0.out
    have c1 : w1.cell? ⟨w.heap.size, 1, none⟩ = some (.int .u32 (V n1)) := by rw [A3.out.cell]; exact C1.out
    have d0' : w1.cell? ⟨w.heap.size + 1, 0, none⟩ = some (.int .u64 (d0.toNat : Int)) := by rw [A4.out.cell]; exact D0.out
    have d1' : w1.cell? ⟨w.heap.size + 1, 1, none⟩ = some (.int .u64 (d1.toNat : Int)) := by rw [A4.out.cell]; exact D1.out
    rcases CS.out with ⟨rfl, rfl, hs⟩ | ⟨rfl, hd, hs⟩ | ⟨hn, hs⟩
    · go_wp2_with fail
      go_meet
      exact ⟨by first | (rw [hs]; done) | (rw [hs, show ((d0.toNat : Int) == (d1.toNat : Int)) = false from beq_eq_false_iff_ne.2 hd]), rfl⟩
    · go_wp2_with fail
      go_meet
      exact ⟨by first | (rw [hs]; done) | (rw [hs, show ((d0.toNat : Int) == (d1.toNat : Int)) = false from beq_eq_false_iff_ne.2 hd]), rfl⟩
    · go_wp2_with fail
      go_meet
      exact ⟨by first | (rw [hs]; done) | (rw [hs, show ((d0.toNat : Int) == (d1.toNat : Int)) = false from beq_eq_false_iff_ne.2 hd]), rfl⟩
  case rest =>
    obtain ⟨rfl, rfl⟩ := hcut
    clear CS
    go_wp2_with fail
    go_cut [8, 9] (fun x y wx => TwoAt4 wc NA NB 23 x y wx)
    case first =>
      refine wp_region_plan ((.take 0 (.take 1 (.take 2 (.take 3 (.take 5 (.take 6 (.take 7 (.take 8 (.three 4 10 11 (.three 9 10 11 (.two 10 11 (.sole 11 (.sole 12 (.sole 13 .done))) (.sole 10 (.sole 12 (.sole 13 .done)))) (.two 9 11 (.sole 11 (.sole 12 (.sole 13 .done))) (.sole 9 (.sole 12 (.sole 13 .done)))) (.two 9 10 (.sole 10 (.sole 12 (.sole 13 .done))) (.sole 9 (.sole 12 (.sole 13 .done))))) (.two 4 11 (.two 9 11 (.sole 11 (.sole 12 (.sole 13 .done))) (.sole 9 (.sole 12 (.sole 13 .done)))) (.sole 4 (.sole 9 (.sole 12 (.sole 13 .done))))) (.two 4 10 (.two 9 10 (.sole 10 (.sole 12 (.sole 13 .done))) (.sole 9 (.sole 12 (.sole 13 .done)))) (.sole 4 (.sole 9 (.sole 12 (.sole 13 .done))))))))))))))) (by kernel_rfl) (by kernel_rfl) (by kernel_rfl) ?_
      refine plan_index_arr 41 24 2 _ _ w.heap.size 0 1 0 (by rfl) (by rfl) (by rfl) (by first | (with_reducible exact Mem.ev_const _ _) | (with_reducible exact Mem.ev_zero _ _ _) | (with_reducible (apply Eq.trans (Mem.ev_tmp _ _ _)); simp only [List.getD_cons_succ, List.getD_cons_zero] <;> rfl)) (by rfl) (by omega) Tryd.underlying41 (by kernel_rfl) (by decide) ?_
      (simp only [Act.put, List.setIfInBounds_toArray, List.set_cons_zero, List.set_cons_succ])
      refine plan_cell 24 _ _ _ _ (by rfl) (by rfl) (by rfl) (by first | (with_reducible exact Mem.ev_const _ _) | (with_reducible exact Mem.ev_zero _ _ _) | (with_reducible (apply Eq.trans (Mem.ev_tmp _ _ _)); simp only [List.getD_cons_succ, List.getD_cons_zero] <;> rfl)) (fun w' hw' => ((A3.out.below hw' A3.out.lt).cell _).trans C0.out) Tryd.underlying24 (by rfl) ?_
      (simp only [Act.put, List.setIfInBounds_toArray, List.set_cons_zero, List.set_cons_succ])
      refine plan_index_arr 43 42 2 _ _ (w.heap.size + 1) 0 1 0 (by rfl) (by rfl) (by rfl) (by first | (with_reducible exact Mem.ev_const _ _) | (with_reducible exact Mem.ev_zero _ _ _) | (with_reducible (apply Eq.trans (Mem.ev_tmp _ _ _)); simp only [List.getD_cons_succ, List.getD_cons_zero] <;> rfl)) (by rfl) (by omega) Tryd.underlying43 (by kernel_rfl) (by decide) ?_
      (simp only [Act.put, List.setIfInBounds_toArray, List.set_cons_zero, List.set_cons_succ])
      refine plan_cell 42 _ _ _ _ (by rfl) (by rfl) (by rfl) (by first | (with_reducible exact Mem.ev_const _ _) | (with_reducible exact Mem.ev_zero _ _ _) | (with_reducible (apply Eq.trans (Mem.ev_tmp _ _ _)); simp only [List.getD_cons_succ, List.getD_cons_zero] <;> rfl)) (fun w' hw' => ((A4.out.below hw' A4.out.lt).cell _).trans D0.out) Tryd.underlying42 (by rfl) ?_
      (simp only [Act.put, List.setIfInBounds_toArray, List.set_cons_zero, List.set_cons_succ])
      refine plan_index_arr 41 24 2 _ _ w.heap.size 0 1 1 (by rfl) (by rfl) (by rfl) (by first | (with_reducible exact Mem.ev_const _ _) | (with_reducible exact Mem.ev_zero _ _ _) | (with_reducible (apply Eq.trans (Mem.ev_tmp _ _ _)); simp only [List.getD_cons_succ, List.getD_cons_zero] <;> rfl)) (by rfl) (by omega) Tryd.underlying41 (by kernel_rfl) (by decide) ?_
      (simp only [Act.put, List.setIfInBounds_toArray, List.set_cons_zero, List.set_cons_succ])
      refine plan_cell 24 _ _ _ _ (by rfl) (by rfl) (by rfl) (by first | (with_reducible exact Mem.ev_const _ _) | (with_reducible exact Mem.ev_zero _ _ _) | (with_reducible (apply Eq.trans (Mem.ev_tmp _ _ _)); simp only [List.getD_cons_succ, List.getD_cons_zero] <;> rfl)) (fun w' hw' => ((A3.out.below hw' A3.out.lt).cell _).trans C1.out) Tryd.underlying24 (by rfl) ?_
      (simp only [Act.put, List.setIfInBounds_toArray, List.set_cons_zero, List.set_cons_succ])
      refine plan_index_arr 43 42 2 _ _ (w.heap.size + 1) 0 1 1 (by rfl) (by rfl) (by rfl) (by first | (with_reducible exact Mem.ev_const _ _) | (with_reducible exact Mem.ev_zero _ _ _) | (with_reducible (apply Eq.trans (Mem.ev_tmp _ _ _)); simp only [List.getD_cons_succ, List.getD_cons_zero] <;> rfl)) (by rfl) (by omega) Tryd.underlying43 (by kernel_rfl) (by decide) ?_
      (simp only [Act.put, List.setIfInBounds_toArray, List.set_cons_zero, List.set_cons_succ])
      refine plan_cell 42 _ _ _ _ (by rfl) (by rfl) (by rfl) (by first | (with_reducible exact Mem.ev_const _ _) | (with_reducible exact Mem.ev_zero _ _ _) | (with_reducible (apply Eq.trans (Mem.ev_tmp _ _ _)); simp only [List.getD_cons_succ, List.getD_cons_zero] <;> rfl)) (fun w' hw' => ((A4.out.below hw' A4.out.lt).cell _).trans D1.out) Tryd.underlying42 (by rfl) ?_
      (simp only [Act.put, List.setIfInBounds_toArray, List.set_cons_zero, List.set_cons_succ])
      have B : Hid (Below wc.heap.size wc wc.drew) := (Below.refl _ _).drew
      generalize wc.drew = W at *
      repeat' (first
        | (refine plan_two ?_ ?_)
        | (refine plan_three ?_ ?_ ?_)
        | (refine plan_call (i := 4) 18 _ _ _ (by kernel_rfl) (by rfl) (by rfl) (by rfl) (by first | exact Mem.ev_none _ | (simp only [List.map_toArray, List.map_cons, List.map_nil, Mem.ev_tmp, List.getD_cons_succ, List.getD_cons_zero] <;> rfl)) ?_
           refine (HA.out _).mono ?_
           rintro e W ⟨rfl, hbn⟩
           have B := Lib.hid (B.out.trans (hbn.mono B.out.size))
           (try (have N8 := Lib.hid (N8.out.below hbn N8.out.lt)))
           (try (have N9 := Lib.hid (N9.out.below hbn N9.out.lt)))
           clear hbn
           refine ⟨_, rfl, B.out, ?_⟩
           (simp only [Act.put, List.setIfInBounds_toArray, List.set_cons_zero, List.set_cons_succ]))
        | (refine plan_call (i := 9) 18 _ _ _ (by kernel_rfl) (by rfl) (by rfl) (by rfl) (by first | exact Mem.ev_none _ | (simp only [List.map_toArray, List.map_cons, List.map_nil, Mem.ev_tmp, List.getD_cons_succ, List.getD_cons_zero] <;> rfl)) ?_
           refine (HB.out _).mono ?_
           rintro e W ⟨rfl, hbn⟩
           have B := Lib.hid (B.out.trans (hbn.mono B.out.size))
           (try (have N8 := Lib.hid (N8.out.below hbn N8.out.lt)))
           (try (have N9 := Lib.hid (N9.out.below hbn N9.out.lt)))
           clear hbn
           refine ⟨_, rfl, B.out, ?_⟩
           (simp only [Act.put, List.setIfInBounds_toArray, List.set_cons_zero, List.set_cons_succ]))
        | (refine plan_alloc_any (i := 10) 23 X (by rfl) (by rfl) (by rfl) ALL.out (fun W' h => h _ _ B.out B.out.size) ?_
           intro b8 W ha hlo hk hbb
           have LO8 := Lib.hid (Nat.le_trans B.out.size hlo)
           have B := Lib.hid (hbb _ _ B.out B.out.size)
           have N8 := Lib.hid ha
           (try (have NE := Lib.hid (hk _ _ _ N9.out).2.symm; have N9 := Lib.hid (hk _ _ _ N9.out).1))
           clear ha hlo hk hbb
           (simp only [Act.put, List.setIfInBounds_toArray, List.set_cons_zero, List.set_cons_succ]))
        | (refine plan_alloc_any (i := 11) 23 X (by rfl) (by rfl) (by rfl) ALL.out (fun W' h => h _ _ B.out B.out.size) ?_
           intro b9 W ha hlo hk hbb
           have LO9 := Lib.hid (Nat.le_trans B.out.size hlo)
           have B := Lib.hid (hbb _ _ B.out B.out.size)
           have N9 := Lib.hid ha
           (try (have NE := Lib.hid (hk _ _ _ N8.out).2; have N8 := Lib.hid (hk _ _ _ N8.out).1))
           clear ha hlo hk hbb
           (simp only [Act.put, List.setIfInBounds_toArray, List.set_cons_zero, List.set_cons_succ]))
        | (refine plan_store_any (i := 12) 23 _ _ b8 NA X 23 (by rfl) (by rfl) (by rfl) (by rfl) (by rfl) (by rfl) (by rw [NAS.out]; exact info12) N8.out (by rw [NAS.out, XS.out]) NAO.out (fun W' h => h _ _ B.out LO8.out) ?_
           intro W ha hk hbb
           have B := Lib.hid (hbb _ _ B.out LO8.out)
           have N8 := Lib.hid ha
           have N9 := Lib.hid (hk _ _ _ N9.out NE.out.symm)
           clear ha hk hbb)
        | (refine plan_store_any (i := 13) 23 _ _ b9 NB X 23 (by rfl) (by rfl) (by rfl) (by rfl) (by rfl) (by rfl) (by rw [NBS.out]; exact info12) N9.out (by rw [NBS.out, XS.out]) NBO.out (fun W' h => h _ _ B.out LO9.out) ?_
           intro W ha hk hbb
           have B := Lib.hid (hbb _ _ B.out LO9.out)
           have N9 := Lib.hid ha
           have N8 := Lib.hid (hk _ _ _ N8.out NE.out)
           clear ha hk hbb))
      all_goals (refine plan_nil ?_; go_wp2_with fail; go_meet; exact ⟨b8, b9, rfl, rfl, N8.out, N9.out, B.out⟩)
    case rest =>
      obtain ⟨b8, b9, rfl, rfl, h8, h9, hb⟩ := hcut
      have WB := Lib.hid (AB.out.trans (hb.mono AB.out.size)); have N8 := Lib.hid h8; have N9 := Lib.hid h9; have A3' := Lib.hid (A3.out.below hb A3.out.lt); have A4' := Lib.hid (A4.out.below hb A4.out.lt); have A5' := Lib.hid (A5.out.below hb A5.out.lt)
      clear h8 h9 hb AB A3 A4 A5
      have A3 := A3'; have A4 := A4'; have A5 := A5'
      clear A3' A4' A5'
      generalize wc = w3 at *
      go_wp2_with fail
      refine wp_region_plan (.take 0 (.take 1 (.take 2 (.take 3 (.take 4 (.take 5 (.take 6 (.take 7 (.take 8 (.take 9 (.take 10 (.sole 11 (.take 12 (.take 13 (.take 14 (.take 15 (.take 18 (.sole 16 (.sole 17 (.take 19 (.take 20 (.take 21 (.sole 22 (.take 23 (.take 24 .done))))))))))))))))))))))))) (by kernel_rfl) (by kernel_rfl) (by kernel_rfl) ?_
      have B : Hid (Below w3.heap.size w3 w3.drew) := (Below.refl _ _).drew
      generalize w3.drew = W at *
      refine plan_row 23 _ b8 _ NA 23 (by rfl) (by rfl) (by rfl) (by first | (with_reducible exact Mem.ev_const _ _) | (with_reducible exact Mem.ev_zero _ _ _) | (with_reducible (apply Eq.trans (Mem.ev_tmp _ _ _)); simp only [List.getD_cons_succ, List.getD_cons_zero] <;> rfl)) (fun w' hw' => N8.out.below hw' N8.out.lt) Tryd.underlying23 (by rfl) (by rw [NAS.out]; exact info12) ?_
      (simp only [Act.put, List.setIfInBounds_toArray, List.set_cons_zero, List.set_cons_succ])
      refine plan_row 23 _ b9 _ NB 23 (by rfl) (by rfl) (by rfl) (by first | (with_reducible exact Mem.ev_const _ _) | (with_reducible exact Mem.ev_zero _ _ _) | (with_reducible (apply Eq.trans (Mem.ev_tmp _ _ _)); simp only [List.getD_cons_succ, List.getD_cons_zero] <;> rfl)) (fun w' hw' => N9.out.below hw' N9.out.lt) Tryd.underlying23 (by rfl) (by rw [NBS.out]; exact info12) ?_
      (simp only [Act.put, List.setIfInBounds_toArray, List.set_cons_zero, List.set_cons_succ])
      refine plan_bin _ _ _ _ _ _ _ _ (by rfl) (by rfl) (by rfl) (by first | (with_reducible exact Mem.ev_const _ _) | (with_reducible exact Mem.ev_zero _ _ _) | (with_reducible (apply Eq.trans (Mem.ev_tmp _ _ _)); simp only [List.getD_cons_succ, List.getD_cons_zero] <;> rfl)) (by first | (with_reducible exact Mem.ev_const _ _) | (with_reducible exact Mem.ev_zero _ _ _) | (with_reducible (apply Eq.trans (Mem.ev_tmp _ _ _)); simp only [List.getD_cons_succ, List.getD_cons_zero] <;> rfl)) (EQ1.out _ _) ?_
      (simp only [Act.put, List.setIfInBounds_toArray, List.set_cons_zero, List.set_cons_succ])
      (first | (refine plan_move _ _ (by rfl) (by rfl) (.inl (by rfl)) (by first | (with_reducible exact Mem.ev_const _ _) | (with_reducible exact Mem.ev_zero _ _ _) | (with_reducible (apply Eq.trans (Mem.ev_tmp _ _ _)); simp only [List.getD_cons_succ, List.getD_cons_zero] <;> rfl)) ?_) | (refine plan_move _ _ (by rfl) (by rfl) (.inr (by rfl)) (by first | (with_reducible exact Mem.ev_const _ _) | (with_reducible exact Mem.ev_zero _ _ _) | (with_reducible (apply Eq.trans (Mem.ev_tmp _ _ _)); simp only [List.getD_cons_succ, List.getD_cons_zero] <;> rfl)) ?_) | (refine plan_pick_t _ _ _ _ (by rfl) (by rfl) (by rfl) (by first | (with_reducible exact Mem.ev_const _ _) | (with_reducible exact Mem.ev_zero _ _ _) | (with_reducible (apply Eq.trans (Mem.ev_tmp _ _ _)); simp only [List.getD_cons_succ, List.getD_cons_zero] <;> rfl)) (by first | (with_reducible exact Mem.ev_const _ _) | (with_reducible exact Mem.ev_zero _ _ _) | (with_reducible (apply Eq.trans (Mem.ev_tmp _ _ _)); simp only [List.getD_cons_succ, List.getD_cons_zero] <;> rfl)) ?_) | (refine plan_pick_f _ _ _ _ (by rfl) (by rfl) (by rfl) (by first | (with_reducible exact Mem.ev_const _ _) | (with_reducible exact Mem.ev_zero _ _ _) | (with_reducible (apply Eq.trans (Mem.ev_tmp _ _ _)); simp only [List.getD_cons_succ, List.getD_cons_zero] <;> rfl)) (by first | (with_reducible exact Mem.ev_const _ _) | (with_reducible exact Mem.ev_zero _ _ _) | (with_reducible (apply Eq.trans (Mem.ev_tmp _ _ _)); simp only [List.getD_cons_succ, List.getD_cons_zero] <;> rfl)) ?_))
      (simp only [Act.put, List.setIfInBounds_toArray, List.set_cons_zero, List.set_cons_succ])
      refine plan_bin _ _ _ _ _ _ _ _ (by rfl) (by rfl) (by rfl) (by first | (with_reducible exact Mem.ev_const _ _) | (with_reducible exact Mem.ev_zero _ _ _) | (with_reducible (apply Eq.trans (Mem.ev_tmp _ _ _)); simp only [List.getD_cons_succ, List.getD_cons_zero] <;> rfl)) (by first | (with_reducible exact Mem.ev_const _ _) | (with_reducible exact Mem.ev_zero _ _ _) | (with_reducible (apply Eq.trans (Mem.ev_tmp _ _ _)); simp only [List.getD_cons_succ, List.getD_cons_zero] <;> rfl)) (fun wx => eql_bb sm _ _ wx) ?_
      (simp only [Act.put, List.setIfInBounds_toArray, List.set_cons_zero, List.set_cons_succ])
      (first | (refine plan_move _ _ (by rfl) (by rfl) (.inl (by rfl)) (by first | (with_reducible exact Mem.ev_const _ _) | (with_reducible exact Mem.ev_zero _ _ _) | (with_reducible (apply Eq.trans (Mem.ev_tmp _ _ _)); simp only [List.getD_cons_succ, List.getD_cons_zero] <;> rfl)) ?_) | (refine plan_move _ _ (by rfl) (by rfl) (.inr (by rfl)) (by first | (with_reducible exact Mem.ev_const _ _) | (with_reducible exact Mem.ev_zero _ _ _) | (with_reducible (apply Eq.trans (Mem.ev_tmp _ _ _)); simp only [List.getD_cons_succ, List.getD_cons_zero] <;> rfl)) ?_) | (refine plan_pick_t _ _ _ _ (by rfl) (by rfl) (by rfl) (by first | (with_reducible exact Mem.ev_const _ _) | (with_reducible exact Mem.ev_zero _ _ _) | (with_reducible (apply Eq.trans (Mem.ev_tmp _ _ _)); simp only [List.getD_cons_succ, List.getD_cons_zero] <;> rfl)) (by first | (with_reducible exact Mem.ev_const _ _) | (with_reducible exact Mem.ev_zero _ _ _) | (with_reducible (apply Eq.trans (Mem.ev_tmp _ _ _)); simp only [List.getD_cons_succ, List.getD_cons_zero] <;> rfl)) ?_) | (refine plan_pick_f _ _ _ _ (by rfl) (by rfl) (by rfl) (by first | (with_reducible exact Mem.ev_const _ _) | (with_reducible exact Mem.ev_zero _ _ _) | (with_reducible (apply Eq.trans (Mem.ev_tmp _ _ _)); simp only [List.getD_cons_succ, List.getD_cons_zero] <;> rfl)) (by first | (with_reducible exact Mem.ev_const _ _) | (with_reducible exact Mem.ev_zero _ _ _) | (with_reducible (apply Eq.trans (Mem.ev_tmp _ _ _)); simp only [List.getD_cons_succ, List.getD_cons_zero] <;> rfl)) ?_))
      (simp only [Act.put, List.setIfInBounds_toArray, List.set_cons_zero, List.set_cons_succ])
      refine plan_row 23 _ b8 _ NA 23 (by rfl) (by rfl) (by rfl) (by first | (with_reducible exact Mem.ev_const _ _) | (with_reducible exact Mem.ev_zero _ _ _) | (with_reducible (apply Eq.trans (Mem.ev_tmp _ _ _)); simp only [List.getD_cons_succ, List.getD_cons_zero] <;> rfl)) (fun w' hw' => N8.out.below hw' N8.out.lt) Tryd.underlying23 (by rfl) (by rw [NAS.out]; exact info12) ?_
      (simp only [Act.put, List.setIfInBounds_toArray, List.set_cons_zero, List.set_cons_succ])
      refine plan_index_arr 41 24 2 _ _ w.heap.size 0 1 0 (by rfl) (by rfl) (by rfl) (by first | (with_reducible exact Mem.ev_const _ _) | (with_reducible exact Mem.ev_zero _ _ _) | (with_reducible (apply Eq.trans (Mem.ev_tmp _ _ _)); simp only [List.getD_cons_succ, List.getD_cons_zero] <;> rfl)) (by rfl) (by omega) Tryd.underlying41 (by kernel_rfl) (by decide) ?_
      (simp only [Act.put, List.setIfInBounds_toArray, List.set_cons_zero, List.set_cons_succ])
      refine plan_cell 24 _ _ _ _ (by rfl) (by rfl) (by rfl) (by first | (with_reducible exact Mem.ev_const _ _) | (with_reducible exact Mem.ev_zero _ _ _) | (with_reducible (apply Eq.trans (Mem.ev_tmp _ _ _)); simp only [List.getD_cons_succ, List.getD_cons_zero] <;> rfl)) (fun w' hw' => ((A3.out.below hw' A3.out.lt).cell _).trans C0.out) Tryd.underlying24 (by rfl) ?_
      (simp only [Act.put, List.setIfInBounds_toArray, List.set_cons_zero, List.set_cons_succ])
      refine plan_index_arr 43 42 2 _ _ (w.heap.size + 1) 0 1 0 (by rfl) (by rfl) (by rfl) (by first | (with_reducible exact Mem.ev_const _ _) | (with_reducible exact Mem.ev_zero _ _ _) | (with_reducible (apply Eq.trans (Mem.ev_tmp _ _ _)); simp only [List.getD_cons_succ, List.getD_cons_zero] <;> rfl)) (by rfl) (by omega) Tryd.underlying43 (by kernel_rfl) (by decide) ?_
      (simp only [Act.put, List.setIfInBounds_toArray, List.set_cons_zero, List.set_cons_succ])
      refine plan_cell 42 _ _ _ _ (by rfl) (by rfl) (by rfl) (by first | (with_reducible exact Mem.ev_const _ _) | (with_reducible exact Mem.ev_zero _ _ _) | (with_reducible (apply Eq.trans (Mem.ev_tmp _ _ _)); simp only [List.getD_cons_succ, List.getD_cons_zero] <;> rfl)) (fun w' hw' => ((A4.out.below hw' A4.out.lt).cell _).trans D0.out) Tryd.underlying42 (by rfl) ?_
      (simp only [Act.put, List.setIfInBounds_toArray, List.set_cons_zero, List.set_cons_succ])
      refine plan_call 19 _ _ _ (by kernel_rfl) (by rfl) (by rfl) (by rfl) (by first | exact Mem.ev_none _ | (simp only [List.map_toArray, List.map_cons, List.map_nil, Mem.ev_tmp, List.getD_cons_succ, List.getD_cons_zero] <;> rfl)) ?_
      refine (RN.out _).mono ?_
      rintro e W ⟨rfl, hbn⟩
      have B := Lib.hid (B.out.trans (hbn.mono B.out.size))
      clear hbn
      refine ⟨_, rfl, B.out, ?_⟩
      (simp only [Act.put, List.setIfInBounds_toArray, List.set_cons_zero, List.set_cons_succ])
      refine plan_bin _ _ _ _ _ _ _ _ (by rfl) (by rfl) (by rfl) (by first | (with_reducible exact Mem.ev_const _ _) | (with_reducible exact Mem.ev_zero _ _ _) | (with_reducible (apply Eq.trans (Mem.ev_tmp _ _ _)); simp only [List.getD_cons_succ, List.getD_cons_zero] <;> rfl)) (by first | (with_reducible exact Mem.ev_const _ _) | (with_reducible exact Mem.ev_zero _ _ _) | (with_reducible (apply Eq.trans (Mem.ev_tmp _ _ _)); simp only [List.getD_cons_succ, List.getD_cons_zero] <;> rfl)) (EQ2.out _ _) ?_
      (simp only [Act.put, List.setIfInBounds_toArray, List.set_cons_zero, List.set_cons_succ])
      (first | (refine plan_move _ _ (by rfl) (by rfl) (.inl (by rfl)) (by first | (with_reducible exact Mem.ev_const _ _) | (with_reducible exact Mem.ev_zero _ _ _) | (with_reducible (apply Eq.trans (Mem.ev_tmp _ _ _)); simp only [List.getD_cons_succ, List.getD_cons_zero] <;> rfl)) ?_) | (refine plan_move _ _ (by rfl) (by rfl) (.inr (by rfl)) (by first | (with_reducible exact Mem.ev_const _ _) | (with_reducible exact Mem.ev_zero _ _ _) | (with_reducible (apply Eq.trans (Mem.ev_tmp _ _ _)); simp only [List.getD_cons_succ, List.getD_cons_zero] <;> rfl)) ?_) | (refine plan_pick_t _ _ _ _ (by rfl) (by rfl) (by rfl) (by first | (with_reducible exact Mem.ev_const _ _) | (with_reducible exact Mem.ev_zero _ _ _) | (with_reducible (apply Eq.trans (Mem.ev_tmp _ _ _)); simp only [List.getD_cons_succ, List.getD_cons_zero] <;> rfl)) (by first | (with_reducible exact Mem.ev_const _ _) | (with_reducible exact Mem.ev_zero _ _ _) | (with_reducible (apply Eq.trans (Mem.ev_tmp _ _ _)); simp only [List.getD_cons_succ, List.getD_cons_zero] <;> rfl)) ?_) | (refine plan_pick_f _ _ _ _ (by rfl) (by rfl) (by rfl) (by first | (with_reducible exact Mem.ev_const _ _) | (with_reducible exact Mem.ev_zero _ _ _) | (with_reducible (apply Eq.trans (Mem.ev_tmp _ _ _)); simp only [List.getD_cons_succ, List.getD_cons_zero] <;> rfl)) (by first | (with_reducible exact Mem.ev_const _ _) | (with_reducible exact Mem.ev_zero _ _ _) | (with_reducible (apply Eq.trans (Mem.ev_tmp _ _ _)); simp only [List.getD_cons_succ, List.getD_cons_zero] <;> rfl)) ?_))
      (simp only [Act.put, List.setIfInBounds_toArray, List.set_cons_zero, List.set_cons_succ])
      (first | (refine plan_move _ _ (by rfl) (by rfl) (.inl (by rfl)) (by first | (with_reducible exact Mem.ev_const _ _) | (with_reducible exact Mem.ev_zero _ _ _) | (with_reducible (apply Eq.trans (Mem.ev_tmp _ _ _)); simp only [List.getD_cons_succ, List.getD_cons_zero] <;> rfl)) ?_) | (refine plan_move _ _ (by rfl) (by rfl) (.inr (by rfl)) (by first | (with_reducible exact Mem.ev_const _ _) | (with_reducible exact Mem.ev_zero _ _ _) | (with_reducible (apply Eq.trans (Mem.ev_tmp _ _ _)); simp only [List.getD_cons_succ, List.getD_cons_zero] <;> rfl)) ?_) | (refine plan_pick_t _ _ _ _ (by rfl) (by rfl) (by rfl) (by first | (with_reducible exact Mem.ev_const _ _) | (with_reducible exact Mem.ev_zero _ _ _) | (with_reducible (apply Eq.trans (Mem.ev_tmp _ _ _)); simp only [List.getD_cons_succ, List.getD_cons_zero] <;> rfl)) (by first | (with_reducible exact Mem.ev_const _ _) | (with_reducible exact Mem.ev_zero _ _ _) | (with_reducible (apply Eq.trans (Mem.ev_tmp _ _ _)); simp only [List.getD_cons_succ, List.getD_cons_zero] <;> rfl)) ?_) | (refine plan_pick_f _ _ _ _ (by rfl) (by rfl) (by rfl) (by first | (with_reducible exact Mem.ev_const _ _) | (with_reducible exact Mem.ev_zero _ _ _) | (with_reducible (apply Eq.trans (Mem.ev_tmp _ _ _)); simp only [List.getD_cons_succ, List.getD_cons_zero] <;> rfl)) (by first | (with_reducible exact Mem.ev_const _ _) | (with_reducible exact Mem.ev_zero _ _ _) | (with_reducible (apply Eq.trans (Mem.ev_tmp _ _ _)); simp only [List.getD_cons_succ, List.getD_cons_zero] <;> rfl)) ?_))
      (simp only [Act.put, List.setIfInBounds_toArray, List.set_cons_zero, List.set_cons_succ])
      refine plan_row 26 _ (w.heap.size + 1 + 1) _ QQ 26 (by rfl) (by rfl) (by rfl) (by first | (with_reducible exact Mem.ev_const _ _) | (with_reducible exact Mem.ev_zero _ _ _) | (with_reducible (apply Eq.trans (Mem.ev_tmp _ _ _)); simp only [List.getD_cons_succ, List.getD_cons_zero] <;> rfl)) (fun w' hw' => A5.out.below hw' A5.out.lt) Tryd.underlying26 (by rfl) (by rw [QS.out]; exact infoQ) ?_
      (simp only [Act.put, List.setIfInBounds_toArray, List.set_cons_zero, List.set_cons_succ])
      refine plan_row 26 _ (w.heap.size + 1 + 1) _ QQ 26 (by rfl) (by rfl) (by rfl) (by first | (with_reducible exact Mem.ev_const _ _) | (with_reducible exact Mem.ev_zero _ _ _) | (with_reducible (apply Eq.trans (Mem.ev_tmp _ _ _)); simp only [List.getD_cons_succ, List.getD_cons_zero] <;> rfl)) (fun w' hw' => A5.out.below hw' A5.out.lt) Tryd.underlying26 (by rfl) (by rw [QS.out]; exact infoQ) ?_
      (simp only [Act.put, List.setIfInBounds_toArray, List.set_cons_zero, List.set_cons_succ])
      refine plan_call 9 _ _ _ (by kernel_rfl) (by rfl) (by rfl) (by rfl) (by first | exact Mem.ev_none _ | (simp only [List.map_toArray, List.map_cons, List.map_nil, Mem.ev_tmp, List.getD_cons_succ, List.getD_cons_zero] <;> rfl)) ?_
      refine (QU.out _).mono ?_
      rintro e W ⟨rfl, hbn⟩
      have B := Lib.hid (B.out.trans (hbn.mono B.out.size))
      clear hbn
      refine ⟨_, rfl, B.out, ?_⟩
      (simp only [Act.put, List.setIfInBounds_toArray, List.set_cons_zero, List.set_cons_succ])
      refine plan_call 20 _ _ _ (by kernel_rfl) (by rfl) (by rfl) (by rfl) (by first | exact Mem.ev_none _ | (simp only [List.map_toArray, List.map_cons, List.map_nil, Mem.ev_tmp, List.getD_cons_succ, List.getD_cons_zero] <;> rfl)) ?_
      refine (BK.out _).mono ?_
      rintro e W ⟨rfl, hbn⟩
      have B := Lib.hid (B.out.trans (hbn.mono B.out.size))
      clear hbn
      refine ⟨_, rfl, B.out, ?_⟩
      (simp only [Act.put, List.setIfInBounds_toArray, List.set_cons_zero, List.set_cons_succ])
      refine plan_bin _ _ _ _ _ _ _ _ (by rfl) (by rfl) (by rfl) (by first | (with_reducible exact Mem.ev_const _ _) | (with_reducible exact Mem.ev_zero _ _ _) | (with_reducible (apply Eq.trans (Mem.ev_tmp _ _ _)); simp only [List.getD_cons_succ, List.getD_cons_zero] <;> rfl)) (by first | (with_reducible exact Mem.ev_const _ _) | (with_reducible exact Mem.ev_zero _ _ _) | (with_reducible (apply Eq.trans (Mem.ev_tmp _ _ _)); simp only [List.getD_cons_succ, List.getD_cons_zero] <;> rfl)) (EQ3.out _ _) ?_
      (simp only [Act.put, List.setIfInBounds_toArray, List.set_cons_zero, List.set_cons_succ])
      (first | (refine plan_move _ _ (by rfl) (by rfl) (.inl (by rfl)) (by first | (with_reducible exact Mem.ev_const _ _) | (with_reducible exact Mem.ev_zero _ _ _) | (with_reducible (apply Eq.trans (Mem.ev_tmp _ _ _)); simp only [List.getD_cons_succ, List.getD_cons_zero] <;> rfl)) ?_) | (refine plan_move _ _ (by rfl) (by rfl) (.inr (by rfl)) (by first | (with_reducible exact Mem.ev_const _ _) | (with_reducible exact Mem.ev_zero _ _ _) | (with_reducible (apply Eq.trans (Mem.ev_tmp _ _ _)); simp only [List.getD_cons_succ, List.getD_cons_zero] <;> rfl)) ?_) | (refine plan_pick_t _ _ _ _ (by rfl) (by rfl) (by rfl) (by first | (with_reducible exact Mem.ev_const _ _) | (with_reducible exact Mem.ev_zero _ _ _) | (with_reducible (apply Eq.trans (Mem.ev_tmp _ _ _)); simp only [List.getD_cons_succ, List.getD_cons_zero] <;> rfl)) (by first | (with_reducible exact Mem.ev_const _ _) | (with_reducible exact Mem.ev_zero _ _ _) | (with_reducible (apply Eq.trans (Mem.ev_tmp _ _ _)); simp only [List.getD_cons_succ, List.getD_cons_zero] <;> rfl)) ?_) | (refine plan_pick_f _ _ _ _ (by rfl) (by rfl) (by rfl) (by first | (with_reducible exact Mem.ev_const _ _) | (with_reducible exact Mem.ev_zero _ _ _) | (with_reducible (apply Eq.trans (Mem.ev_tmp _ _ _)); simp only [List.getD_cons_succ, List.getD_cons_zero] <;> rfl)) (by first | (with_reducible exact Mem.ev_const _ _) | (with_reducible exact Mem.ev_zero _ _ _) | (with_reducible (apply Eq.trans (Mem.ev_tmp _ _ _)); simp only [List.getD_cons_succ, List.getD_cons_zero] <;> rfl)) ?_))
      (simp only [Act.put, List.setIfInBounds_toArray, List.set_cons_zero, List.set_cons_succ])
      (first | (refine plan_move _ _ (by rfl) (by rfl) (.inl (by rfl)) (by first | (with_reducible exact Mem.ev_const _ _) | (with_reducible exact Mem.ev_zero _ _ _) | (with_reducible (apply Eq.trans (Mem.ev_tmp _ _ _)); simp only [List.getD_cons_succ, List.getD_cons_zero] <;> rfl)) ?_) | (refine plan_move _ _ (by rfl) (by rfl) (.inr (by rfl)) (by first | (with_reducible exact Mem.ev_const _ _) | (with_reducible exact Mem.ev_zero _ _ _) | (with_reducible (apply Eq.trans (Mem.ev_tmp _ _ _)); simp only [List.getD_cons_succ, List.getD_cons_zero] <;> rfl)) ?_) | (refine plan_pick_t _ _ _ _ (by rfl) (by rfl) (by rfl) (by first | (with_reducible exact Mem.ev_const _ _) | (with_reducible exact Mem.ev_zero _ _ _) | (with_reducible (apply Eq.trans (Mem.ev_tmp _ _ _)); simp only [List.getD_cons_succ, List.getD_cons_zero] <;> rfl)) (by first | (with_reducible exact Mem.ev_const _ _) | (with_reducible exact Mem.ev_zero _ _ _) | (with_reducible (apply Eq.trans (Mem.ev_tmp _ _ _)); simp only [List.getD_cons_succ, List.getD_cons_zero] <;> rfl)) ?_) | (refine plan_pick_f _ _ _ _ (by rfl) (by rfl) (by rfl) (by first | (with_reducible exact Mem.ev_const _ _) | (with_reducible exact Mem.ev_zero _ _ _) | (with_reducible (apply Eq.trans (Mem.ev_tmp _ _ _)); simp only [List.getD_cons_succ, List.getD_cons_zero] <;> rfl)) (by first | (with_reducible exact Mem.ev_const _ _) | (with_reducible exact Mem.ev_zero _ _ _) | (with_reducible (apply Eq.trans (Mem.ev_tmp _ _ _)); simp only [List.getD_cons_succ, List.getD_cons_zero] <;> rfl)) ?_))
      (simp only [Act.put, List.setIfInBounds_toArray, List.set_cons_zero, List.set_cons_succ])
      refine plan_call 11 _ _ #[] (by kernel_rfl) (by rfl) (by rfl) (by rfl) (by first | exact Mem.ev_none _ | (simp only [List.map_toArray, List.map_cons, List.map_nil, Mem.ev_tmp, List.getD_cons_succ, List.getD_cons_zero] <;> rfl)) ?_
      refine (AL.out _ (WB.out.trans (B.out.mono WB.out.size))).mono ?_
      rintro e W ⟨rfl, hbn⟩
      have B := Lib.hid (B.out.trans (hbn.mono B.out.size))
      clear hbn
      refine ⟨_, rfl, B.out, ?_⟩
      (simp only [Act.put, List.setIfInBounds_toArray, List.set_cons_zero, List.set_cons_succ])
      (first | (refine plan_move _ _ (by rfl) (by rfl) (.inl (by rfl)) (by first | (with_reducible exact Mem.ev_const _ _) | (with_reducible exact Mem.ev_zero _ _ _) | (with_reducible (apply Eq.trans (Mem.ev_tmp _ _ _)); simp only [List.getD_cons_succ, List.getD_cons_zero] <;> rfl)) ?_) | (refine plan_move _ _ (by rfl) (by rfl) (.inr (by rfl)) (by first | (with_reducible exact Mem.ev_const _ _) | (with_reducible exact Mem.ev_zero _ _ _) | (with_reducible (apply Eq.trans (Mem.ev_tmp _ _ _)); simp only [List.getD_cons_succ, List.getD_cons_zero] <;> rfl)) ?_) | (refine plan_pick_t _ _ _ _ (by rfl) (by rfl) (by rfl) (by first | (with_reducible exact Mem.ev_const _ _) | (with_reducible exact Mem.ev_zero _ _ _) | (with_reducible (apply Eq.trans (Mem.ev_tmp _ _ _)); simp only [List.getD_cons_succ, List.getD_cons_zero] <;> rfl)) (by first | (with_reducible exact Mem.ev_const _ _) | (with_reducible exact Mem.ev_zero _ _ _) | (with_reducible (apply Eq.trans (Mem.ev_tmp _ _ _)); simp only [List.getD_cons_succ, List.getD_cons_zero] <;> rfl)) ?_) | (refine plan_pick_f _ _ _ _ (by rfl) (by rfl) (by rfl) (by first | (with_reducible exact Mem.ev_const _ _) | (with_reducible exact Mem.ev_zero _ _ _) | (with_reducible (apply Eq.trans (Mem.ev_tmp _ _ _)); simp only [List.getD_cons_succ, List.getD_cons_zero] <;> rfl)) (by first | (with_reducible exact Mem.ev_const _ _) | (with_reducible exact Mem.ev_zero _ _ _) | (with_reducible (apply Eq.trans (Mem.ev_tmp _ _ _)); simp only [List.getD_cons_succ, List.getD_cons_zero] <;> rfl)) ?_))
      (simp only [Act.put, List.setIfInBounds_toArray, List.set_cons_zero, List.set_cons_succ])
      (first | (refine plan_move _ _ (by rfl) (by rfl) (.inl (by rfl)) (by first | (with_reducible exact Mem.ev_const _ _) | (with_reducible exact Mem.ev_zero _ _ _) | (with_reducible (apply Eq.trans (Mem.ev_tmp _ _ _)); simp only [List.getD_cons_succ, List.getD_cons_zero] <;> rfl)) ?_) | (refine plan_move _ _ (by rfl) (by rfl) (.inr (by rfl)) (by first | (with_reducible exact Mem.ev_const _ _) | (with_reducible exact Mem.ev_zero _ _ _) | (with_reducible (apply Eq.trans (Mem.ev_tmp _ _ _)); simp only [List.getD_cons_succ, List.getD_cons_zero] <;> rfl)) ?_) | (refine plan_pick_t _ _ _ _ (by rfl) (by rfl) (by rfl) (by first | (with_reducible exact Mem.ev_const _ _) | (with_reducible exact Mem.ev_zero _ _ _) | (with_reducible (apply Eq.trans (Mem.ev_tmp _ _ _)); simp only [List.getD_cons_succ, List.getD_cons_zero] <;> rfl)) (by first | (with_reducible exact Mem.ev_const _ _) | (with_reducible exact Mem.ev_zero _ _ _) | (with_reducible (apply Eq.trans (Mem.ev_tmp _ _ _)); simp only [List.getD_cons_succ, List.getD_cons_zero] <;> rfl)) ?_) | (refine plan_pick_f _ _ _ _ (by rfl) (by rfl) (by rfl) (by first | (with_reducible exact Mem.ev_const _ _) | (with_reducible exact Mem.ev_zero _ _ _) | (with_reducible (apply Eq.trans (Mem.ev_tmp _ _ _)); simp only [List.getD_cons_succ, List.getD_cons_zero] <;> rfl)) (by first | (with_reducible exact Mem.ev_const _ _) | (with_reducible exact Mem.ev_zero _ _ _) | (with_reducible (apply Eq.trans (Mem.ev_tmp _ _ _)); simp only [List.getD_cons_succ, List.getD_cons_zero] <;> rfl)) ?_))
      (simp only [Act.put, List.setIfInBounds_toArray, List.set_cons_zero, List.set_cons_succ])
      refine plan_nil ?_
      go_wp2_with fail
      go_ret
      exact ⟨rfl, WB.out.trans (B.out.mono WB.out.size)⟩
end Sha
end Go.Proofs.YtikfhabcjjoloaaDoor
