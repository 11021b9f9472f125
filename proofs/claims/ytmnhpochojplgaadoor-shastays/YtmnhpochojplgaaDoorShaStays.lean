/- The walk of the law ShaStays: a state that was written to stays as it was. -/
import Derived.Test.YtmnhpochojplgaaDoorBytes
import Derived.Deep.DeepCutAuto
namespace Go.Proofs.YtmnhpochojplgaaDoor
namespace Sha
open Go.RowKit Mem

/-- The state of bytes, as a row. -/
def stOf (l : List (BitVec 8)) : Array Value := stRow (feeds fed0 l).H (feeds fed0 l).T l.length
theorem stOf_size (l : List (BitVec 8)) : (stOf l).size = 73 := stRow_size (feeds_ok l fed0_ok).h (feeds_ok l fed0_ok).t
theorem stOf_one (l : List (BitVec 8)) : (stOf l).all (·.oneCell') = true := stRow_one
theorem stOf_nil : stOf [] = Zst := rfl
def dgOf (l : List (BitVec 8)) : Array Value := (u8s (digestOf l)).toArray
theorem dgOf_size (l : List (BitVec 8)) : (dgOf l).size = 32 := by simp [dgOf, u8s, digestOf_length]
theorem dgOf_one (l : List (BitVec 8)) : (dgOf l).all (·.oneCell') = true := u8s_one _
theorem stWrite (l m : List (BitVec 8)) (v : Value) (w : World) (hN : l.length + m.length ≤ 9223372036854775807) (hv : Sl w v m) (hL : Tabs w) :
    Calls Tryd.prog 17 #[.agg (stOf l), v] w fun e w' => e = .returned (.agg (stOf (l ++ m))) ∧ Below w.heap.size w w' := by
  have h := write_any (feeds fed0 l) (feeds_ok l fed0_ok) l.length (by have := feeds_mod fed0 fed0_ok l 0 rfl; rw [Nat.zero_add] at this; exact this) m v w hN hv hL
  rw [← feeds_append, ← List.length_append] at h
  exact h
theorem stSum (l : List (BitVec 8)) (w : World) (hN : l.length ≤ 1152921504606846975) (hL : Tabs w) :
    Calls Tryd.prog 18 #[.agg (stOf l)] w fun e w' => e = .returned (.agg (dgOf l)) ∧ Below w.heap.size w w' :=
  sum_any (feeds fed0 l) (feeds_ok l fed0_ok) l.length (by have := feeds_mod fed0 fed0_ok l 0 rfl; rw [Nat.zero_add] at this; exact this) w hN hL
theorem eql_dg (l : List (BitVec 8)) (x y : Operand) (w : World) : (do eqGuard .eql 25 x y (.agg (dgOf l)) (.agg (dgOf l)); binOp .eql 25 (.agg (dgOf l)) (.agg (dgOf l)) : Sem Value).run Tryd.prog w = .ok (.bool true) w := by
  have := eql_bytes (P := Tryd.prog) w 25 5 32 x y Tryd.underlying25 Tryd.underlying5 infoB (by kernel_rfl) _ _ (digestOf_length l) (digestOf_length l)
  unfold dgOf
  rw [this]; simp
theorem run_allocSt (w : World) : (Instr.alloc 34 true (.tuple #[])).run Tryd.prog w = .ok (.pointer (some ⟨w.heap.size, 0, none⟩)) (w.alloc (.cells Zst 34)) := by kernel_rfl
theorem run_allocDg (w : World) : (Instr.alloc 25 true (.tuple #[])).run Tryd.prog w = .ok (.pointer (some ⟨w.heap.size, 0, none⟩)) (w.alloc (.cells Z32 25)) := by kernel_rfl
/-- Two variables that were made, and hold these cells. -/
def TwoAt (w : World) (C D : Array Value) (t : TypeId) (x y : Value) (wr : World) : Prop :=
  ∃ b c, x = .pointer (some ⟨b, 0, none⟩) ∧ y = .pointer (some ⟨c, 0, none⟩) ∧ At wr b C t ∧ At wr c D t ∧ Below w.heap.size w wr
set_option maxRecDepth 100000 in
set_option maxHeartbeats 1000000 in
theorem stays_near (a b c : List (BitVec 8)) (va vb vc : Value) (w : World) (ha : Sl w va a) (hb : Sl w vb b) (hc : Sl w vc c) (la : a.length ≤ 600) (lb : b.length ≤ 600) (lc : c.length ≤ 600) (hL : Tabs w) :
    Calls Tryd.prog 5 #[va, vb, vc] w fun e w' => e = .returned (.bool true) ∧ Below w.heap.size w w' := by
  have HA := Lib.hid ha; have HB := Lib.hid hb; have HC := Lib.hid hc
  obtain ⟨xa, ca, rfl, _, _⟩ := ha
  obtain ⟨xb, cb, rfl, _, _⟩ := hb
  obtain ⟨xc, cc, rfl, _, _⟩ := hc
  have fa := fun wx => far_no a.length xa ca wx la
  have fb := fun wx => far_no b.length xb cb wx lb
  have fc := fun wx => far_no c.length xc cc wx lc
  have hnew := fun wx => new_any wx
  have hw1 := fun (wx : World) (hx : Sl wx (.slice xa a.length ca) a) (ht : Tabs wx) => stWrite [] a (.slice xa a.length ca) wx (by simp; omega) hx ht
  have hs1 := fun (wx : World) (ht : Tabs wx) => stSum a wx (by omega) ht
  obtain ⟨S0, hS0⟩ : ∃ S0, S0 = stOf [] := ⟨_, rfl⟩
  obtain ⟨S1, hS1⟩ : ∃ S1, S1 = stOf a := ⟨_, rfl⟩
  obtain ⟨G1, hG1⟩ : ∃ G1, G1 = dgOf a := ⟨_, rfl⟩
  have e0 : stRow fed0.H fed0.T 0 = S0 := by rw [hS0]; rfl
  rw [List.nil_append, ← hS0, ← hS1] at hw1
  rw [e0] at hnew
  rw [← hS1, ← hG1] at hs1
  have hS1s : S1.size = 73 := by rw [hS1]; exact stOf_size a
  have hS1o : S1.all (·.oneCell') = true := by rw [hS1]; exact stOf_one a
  have hG1s : G1.size = 32 := by rw [hG1]; exact dgOf_size a
  have hG1o : G1.all (·.oneCell') = true := by rw [hG1]; exact dgOf_one a
  obtain ⟨na, hna⟩ : ∃ n, n = a.length := ⟨_, rfl⟩
  obtain ⟨nb, hnb⟩ : ∃ n, n = b.length := ⟨_, rfl⟩
  obtain ⟨nc, hnc⟩ : ∃ n, n = c.length := ⟨_, rfl⟩
  rw [← hna] at fa hw1 la HA ⊢
  rw [← hnb] at fb lb HB ⊢
  rw [← hnc] at fc lc HC ⊢
  have hzS := zeroSt
  have hzD := zero32
  obtain ⟨Z, hZ⟩ : ∃ Z, Z = Zst := ⟨_, rfl⟩
  obtain ⟨X, hX⟩ : ∃ X, X = Z32 := ⟨_, rfl⟩
  rw [← hZ] at hzS
  rw [← hX] at hzD
  have hZs : Z.size = 73 := by rw [hZ]; exact Zst_size
  have hXs : X.size = 32 := by rw [hX]; simp [Z32, u8s]
  have FA := Lib.hid fa; have FB := Lib.hid fb; have FC := Lib.hid fc; have HNEW := Lib.hid hnew; have HW1 := Lib.hid hw1; have HS1 := Lib.hid hs1; have HL := Lib.hid hL
  have KS0 := Lib.hid hS0; have KS1 := Lib.hid hS1; have KG1 := Lib.hid hG1; have S1S := Lib.hid hS1s; have S1O := Lib.hid hS1o; have G1S := Lib.hid hG1s; have G1O := Lib.hid hG1o; have NA := Lib.hid hna; have NB := Lib.hid hnb; have NC := Lib.hid hnc; have KZ := Lib.hid hZ; have KX := Lib.hid hX; have ZS := Lib.hid hZs; have XS := Lib.hid hXs
  clear fa fb fc hnew hw1 hs1 hL hS0 hS1 hG1 e0 hS1s hS1o hG1s hG1o hna hnb hnc hZ hX hZs hXs
  go_enter Tryd.func5, Tryd.ntmps5
  go_wp2_with fail
  refine (FA.out _).mono ?_
  rintro e w1 ⟨rfl, rfl⟩
  go_wp2_with fail
  refine (FB.out _).mono ?_
  rintro e w1 ⟨rfl, rfl⟩
  go_wp2_with fail
  refine (FC.out _).mono ?_
  rintro e w1 ⟨rfl, rfl⟩
  go_wp2_with fail
  refine (HNEW.out _).mono ?_
  rintro e w1 ⟨rfl, hb1⟩
  have B1 := Lib.hid hb1; clear hb1
  go_wp2_with fail
  refine (HW1.out _ (HA.out.below B1.out) (HL.out.below B1.out (Nat.le_refl _))).mono ?_
  rintro e w2 ⟨rfl, hb2⟩
  have B2 := Lib.hid (B1.out.trans (hb2.mono B1.out.size)); clear hb2
  go_wp2_with (first
    | (refine wpList_store_new (by rfl) 34 _ _ (by rfl) (by rfl) S1 _ _ (by rfl) (by rfl) (by rw [S1S.out]; exact infoSt) (by rw [S1S.out, ZS.out]) S1O.out ?_; have a3 := at_new w2 S1 34; have b3 := B2.out.alloc B2.out.size (.cells S1 34); have A3 := Lib.hid a3; have B3 := Lib.hid b3; clear a3 b3; generalize w2.alloc (.cells S1 34) = w3 at *; generalize w2.heap.size = Bs at *)
    | (refine wpList_load_all (by rfl) 34 _ (by rfl) Bs (by rfl) _ Tryd.underlying34 (by rfl) S1 _ A3.out (by rw [S1S.out]; exact infoSt) ?_)
    | (go_at_call 18; refine (HS1.out _ (HL.out.below B3.out (Nat.le_refl _))).mono ?_; rintro e w4 ⟨rfl, hb4⟩; have A4 := Lib.hid (A3.out.below hb4 A3.out.lt); have B4 := Lib.hid (B3.out.trans (hb4.mono B3.out.size)); clear hb4)
    | (refine wpList_store_new (by rfl) 25 _ _ (by rfl) (by rfl) G1 _ _ (by rfl) (by rfl) (by rw [G1S.out]; exact info32) (by rw [G1S.out, XS.out]) G1O.out ?_; have A5 := Lib.hid (A4.out.alloc (.cells G1 25)); have D5 := Lib.hid (at_new w4 G1 25); have B5 := Lib.hid (B4.out.alloc B4.out.size (.cells G1 25)); generalize w4.alloc (.cells G1 25) = w5 at *; generalize w4.heap.size = Bd at *))
  have HW0 := HW1
  clear B1 B2 A3 B3 A4 B4 HNEW HW1 FA FB FC
  clear w1 w3 w4
  have cA := fun (wx : World) (hx : Sl wx (.slice xb nb cb) b) (ht : Tabs wx) => stWrite a b (.slice xb nb cb) wx (by have := NA.out; have := NB.out; omega) hx ht
  have cB := fun (wx : World) (hx : Sl wx (.slice xc nc cc) c) (ht : Tabs wx) => stWrite a c (.slice xc nc cc) wx (by have := NA.out; have := NC.out; omega) hx ht
  obtain ⟨S2, hS2⟩ : ∃ S2, S2 = stOf (a ++ b) := ⟨_, rfl⟩
  obtain ⟨S3, hS3⟩ : ∃ S3, S3 = stOf (a ++ c) := ⟨_, rfl⟩
  rw [← hS2, ← KS1.out] at cA
  rw [← hS3, ← KS1.out] at cB
  have CA := Lib.hid cA; have CB := Lib.hid cB
  have S2S : Hid (S2.size = 73) := by rw [hS2]; exact stOf_size _
  have S3S : Hid (S3.size = 73) := by rw [hS3]; exact stOf_size _
  have S2O : Hid (S2.all (·.oneCell') = true) := by rw [hS2]; exact stOf_one _
  have S3O : Hid (S3.all (·.oneCell') = true) := by rw [hS3]; exact stOf_one _
  have KS2 := Lib.hid hS2; have KS3 := Lib.hid hS3
  clear cA cB hS2 hS3 hzS hzD
  go_cut [9, 10] (fun x y wx => TwoAt w5 S2 S3 34 x y wx)
  case first =>
    have ALL := Lib.hid run_allocSt
    rw [← KZ.out] at ALL
    refine wp_region_plan (.take 0 (.take 1 (.take 3 (.take 4 (.three 2 6 7 (.three 5 6 7 (.two 6 7 (.sole 7 (.sole 8 (.sole 9 .done))) (.sole 6 (.sole 8 (.sole 9 .done)))) (.two 5 7 (.sole 7 (.sole 8 (.sole 9 .done))) (.sole 5 (.sole 8 (.sole 9 .done)))) (.two 5 6 (.sole 6 (.sole 8 (.sole 9 .done))) (.sole 5 (.sole 8 (.sole 9 .done))))) (.two 2 7 (.two 5 7 (.sole 7 (.sole 8 (.sole 9 .done))) (.sole 5 (.sole 8 (.sole 9 .done)))) (.sole 2 (.sole 5 (.sole 8 (.sole 9 .done))))) (.two 2 6 (.two 5 6 (.sole 6 (.sole 8 (.sole 9 .done))) (.sole 5 (.sole 8 (.sole 9 .done)))) (.sole 2 (.sole 5 (.sole 8 (.sole 9 .done)))))))))) (by kernel_rfl) (by kernel_rfl) (by kernel_rfl) ?_
    refine plan_row 34 _ Bs _ S1 34 (by rfl) (by rfl) (by rfl) (by rfl) (fun w' hw' => A5.out.below hw' A5.out.lt) Tryd.underlying34 (by rfl) (by rw [S1S.out]; exact infoSt) ?_
    (simp only [Act.put, List.setIfInBounds_toArray, List.set_cons_zero, List.set_cons_succ])
    (first | (refine plan_move _ _ (by rfl) (by rfl) (.inl (by rfl)) (by first | (with_reducible exact Mem.ev_const _ _) | (with_reducible exact Mem.ev_zero _ _ _) | (with_reducible (apply Eq.trans (Mem.ev_tmp _ _ _)); simp only [List.getD_cons_succ, List.getD_cons_zero] <;> rfl)) ?_) | (refine plan_move _ _ (by rfl) (by rfl) (.inr (by rfl)) (by first | (with_reducible exact Mem.ev_const _ _) | (with_reducible exact Mem.ev_zero _ _ _) | (with_reducible (apply Eq.trans (Mem.ev_tmp _ _ _)); simp only [List.getD_cons_succ, List.getD_cons_zero] <;> rfl)) ?_) | (refine plan_pick_t _ _ _ _ (by rfl) (by rfl) (by rfl) (by first | (with_reducible exact Mem.ev_const _ _) | (with_reducible exact Mem.ev_zero _ _ _) | (with_reducible (apply Eq.trans (Mem.ev_tmp _ _ _)); simp only [List.getD_cons_succ, List.getD_cons_zero] <;> rfl)) (by first | (with_reducible exact Mem.ev_const _ _) | (with_reducible exact Mem.ev_zero _ _ _) | (with_reducible (apply Eq.trans (Mem.ev_tmp _ _ _)); simp only [List.getD_cons_succ, List.getD_cons_zero] <;> rfl)) ?_) | (refine plan_pick_f _ _ _ _ (by rfl) (by rfl) (by rfl) (by first | (with_reducible exact Mem.ev_const _ _) | (with_reducible exact Mem.ev_zero _ _ _) | (with_reducible (apply Eq.trans (Mem.ev_tmp _ _ _)); simp only [List.getD_cons_succ, List.getD_cons_zero] <;> rfl)) (by first | (with_reducible exact Mem.ev_const _ _) | (with_reducible exact Mem.ev_zero _ _ _) | (with_reducible (apply Eq.trans (Mem.ev_tmp _ _ _)); simp only [List.getD_cons_succ, List.getD_cons_zero] <;> rfl)) ?_))
    (simp only [Act.put, List.setIfInBounds_toArray, List.set_cons_zero, List.set_cons_succ])
    refine plan_row 34 _ Bs _ S1 34 (by rfl) (by rfl) (by rfl) (by rfl) (fun w' hw' => A5.out.below hw' A5.out.lt) Tryd.underlying34 (by rfl) (by rw [S1S.out]; exact infoSt) ?_
    (simp only [Act.put, List.setIfInBounds_toArray, List.set_cons_zero, List.set_cons_succ])
    (first | (refine plan_move _ _ (by rfl) (by rfl) (.inl (by rfl)) (by first | (with_reducible exact Mem.ev_const _ _) | (with_reducible exact Mem.ev_zero _ _ _) | (with_reducible (apply Eq.trans (Mem.ev_tmp _ _ _)); simp only [List.getD_cons_succ, List.getD_cons_zero] <;> rfl)) ?_) | (refine plan_move _ _ (by rfl) (by rfl) (.inr (by rfl)) (by first | (with_reducible exact Mem.ev_const _ _) | (with_reducible exact Mem.ev_zero _ _ _) | (with_reducible (apply Eq.trans (Mem.ev_tmp _ _ _)); simp only [List.getD_cons_succ, List.getD_cons_zero] <;> rfl)) ?_) | (refine plan_pick_t _ _ _ _ (by rfl) (by rfl) (by rfl) (by first | (with_reducible exact Mem.ev_const _ _) | (with_reducible exact Mem.ev_zero _ _ _) | (with_reducible (apply Eq.trans (Mem.ev_tmp _ _ _)); simp only [List.getD_cons_succ, List.getD_cons_zero] <;> rfl)) (by first | (with_reducible exact Mem.ev_const _ _) | (with_reducible exact Mem.ev_zero _ _ _) | (with_reducible (apply Eq.trans (Mem.ev_tmp _ _ _)); simp only [List.getD_cons_succ, List.getD_cons_zero] <;> rfl)) ?_) | (refine plan_pick_f _ _ _ _ (by rfl) (by rfl) (by rfl) (by first | (with_reducible exact Mem.ev_const _ _) | (with_reducible exact Mem.ev_zero _ _ _) | (with_reducible (apply Eq.trans (Mem.ev_tmp _ _ _)); simp only [List.getD_cons_succ, List.getD_cons_zero] <;> rfl)) (by first | (with_reducible exact Mem.ev_const _ _) | (with_reducible exact Mem.ev_zero _ _ _) | (with_reducible (apply Eq.trans (Mem.ev_tmp _ _ _)); simp only [List.getD_cons_succ, List.getD_cons_zero] <;> rfl)) ?_))
    (simp only [Act.put, List.setIfInBounds_toArray, List.set_cons_zero, List.set_cons_succ])
    have B : Hid (Below w5.heap.size w5 w5.drew) := (Below.refl _ _).drew
    generalize w5.drew = W at *
    repeat' (first
      | (refine plan_two ?_ ?_)
      | (refine plan_three ?_ ?_ ?_)
      | (refine plan_call (i := 2) 17 _ _ #[.agg S1, .slice xb nb cb] (by kernel_rfl) (by rfl) (by rfl) (by rfl) (by first | exact Mem.ev_none _ | (simp only [List.map_toArray, List.map_cons, List.map_nil, Mem.ev_tmp, List.getD_cons_succ, List.getD_cons_zero] <;> rfl)) ?_
         refine (CA.out _ (HB.out.below (B5.out.trans (B.out.mono B5.out.size))) (HL.out.below (B5.out.trans (B.out.mono B5.out.size)) (Nat.le_refl _))).mono ?_
         rintro e W ⟨rfl, hbn⟩
         have B := Lib.hid (B.out.trans (hbn.mono B.out.size))
         (try (have A9 := Lib.hid (A9.out.below hbn A9.out.lt)))
         (try (have A10 := Lib.hid (A10.out.below hbn A10.out.lt)))
         clear hbn
         refine ⟨_, rfl, B.out, ?_⟩
         (simp only [Act.put, List.setIfInBounds_toArray, List.set_cons_zero, List.set_cons_succ]))
      | (refine plan_call (i := 5) 17 _ _ #[.agg S1, .slice xc nc cc] (by kernel_rfl) (by rfl) (by rfl) (by rfl) (by first | exact Mem.ev_none _ | (simp only [List.map_toArray, List.map_cons, List.map_nil, Mem.ev_tmp, List.getD_cons_succ, List.getD_cons_zero] <;> rfl)) ?_
         refine (CB.out _ (HC.out.below (B5.out.trans (B.out.mono B5.out.size))) (HL.out.below (B5.out.trans (B.out.mono B5.out.size)) (Nat.le_refl _))).mono ?_
         rintro e W ⟨rfl, hbn⟩
         have B := Lib.hid (B.out.trans (hbn.mono B.out.size))
         (try (have A9 := Lib.hid (A9.out.below hbn A9.out.lt)))
         (try (have A10 := Lib.hid (A10.out.below hbn A10.out.lt)))
         clear hbn
         refine ⟨_, rfl, B.out, ?_⟩
         (simp only [Act.put, List.setIfInBounds_toArray, List.set_cons_zero, List.set_cons_succ]))
      | (refine plan_alloc_any (i := 6) 34 Z (by rfl) (by rfl) (by rfl) ALL.out (fun W' h => h _ _ B.out B.out.size) ?_
         intro b9 W ha hlo hk hbb
         have LO9 := Lib.hid (Nat.le_trans B.out.size hlo)
         have B := Lib.hid (hbb _ _ B.out B.out.size)
         have A9 := Lib.hid ha
         (try (have NE := Lib.hid (hk _ _ _ A10.out).2.symm; have A10 := Lib.hid (hk _ _ _ A10.out).1))
         clear ha hlo hk hbb
         (simp only [Act.put, List.setIfInBounds_toArray, List.set_cons_zero, List.set_cons_succ]))
      | (refine plan_alloc_any (i := 7) 34 Z (by rfl) (by rfl) (by rfl) ALL.out (fun W' h => h _ _ B.out B.out.size) ?_
         intro b10 W ha hlo hk hbb
         have LO10 := Lib.hid (Nat.le_trans B.out.size hlo)
         have B := Lib.hid (hbb _ _ B.out B.out.size)
         have A10 := Lib.hid ha
         (try (have NE := Lib.hid (hk _ _ _ A9.out).2; have A9 := Lib.hid (hk _ _ _ A9.out).1))
         clear ha hlo hk hbb
         (simp only [Act.put, List.setIfInBounds_toArray, List.set_cons_zero, List.set_cons_succ]))
      | (refine plan_store_any (i := 8) 34 _ _ b9 S2 Z 34 (by rfl) (by rfl) (by rfl) (by rfl) (by rfl) (by rfl) (by rw [S2S.out]; exact infoSt) A9.out (by rw [S2S.out, ZS.out]) S2O.out (fun W' h => h _ _ B.out LO9.out) ?_
         intro W ha hk hbb
         have B := Lib.hid (hbb _ _ B.out LO9.out)
         have A9 := Lib.hid ha
         have A10 := Lib.hid (hk _ _ _ A10.out NE.out.symm)
         clear ha hk hbb)
      | (refine plan_store_any (i := 9) 34 _ _ b10 S3 Z 34 (by rfl) (by rfl) (by rfl) (by rfl) (by rfl) (by rfl) (by rw [S3S.out]; exact infoSt) A10.out (by rw [S3S.out, ZS.out]) S3O.out (fun W' h => h _ _ B.out LO10.out) ?_
         intro W ha hk hbb
         have B := Lib.hid (hbb _ _ B.out LO10.out)
         have A10 := Lib.hid ha
         have A9 := Lib.hid (hk _ _ _ A9.out NE.out)
         clear ha hk hbb))
    all_goals (refine plan_nil ?_; go_wp2_with fail; go_meet; exact ⟨b9, b10, rfl, rfl, A9.out, A10.out, B.out⟩)
  case rest =>
    obtain ⟨b9, b10, rfl, rfl, a9, a10, bb⟩ := hcut
    have X9 := Lib.hid a9; have X10 := Lib.hid a10; have XS7 := Lib.hid (A5.out.below bb A5.out.lt); have XD8 := Lib.hid (D5.out.below bb D5.out.lt); have XB := Lib.hid (B5.out.trans (bb.mono B5.out.size))
    clear a9 a10 bb A5 D5 B5 CA CB
    generalize wc = w6 at *
    have cA := fun (wx : World) (ht : Tabs wx) => stSum (a ++ b) wx (by rw [List.length_append]; have := NA.out; have := NB.out; omega) ht
    have cB := fun (wx : World) (ht : Tabs wx) => stSum (a ++ c) wx (by rw [List.length_append]; have := NA.out; have := NC.out; omega) ht
    obtain ⟨G2, hG2⟩ : ∃ G2, G2 = dgOf (a ++ b) := ⟨_, rfl⟩
    obtain ⟨G3, hG3⟩ : ∃ G3, G3 = dgOf (a ++ c) := ⟨_, rfl⟩
    rw [← hG2, ← KS2.out] at cA
    rw [← hG3, ← KS3.out] at cB
    have CA := Lib.hid cA; have CB := Lib.hid cB
    have G2S : Hid (G2.size = 32) := by rw [hG2]; exact dgOf_size _
    have G3S : Hid (G3.size = 32) := by rw [hG3]; exact dgOf_size _
    have G2O : Hid (G2.all (·.oneCell') = true) := by rw [hG2]; exact dgOf_one _
    have G3O : Hid (G3.all (·.oneCell') = true) := by rw [hG3]; exact dgOf_one _
    have KG2 := Lib.hid hG2; have KG3 := Lib.hid hG3
    clear cA cB hG2 hG3
    go_wp2_with fail
    go_cut [11, 12] (fun x y wx => TwoAt w6 G2 G3 25 x y wx)
    case first =>
      have ALL := Lib.hid run_allocDg
      rw [← KX.out] at ALL
      refine wp_region_plan (.take 0 (.take 2 (.three 1 4 5 (.three 3 4 5 (.two 4 5 (.sole 5 (.sole 6 (.sole 7 .done))) (.sole 4 (.sole 6 (.sole 7 .done)))) (.two 3 5 (.sole 5 (.sole 6 (.sole 7 .done))) (.sole 3 (.sole 6 (.sole 7 .done)))) (.two 3 4 (.sole 4 (.sole 6 (.sole 7 .done))) (.sole 3 (.sole 6 (.sole 7 .done))))) (.two 1 5 (.two 3 5 (.sole 5 (.sole 6 (.sole 7 .done))) (.sole 3 (.sole 6 (.sole 7 .done)))) (.sole 1 (.sole 3 (.sole 6 (.sole 7 .done))))) (.two 1 4 (.two 3 4 (.sole 4 (.sole 6 (.sole 7 .done))) (.sole 3 (.sole 6 (.sole 7 .done)))) (.sole 1 (.sole 3 (.sole 6 (.sole 7 .done)))))))) (by kernel_rfl) (by kernel_rfl) (by kernel_rfl) ?_
      refine plan_row 34 _ b9 _ S2 34 (by rfl) (by rfl) (by rfl) (by rfl) (fun w' hw' => X9.out.below hw' X9.out.lt) Tryd.underlying34 (by rfl) (by rw [S2S.out]; exact infoSt) ?_
      (simp only [Act.put, List.setIfInBounds_toArray, List.set_cons_zero, List.set_cons_succ])
      refine plan_row 34 _ b10 _ S3 34 (by rfl) (by rfl) (by rfl) (by rfl) (fun w' hw' => X10.out.below hw' X10.out.lt) Tryd.underlying34 (by rfl) (by rw [S3S.out]; exact infoSt) ?_
      (simp only [Act.put, List.setIfInBounds_toArray, List.set_cons_zero, List.set_cons_succ])
      have B : Hid (Below w6.heap.size w6 w6.drew) := (Below.refl _ _).drew
      generalize w6.drew = W at *
      repeat' (first
        | (refine plan_two ?_ ?_)
        | (refine plan_three ?_ ?_ ?_)
        | (refine plan_call (i := 1) 18 _ _ #[.agg S2] (by kernel_rfl) (by rfl) (by rfl) (by rfl) (by first | exact Mem.ev_none _ | (simp only [List.map_toArray, List.map_cons, List.map_nil, Mem.ev_tmp, List.getD_cons_succ, List.getD_cons_zero] <;> rfl)) ?_
           refine (CA.out _ (HL.out.below (XB.out.trans (B.out.mono XB.out.size)) (Nat.le_refl _))).mono ?_
           rintro e W ⟨rfl, hbn⟩
           have B := Lib.hid (B.out.trans (hbn.mono B.out.size))
           (try (have A9 := Lib.hid (A9.out.below hbn A9.out.lt)))
           (try (have A10 := Lib.hid (A10.out.below hbn A10.out.lt)))
           clear hbn
           refine ⟨_, rfl, B.out, ?_⟩
           (simp only [Act.put, List.setIfInBounds_toArray, List.set_cons_zero, List.set_cons_succ]))
        | (refine plan_call (i := 3) 18 _ _ #[.agg S3] (by kernel_rfl) (by rfl) (by rfl) (by rfl) (by first | exact Mem.ev_none _ | (simp only [List.map_toArray, List.map_cons, List.map_nil, Mem.ev_tmp, List.getD_cons_succ, List.getD_cons_zero] <;> rfl)) ?_
           refine (CB.out _ (HL.out.below (XB.out.trans (B.out.mono XB.out.size)) (Nat.le_refl _))).mono ?_
           rintro e W ⟨rfl, hbn⟩
           have B := Lib.hid (B.out.trans (hbn.mono B.out.size))
           (try (have A9 := Lib.hid (A9.out.below hbn A9.out.lt)))
           (try (have A10 := Lib.hid (A10.out.below hbn A10.out.lt)))
           clear hbn
           refine ⟨_, rfl, B.out, ?_⟩
           (simp only [Act.put, List.setIfInBounds_toArray, List.set_cons_zero, List.set_cons_succ]))
        | (refine plan_alloc_any (i := 4) 25 X (by rfl) (by rfl) (by rfl) ALL.out (fun W' h => h _ _ B.out B.out.size) ?_
           intro b11 W ha hlo hk hbb
           have LO9 := Lib.hid (Nat.le_trans B.out.size hlo)
           have B := Lib.hid (hbb _ _ B.out B.out.size)
           have A9 := Lib.hid ha
           (try (have NE := Lib.hid (hk _ _ _ A10.out).2.symm; have A10 := Lib.hid (hk _ _ _ A10.out).1))
           clear ha hlo hk hbb
           (simp only [Act.put, List.setIfInBounds_toArray, List.set_cons_zero, List.set_cons_succ]))
        | (refine plan_alloc_any (i := 5) 25 X (by rfl) (by rfl) (by rfl) ALL.out (fun W' h => h _ _ B.out B.out.size) ?_
           intro b12 W ha hlo hk hbb
           have LO10 := Lib.hid (Nat.le_trans B.out.size hlo)
           have B := Lib.hid (hbb _ _ B.out B.out.size)
           have A10 := Lib.hid ha
           (try (have NE := Lib.hid (hk _ _ _ A9.out).2; have A9 := Lib.hid (hk _ _ _ A9.out).1))
           clear ha hlo hk hbb
           (simp only [Act.put, List.setIfInBounds_toArray, List.set_cons_zero, List.set_cons_succ]))
        | (refine plan_store_any (i := 6) 25 _ _ b11 G2 X 25 (by rfl) (by rfl) (by rfl) (by rfl) (by rfl) (by rfl) (by rw [G2S.out]; exact info32) A9.out (by rw [G2S.out, XS.out]) G2O.out (fun W' h => h _ _ B.out LO9.out) ?_
           intro W ha hk hbb
           have B := Lib.hid (hbb _ _ B.out LO9.out)
           have A9 := Lib.hid ha
           have A10 := Lib.hid (hk _ _ _ A10.out NE.out.symm)
           clear ha hk hbb)
        | (refine plan_store_any (i := 7) 25 _ _ b12 G3 X 25 (by rfl) (by rfl) (by rfl) (by rfl) (by rfl) (by rfl) (by rw [G3S.out]; exact info32) A10.out (by rw [G3S.out, XS.out]) G3O.out (fun W' h => h _ _ B.out LO10.out) ?_
           intro W ha hk hbb
           have B := Lib.hid (hbb _ _ B.out LO10.out)
           have A10 := Lib.hid ha
           have A9 := Lib.hid (hk _ _ _ A9.out NE.out)
           clear ha hk hbb))
      all_goals (refine plan_nil ?_; go_wp2_with fail; go_meet; exact ⟨b11, b12, rfl, rfl, A9.out, A10.out, B.out⟩)
    case rest =>
      obtain ⟨b11, b12, rfl, rfl, a11, a12, bb⟩ := hcut
      have Y11 := Lib.hid a11; have Y12 := Lib.hid a12; have Y7 := Lib.hid (XS7.out.below bb XS7.out.lt); have Y8 := Lib.hid (XD8.out.below bb XD8.out.lt); have Y9 := Lib.hid (X9.out.below bb X9.out.lt); have Y10 := Lib.hid (X10.out.below bb X10.out.lt); have YB := Lib.hid (XB.out.trans (bb.mono XB.out.size))
      clear a11 a12 bb X9 X10 XS7 XD8 XB CA CB
      generalize wc = w7 at *
      have cA := fun (wx : World) (hx : Sl wx (.slice xc nc cc) c) (ht : Tabs wx) => stWrite (a ++ b) c (.slice xc nc cc) wx (by rw [List.length_append]; have := NA.out; have := NB.out; have := NC.out; omega) hx ht
      have cB := fun (wx : World) (hx : Sl wx (.slice xb nb cb) b) (ht : Tabs wx) => stWrite (a ++ c) b (.slice xb nb cb) wx (by rw [List.length_append]; have := NA.out; have := NB.out; have := NC.out; omega) hx ht
      rw [← KS2.out] at cA
      rw [← KS3.out] at cB
      have CA := Lib.hid cA; have CB := Lib.hid cB
      clear cA cB
      go_wp2_with (refine wpList_load_all (by rfl) 34 _ (by rfl) b9 (by rfl) _ Tryd.underlying34 (by rfl) S2 _ Y9.out (by rw [S2S.out]; exact infoSt) ?_)
      refine (CA.out _ (HC.out.below YB.out) (HL.out.below YB.out (Nat.le_refl _))).mono ?_
      rintro e w8 ⟨rfl, hb8⟩
      have Z11 := Lib.hid (Y11.out.below hb8 Y11.out.lt); have Z12 := Lib.hid (Y12.out.below hb8 Y12.out.lt); have Z7 := Lib.hid (Y7.out.below hb8 Y7.out.lt); have Z8 := Lib.hid (Y8.out.below hb8 Y8.out.lt); have Z9 := Lib.hid (Y9.out.below hb8 Y9.out.lt); have Z10 := Lib.hid (Y10.out.below hb8 Y10.out.lt); have ZB := Lib.hid (YB.out.trans (hb8.mono YB.out.size))
      clear hb8 Y11 Y12 Y7 Y8 Y9 Y10 YB
      go_wp2_with (refine wpList_load_all (by rfl) 34 _ (by rfl) b10 (by rfl) _ Tryd.underlying34 (by rfl) S3 _ Z10.out (by rw [S3S.out]; exact infoSt) ?_)
      refine (CB.out _ (HB.out.below ZB.out) (HL.out.below ZB.out (Nat.le_refl _))).mono ?_
      rintro e w9 ⟨rfl, hb9⟩
      have A11 := Lib.hid (Z11.out.below hb9 Z11.out.lt); have A12 := Lib.hid (Z12.out.below hb9 Z12.out.lt); have A7 := Lib.hid (Z7.out.below hb9 Z7.out.lt); have A8 := Lib.hid (Z8.out.below hb9 Z8.out.lt); have A9 := Lib.hid (Z9.out.below hb9 Z9.out.lt); have A10 := Lib.hid (Z10.out.below hb9 Z10.out.lt); have AB := Lib.hid (ZB.out.trans (hb9.mono ZB.out.size))
      clear hb9 Z11 Z12 Z7 Z8 Z9 Z10 ZB CA CB
      go_wp2_with fail
      have EQ1 := Lib.hid (fun x y wx => eql_dg a x y wx); have EQ2 := Lib.hid (fun x y wx => eql_dg (a ++ b) x y wx); have EQ3 := Lib.hid (fun x y wx => eql_dg (a ++ c) x y wx)
      rw [← KG1.out] at EQ1; rw [← KG2.out] at EQ2; rw [← KG3.out] at EQ3
      have HS2 := Lib.hid (fun (wx : World) (ht : Tabs wx) => stSum (a ++ b) wx (by rw [List.length_append]; have := NA.out; have := NB.out; omega) ht)
      have HS3 := Lib.hid (fun (wx : World) (ht : Tabs wx) => stSum (a ++ c) wx (by rw [List.length_append]; have := NA.out; have := NC.out; omega) ht)
      rw [← KS2.out, ← KG2.out] at HS2; rw [← KS3.out, ← KG3.out] at HS3
      have hab := fun (wx : World) (vx : Value) (hx : Sls wx vx [a, b]) (ht : Tabs wx) => sumAll_any [a, b] vx wx (by simp; have := NA.out; have := NB.out; omega) (by simp) hx ht
      have hac := fun (wx : World) (vx : Value) (hx : Sls wx vx [a, c]) (ht : Tabs wx) => sumAll_any [a, c] vx wx (by simp; have := NA.out; have := NC.out; omega) (by simp) hx ht
      have eab : (u8s (digestOf [a, b].flatten)).toArray = G2 := by rw [KG2.out]; simp [dgOf]
      have eac : (u8s (digestOf [a, c].flatten)).toArray = G3 := by rw [KG3.out]; simp [dgOf]
      rw [eab] at hab; rw [eac] at hac
      have HAB := Lib.hid hab; have HAC := Lib.hid hac
      clear hab hac eab eac
      have hbl : ∀ w' : World, (Instr.build 34 #[]).run Tryd.prog w' = .ok (.agg S0) w' := fun w' => by rw [KS0.out]; kernel_rfl
      have BLD := Lib.hid hbl; clear hbl
      refine wp_region_plan (.take 0 (.take 2 (.sole 1 (.take 3 (.take 4 (.take 5 (.take 7 (.sole 6 (.take 8 (.take 9 (.take 10 (.take 11 (.take 13 (.sole 12 (.take 14 (.take 15 (.take 16 (.take 17 (.take 18 (.take 19 (.sole 20 (.sole 21 (.take 22 (.take 23 (.take 24 (.take 25 (.take 26 (.take 27 (.sole 28 (.sole 29 (.take 30 (.take 31 (.take 32 (.take 33 (.take 34 (.take 37 (.sole 35 (.sole 36 (.take 38 (.take 39 (.take 40 (.sole 41 (.take 42 (.take 43 .done)))))))))))))))))))))))))))))))))))))))))))) (by kernel_rfl) (by kernel_rfl) (by kernel_rfl) ?_
      have B : Hid (Below w9.heap.size w9 w9.drew) := (Below.refl _ _).drew
      generalize w9.drew = W at *
      refine plan_row 34 _ Bs _ S1 34 (by rfl) (by rfl) (by rfl) (by first | (with_reducible exact Mem.ev_const _ _) | (with_reducible exact Mem.ev_zero _ _ _) | (with_reducible (apply Eq.trans (Mem.ev_tmp _ _ _)); simp only [List.getD_cons_succ, List.getD_cons_zero] <;> rfl)) (fun w' hw' => A7.out.below hw' A7.out.lt) Tryd.underlying34 (by rfl) (by rw [S1S.out]; exact infoSt) ?_
      (simp only [Act.put, List.setIfInBounds_toArray, List.set_cons_zero, List.set_cons_succ])
      refine plan_row 25 _ Bd _ G1 25 (by rfl) (by rfl) (by rfl) (by first | (with_reducible exact Mem.ev_const _ _) | (with_reducible exact Mem.ev_zero _ _ _) | (with_reducible (apply Eq.trans (Mem.ev_tmp _ _ _)); simp only [List.getD_cons_succ, List.getD_cons_zero] <;> rfl)) (fun w' hw' => A8.out.below hw' A8.out.lt) Tryd.underlying25 (by rfl) (by rw [G1S.out]; exact info32) ?_
      (simp only [Act.put, List.setIfInBounds_toArray, List.set_cons_zero, List.set_cons_succ])
      refine plan_call 18 _ _ #[.agg S1] (by kernel_rfl) (by rfl) (by rfl) (by rfl) (by first | exact Mem.ev_none _ | (simp only [List.map_toArray, List.map_cons, List.map_nil, Mem.ev_tmp, List.getD_cons_succ, List.getD_cons_zero] <;> rfl)) ?_
      refine (HS1.out _ (HL.out.below (AB.out.trans (B.out.mono AB.out.size)) (Nat.le_refl _))).mono ?_
      rintro e W ⟨rfl, hbn⟩
      have B := Lib.hid (B.out.trans (hbn.mono B.out.size))
      clear hbn
      refine ⟨_, rfl, B.out, ?_⟩
      (simp only [Act.put, List.setIfInBounds_toArray, List.set_cons_zero, List.set_cons_succ])
      refine plan_bin _ _ _ _ _ _ _ _ (by rfl) (by rfl) (by rfl) (by first | (with_reducible exact Mem.ev_const _ _) | (with_reducible exact Mem.ev_zero _ _ _) | (with_reducible (apply Eq.trans (Mem.ev_tmp _ _ _)); simp only [List.getD_cons_succ, List.getD_cons_zero] <;> rfl)) (by first | (with_reducible exact Mem.ev_const _ _) | (with_reducible exact Mem.ev_zero _ _ _) | (with_reducible (apply Eq.trans (Mem.ev_tmp _ _ _)); simp only [List.getD_cons_succ, List.getD_cons_zero] <;> rfl)) (EQ1.out _ _) ?_
      (simp only [Act.put, List.setIfInBounds_toArray, List.set_cons_zero, List.set_cons_succ])
      (first | (refine plan_move _ _ (by rfl) (by rfl) (.inl (by rfl)) (by first | (with_reducible exact Mem.ev_const _ _) | (with_reducible exact Mem.ev_zero _ _ _) | (with_reducible (apply Eq.trans (Mem.ev_tmp _ _ _)); simp only [List.getD_cons_succ, List.getD_cons_zero] <;> rfl)) ?_) | (refine plan_move _ _ (by rfl) (by rfl) (.inr (by rfl)) (by first | (with_reducible exact Mem.ev_const _ _) | (with_reducible exact Mem.ev_zero _ _ _) | (with_reducible (apply Eq.trans (Mem.ev_tmp _ _ _)); simp only [List.getD_cons_succ, List.getD_cons_zero] <;> rfl)) ?_) | (refine plan_pick_t _ _ _ _ (by rfl) (by rfl) (by rfl) (by first | (with_reducible exact Mem.ev_const _ _) | (with_reducible exact Mem.ev_zero _ _ _) | (with_reducible (apply Eq.trans (Mem.ev_tmp _ _ _)); simp only [List.getD_cons_succ, List.getD_cons_zero] <;> rfl)) (by first | (with_reducible exact Mem.ev_const _ _) | (with_reducible exact Mem.ev_zero _ _ _) | (with_reducible (apply Eq.trans (Mem.ev_tmp _ _ _)); simp only [List.getD_cons_succ, List.getD_cons_zero] <;> rfl)) ?_) | (refine plan_pick_f _ _ _ _ (by rfl) (by rfl) (by rfl) (by first | (with_reducible exact Mem.ev_const _ _) | (with_reducible exact Mem.ev_zero _ _ _) | (with_reducible (apply Eq.trans (Mem.ev_tmp _ _ _)); simp only [List.getD_cons_succ, List.getD_cons_zero] <;> rfl)) (by first | (with_reducible exact Mem.ev_const _ _) | (with_reducible exact Mem.ev_zero _ _ _) | (with_reducible (apply Eq.trans (Mem.ev_tmp _ _ _)); simp only [List.getD_cons_succ, List.getD_cons_zero] <;> rfl)) ?_))
      (simp only [Act.put, List.setIfInBounds_toArray, List.set_cons_zero, List.set_cons_succ])
      refine plan_row 34 _ b9 _ S2 34 (by rfl) (by rfl) (by rfl) (by first | (with_reducible exact Mem.ev_const _ _) | (with_reducible exact Mem.ev_zero _ _ _) | (with_reducible (apply Eq.trans (Mem.ev_tmp _ _ _)); simp only [List.getD_cons_succ, List.getD_cons_zero] <;> rfl)) (fun w' hw' => A9.out.below hw' A9.out.lt) Tryd.underlying34 (by rfl) (by rw [S2S.out]; exact infoSt) ?_
      (simp only [Act.put, List.setIfInBounds_toArray, List.set_cons_zero, List.set_cons_succ])
      refine plan_row 25 _ b11 _ G2 25 (by rfl) (by rfl) (by rfl) (by first | (with_reducible exact Mem.ev_const _ _) | (with_reducible exact Mem.ev_zero _ _ _) | (with_reducible (apply Eq.trans (Mem.ev_tmp _ _ _)); simp only [List.getD_cons_succ, List.getD_cons_zero] <;> rfl)) (fun w' hw' => A11.out.below hw' A11.out.lt) Tryd.underlying25 (by rfl) (by rw [G2S.out]; exact info32) ?_
      (simp only [Act.put, List.setIfInBounds_toArray, List.set_cons_zero, List.set_cons_succ])
      refine plan_call 18 _ _ #[.agg S2] (by kernel_rfl) (by rfl) (by rfl) (by rfl) (by first | exact Mem.ev_none _ | (simp only [List.map_toArray, List.map_cons, List.map_nil, Mem.ev_tmp, List.getD_cons_succ, List.getD_cons_zero] <;> rfl)) ?_
      refine (HS2.out _ (HL.out.below (AB.out.trans (B.out.mono AB.out.size)) (Nat.le_refl _))).mono ?_
      rintro e W ⟨rfl, hbn⟩
      have B := Lib.hid (B.out.trans (hbn.mono B.out.size))
      clear hbn
      refine ⟨_, rfl, B.out, ?_⟩
      (simp only [Act.put, List.setIfInBounds_toArray, List.set_cons_zero, List.set_cons_succ])
      refine plan_bin _ _ _ _ _ _ _ _ (by rfl) (by rfl) (by rfl) (by first | (with_reducible exact Mem.ev_const _ _) | (with_reducible exact Mem.ev_zero _ _ _) | (with_reducible (apply Eq.trans (Mem.ev_tmp _ _ _)); simp only [List.getD_cons_succ, List.getD_cons_zero] <;> rfl)) (by first | (with_reducible exact Mem.ev_const _ _) | (with_reducible exact Mem.ev_zero _ _ _) | (with_reducible (apply Eq.trans (Mem.ev_tmp _ _ _)); simp only [List.getD_cons_succ, List.getD_cons_zero] <;> rfl)) (EQ2.out _ _) ?_
      (simp only [Act.put, List.setIfInBounds_toArray, List.set_cons_zero, List.set_cons_succ])
      (first | (refine plan_move _ _ (by rfl) (by rfl) (.inl (by rfl)) (by first | (with_reducible exact Mem.ev_const _ _) | (with_reducible exact Mem.ev_zero _ _ _) | (with_reducible (apply Eq.trans (Mem.ev_tmp _ _ _)); simp only [List.getD_cons_succ, List.getD_cons_zero] <;> rfl)) ?_) | (refine plan_move _ _ (by rfl) (by rfl) (.inr (by rfl)) (by first | (with_reducible exact Mem.ev_const _ _) | (with_reducible exact Mem.ev_zero _ _ _) | (with_reducible (apply Eq.trans (Mem.ev_tmp _ _ _)); simp only [List.getD_cons_succ, List.getD_cons_zero] <;> rfl)) ?_) | (refine plan_pick_t _ _ _ _ (by rfl) (by rfl) (by rfl) (by first | (with_reducible exact Mem.ev_const _ _) | (with_reducible exact Mem.ev_zero _ _ _) | (with_reducible (apply Eq.trans (Mem.ev_tmp _ _ _)); simp only [List.getD_cons_succ, List.getD_cons_zero] <;> rfl)) (by first | (with_reducible exact Mem.ev_const _ _) | (with_reducible exact Mem.ev_zero _ _ _) | (with_reducible (apply Eq.trans (Mem.ev_tmp _ _ _)); simp only [List.getD_cons_succ, List.getD_cons_zero] <;> rfl)) ?_) | (refine plan_pick_f _ _ _ _ (by rfl) (by rfl) (by rfl) (by first | (with_reducible exact Mem.ev_const _ _) | (with_reducible exact Mem.ev_zero _ _ _) | (with_reducible (apply Eq.trans (Mem.ev_tmp _ _ _)); simp only [List.getD_cons_succ, List.getD_cons_zero] <;> rfl)) (by first | (with_reducible exact Mem.ev_const _ _) | (with_reducible exact Mem.ev_zero _ _ _) | (with_reducible (apply Eq.trans (Mem.ev_tmp _ _ _)); simp only [List.getD_cons_succ, List.getD_cons_zero] <;> rfl)) ?_))
      (simp only [Act.put, List.setIfInBounds_toArray, List.set_cons_zero, List.set_cons_succ])
      (first | (refine plan_move _ _ (by rfl) (by rfl) (.inl (by rfl)) (by first | (with_reducible exact Mem.ev_const _ _) | (with_reducible exact Mem.ev_zero _ _ _) | (with_reducible (apply Eq.trans (Mem.ev_tmp _ _ _)); simp only [List.getD_cons_succ, List.getD_cons_zero] <;> rfl)) ?_) | (refine plan_move _ _ (by rfl) (by rfl) (.inr (by rfl)) (by first | (with_reducible exact Mem.ev_const _ _) | (with_reducible exact Mem.ev_zero _ _ _) | (with_reducible (apply Eq.trans (Mem.ev_tmp _ _ _)); simp only [List.getD_cons_succ, List.getD_cons_zero] <;> rfl)) ?_) | (refine plan_pick_t _ _ _ _ (by rfl) (by rfl) (by rfl) (by first | (with_reducible exact Mem.ev_const _ _) | (with_reducible exact Mem.ev_zero _ _ _) | (with_reducible (apply Eq.trans (Mem.ev_tmp _ _ _)); simp only [List.getD_cons_succ, List.getD_cons_zero] <;> rfl)) (by first | (with_reducible exact Mem.ev_const _ _) | (with_reducible exact Mem.ev_zero _ _ _) | (with_reducible (apply Eq.trans (Mem.ev_tmp _ _ _)); simp only [List.getD_cons_succ, List.getD_cons_zero] <;> rfl)) ?_) | (refine plan_pick_f _ _ _ _ (by rfl) (by rfl) (by rfl) (by first | (with_reducible exact Mem.ev_const _ _) | (with_reducible exact Mem.ev_zero _ _ _) | (with_reducible (apply Eq.trans (Mem.ev_tmp _ _ _)); simp only [List.getD_cons_succ, List.getD_cons_zero] <;> rfl)) (by first | (with_reducible exact Mem.ev_const _ _) | (with_reducible exact Mem.ev_zero _ _ _) | (with_reducible (apply Eq.trans (Mem.ev_tmp _ _ _)); simp only [List.getD_cons_succ, List.getD_cons_zero] <;> rfl)) ?_))
      (simp only [Act.put, List.setIfInBounds_toArray, List.set_cons_zero, List.set_cons_succ])
      refine plan_row 34 _ b10 _ S3 34 (by rfl) (by rfl) (by rfl) (by first | (with_reducible exact Mem.ev_const _ _) | (with_reducible exact Mem.ev_zero _ _ _) | (with_reducible (apply Eq.trans (Mem.ev_tmp _ _ _)); simp only [List.getD_cons_succ, List.getD_cons_zero] <;> rfl)) (fun w' hw' => A10.out.below hw' A10.out.lt) Tryd.underlying34 (by rfl) (by rw [S3S.out]; exact infoSt) ?_
      (simp only [Act.put, List.setIfInBounds_toArray, List.set_cons_zero, List.set_cons_succ])
      refine plan_row 25 _ b12 _ G3 25 (by rfl) (by rfl) (by rfl) (by first | (with_reducible exact Mem.ev_const _ _) | (with_reducible exact Mem.ev_zero _ _ _) | (with_reducible (apply Eq.trans (Mem.ev_tmp _ _ _)); simp only [List.getD_cons_succ, List.getD_cons_zero] <;> rfl)) (fun w' hw' => A12.out.below hw' A12.out.lt) Tryd.underlying25 (by rfl) (by rw [G3S.out]; exact info32) ?_
      (simp only [Act.put, List.setIfInBounds_toArray, List.set_cons_zero, List.set_cons_succ])
      refine plan_call 18 _ _ #[.agg S3] (by kernel_rfl) (by rfl) (by rfl) (by rfl) (by first | exact Mem.ev_none _ | (simp only [List.map_toArray, List.map_cons, List.map_nil, Mem.ev_tmp, List.getD_cons_succ, List.getD_cons_zero] <;> rfl)) ?_
      refine (HS3.out _ (HL.out.below (AB.out.trans (B.out.mono AB.out.size)) (Nat.le_refl _))).mono ?_
      rintro e W ⟨rfl, hbn⟩
      have B := Lib.hid (B.out.trans (hbn.mono B.out.size))
      clear hbn
      refine ⟨_, rfl, B.out, ?_⟩
      (simp only [Act.put, List.setIfInBounds_toArray, List.set_cons_zero, List.set_cons_succ])
      refine plan_bin _ _ _ _ _ _ _ _ (by rfl) (by rfl) (by rfl) (by first | (with_reducible exact Mem.ev_const _ _) | (with_reducible exact Mem.ev_zero _ _ _) | (with_reducible (apply Eq.trans (Mem.ev_tmp _ _ _)); simp only [List.getD_cons_succ, List.getD_cons_zero] <;> rfl)) (by first | (with_reducible exact Mem.ev_const _ _) | (with_reducible exact Mem.ev_zero _ _ _) | (with_reducible (apply Eq.trans (Mem.ev_tmp _ _ _)); simp only [List.getD_cons_succ, List.getD_cons_zero] <;> rfl)) (EQ3.out _ _) ?_
      (simp only [Act.put, List.setIfInBounds_toArray, List.set_cons_zero, List.set_cons_succ])
      (first | (refine plan_move _ _ (by rfl) (by rfl) (.inl (by rfl)) (by first | (with_reducible exact Mem.ev_const _ _) | (with_reducible exact Mem.ev_zero _ _ _) | (with_reducible (apply Eq.trans (Mem.ev_tmp _ _ _)); simp only [List.getD_cons_succ, List.getD_cons_zero] <;> rfl)) ?_) | (refine plan_move _ _ (by rfl) (by rfl) (.inr (by rfl)) (by first | (with_reducible exact Mem.ev_const _ _) | (with_reducible exact Mem.ev_zero _ _ _) | (with_reducible (apply Eq.trans (Mem.ev_tmp _ _ _)); simp only [List.getD_cons_succ, List.getD_cons_zero] <;> rfl)) ?_) | (refine plan_pick_t _ _ _ _ (by rfl) (by rfl) (by rfl) (by first | (with_reducible exact Mem.ev_const _ _) | (with_reducible exact Mem.ev_zero _ _ _) | (with_reducible (apply Eq.trans (Mem.ev_tmp _ _ _)); simp only [List.getD_cons_succ, List.getD_cons_zero] <;> rfl)) (by first | (with_reducible exact Mem.ev_const _ _) | (with_reducible exact Mem.ev_zero _ _ _) | (with_reducible (apply Eq.trans (Mem.ev_tmp _ _ _)); simp only [List.getD_cons_succ, List.getD_cons_zero] <;> rfl)) ?_) | (refine plan_pick_f _ _ _ _ (by rfl) (by rfl) (by rfl) (by first | (with_reducible exact Mem.ev_const _ _) | (with_reducible exact Mem.ev_zero _ _ _) | (with_reducible (apply Eq.trans (Mem.ev_tmp _ _ _)); simp only [List.getD_cons_succ, List.getD_cons_zero] <;> rfl)) (by first | (with_reducible exact Mem.ev_const _ _) | (with_reducible exact Mem.ev_zero _ _ _) | (with_reducible (apply Eq.trans (Mem.ev_tmp _ _ _)); simp only [List.getD_cons_succ, List.getD_cons_zero] <;> rfl)) ?_))
      (simp only [Act.put, List.setIfInBounds_toArray, List.set_cons_zero, List.set_cons_succ])
      (first | (refine plan_move _ _ (by rfl) (by rfl) (.inl (by rfl)) (by first | (with_reducible exact Mem.ev_const _ _) | (with_reducible exact Mem.ev_zero _ _ _) | (with_reducible (apply Eq.trans (Mem.ev_tmp _ _ _)); simp only [List.getD_cons_succ, List.getD_cons_zero] <;> rfl)) ?_) | (refine plan_move _ _ (by rfl) (by rfl) (.inr (by rfl)) (by first | (with_reducible exact Mem.ev_const _ _) | (with_reducible exact Mem.ev_zero _ _ _) | (with_reducible (apply Eq.trans (Mem.ev_tmp _ _ _)); simp only [List.getD_cons_succ, List.getD_cons_zero] <;> rfl)) ?_) | (refine plan_pick_t _ _ _ _ (by rfl) (by rfl) (by rfl) (by first | (with_reducible exact Mem.ev_const _ _) | (with_reducible exact Mem.ev_zero _ _ _) | (with_reducible (apply Eq.trans (Mem.ev_tmp _ _ _)); simp only [List.getD_cons_succ, List.getD_cons_zero] <;> rfl)) (by first | (with_reducible exact Mem.ev_const _ _) | (with_reducible exact Mem.ev_zero _ _ _) | (with_reducible (apply Eq.trans (Mem.ev_tmp _ _ _)); simp only [List.getD_cons_succ, List.getD_cons_zero] <;> rfl)) ?_) | (refine plan_pick_f _ _ _ _ (by rfl) (by rfl) (by rfl) (by first | (with_reducible exact Mem.ev_const _ _) | (with_reducible exact Mem.ev_zero _ _ _) | (with_reducible (apply Eq.trans (Mem.ev_tmp _ _ _)); simp only [List.getD_cons_succ, List.getD_cons_zero] <;> rfl)) (by first | (with_reducible exact Mem.ev_const _ _) | (with_reducible exact Mem.ev_zero _ _ _) | (with_reducible (apply Eq.trans (Mem.ev_tmp _ _ _)); simp only [List.getD_cons_succ, List.getD_cons_zero] <;> rfl)) ?_))
      (simp only [Act.put, List.setIfInBounds_toArray, List.set_cons_zero, List.set_cons_succ])
      refine plan_row 25 _ b11 _ G2 25 (by rfl) (by rfl) (by rfl) (by first | (with_reducible exact Mem.ev_const _ _) | (with_reducible exact Mem.ev_zero _ _ _) | (with_reducible (apply Eq.trans (Mem.ev_tmp _ _ _)); simp only [List.getD_cons_succ, List.getD_cons_zero] <;> rfl)) (fun w' hw' => A11.out.below hw' A11.out.lt) Tryd.underlying25 (by rfl) (by rw [G2S.out]; exact info32) ?_
      (simp only [Act.put, List.setIfInBounds_toArray, List.set_cons_zero, List.set_cons_succ])
      (first | (refine plan_move _ _ (by rfl) (by rfl) (.inl (by rfl)) (by first | (with_reducible exact Mem.ev_const _ _) | (with_reducible exact Mem.ev_zero _ _ _) | (with_reducible (apply Eq.trans (Mem.ev_tmp _ _ _)); simp only [List.getD_cons_succ, List.getD_cons_zero] <;> rfl)) ?_) | (refine plan_move _ _ (by rfl) (by rfl) (.inr (by rfl)) (by first | (with_reducible exact Mem.ev_const _ _) | (with_reducible exact Mem.ev_zero _ _ _) | (with_reducible (apply Eq.trans (Mem.ev_tmp _ _ _)); simp only [List.getD_cons_succ, List.getD_cons_zero] <;> rfl)) ?_) | (refine plan_pick_t _ _ _ _ (by rfl) (by rfl) (by rfl) (by first | (with_reducible exact Mem.ev_const _ _) | (with_reducible exact Mem.ev_zero _ _ _) | (with_reducible (apply Eq.trans (Mem.ev_tmp _ _ _)); simp only [List.getD_cons_succ, List.getD_cons_zero] <;> rfl)) (by first | (with_reducible exact Mem.ev_const _ _) | (with_reducible exact Mem.ev_zero _ _ _) | (with_reducible (apply Eq.trans (Mem.ev_tmp _ _ _)); simp only [List.getD_cons_succ, List.getD_cons_zero] <;> rfl)) ?_) | (refine plan_pick_f _ _ _ _ (by rfl) (by rfl) (by rfl) (by first | (with_reducible exact Mem.ev_const _ _) | (with_reducible exact Mem.ev_zero _ _ _) | (with_reducible (apply Eq.trans (Mem.ev_tmp _ _ _)); simp only [List.getD_cons_succ, List.getD_cons_zero] <;> rfl)) (by first | (with_reducible exact Mem.ev_const _ _) | (with_reducible exact Mem.ev_zero _ _ _) | (with_reducible (apply Eq.trans (Mem.ev_tmp _ _ _)); simp only [List.getD_cons_succ, List.getD_cons_zero] <;> rfl)) ?_))
      (simp only [Act.put, List.setIfInBounds_toArray, List.set_cons_zero, List.set_cons_succ])
      (first | (refine plan_move _ _ (by rfl) (by rfl) (.inl (by rfl)) (by first | (with_reducible exact Mem.ev_const _ _) | (with_reducible exact Mem.ev_zero _ _ _) | (with_reducible (apply Eq.trans (Mem.ev_tmp _ _ _)); simp only [List.getD_cons_succ, List.getD_cons_zero] <;> rfl)) ?_) | (refine plan_move _ _ (by rfl) (by rfl) (.inr (by rfl)) (by first | (with_reducible exact Mem.ev_const _ _) | (with_reducible exact Mem.ev_zero _ _ _) | (with_reducible (apply Eq.trans (Mem.ev_tmp _ _ _)); simp only [List.getD_cons_succ, List.getD_cons_zero] <;> rfl)) ?_) | (refine plan_pick_t _ _ _ _ (by rfl) (by rfl) (by rfl) (by first | (with_reducible exact Mem.ev_const _ _) | (with_reducible exact Mem.ev_zero _ _ _) | (with_reducible (apply Eq.trans (Mem.ev_tmp _ _ _)); simp only [List.getD_cons_succ, List.getD_cons_zero] <;> rfl)) (by first | (with_reducible exact Mem.ev_const _ _) | (with_reducible exact Mem.ev_zero _ _ _) | (with_reducible (apply Eq.trans (Mem.ev_tmp _ _ _)); simp only [List.getD_cons_succ, List.getD_cons_zero] <;> rfl)) ?_) | (refine plan_pick_f _ _ _ _ (by rfl) (by rfl) (by rfl) (by first | (with_reducible exact Mem.ev_const _ _) | (with_reducible exact Mem.ev_zero _ _ _) | (with_reducible (apply Eq.trans (Mem.ev_tmp _ _ _)); simp only [List.getD_cons_succ, List.getD_cons_zero] <;> rfl)) (by first | (with_reducible exact Mem.ev_const _ _) | (with_reducible exact Mem.ev_zero _ _ _) | (with_reducible (apply Eq.trans (Mem.ev_tmp _ _ _)); simp only [List.getD_cons_succ, List.getD_cons_zero] <;> rfl)) ?_))
      (simp only [Act.put, List.setIfInBounds_toArray, List.set_cons_zero, List.set_cons_succ])
      refine plan_slice 28 22 2 _ #[.slice xa na ca, .slice xb nb cb] (by rfl) (by rfl) (by rfl) Tryd.underlying28 (by kernel_rfl) (B.out.alloc B.out.size _) ?_
      have SLS := Lib.hid (sls_lit2 (HA.out.below (AB.out.trans (B.out.mono AB.out.size))) (HB.out.below (AB.out.trans (B.out.mono AB.out.size))))
      have B := Lib.hid (B.out.alloc B.out.size (.cells #[.slice xa na ca, .slice xb nb cb] 22))
      (simp only [Act.put, List.setIfInBounds_toArray, List.set_cons_zero, List.set_cons_succ])
      refine plan_call 14 _ _ _ (by kernel_rfl) (by rfl) (by rfl) (by rfl) (by first | exact Mem.ev_none _ | (simp only [List.map_toArray, List.map_cons, List.map_nil, Mem.ev_tmp, List.getD_cons_succ, List.getD_cons_zero] <;> rfl)) ?_
      refine (HAB.out _ _ SLS.out (HL.out.below (AB.out.trans (B.out.mono AB.out.size)) (Nat.le_refl _))).mono ?_
      rintro e W ⟨rfl, hbn⟩
      have B := Lib.hid (B.out.trans (hbn.mono B.out.size))
      clear hbn
      refine ⟨_, rfl, B.out, ?_⟩
      (simp only [Act.put, List.setIfInBounds_toArray, List.set_cons_zero, List.set_cons_succ])
      refine plan_bin _ _ _ _ _ _ _ _ (by rfl) (by rfl) (by rfl) (by first | (with_reducible exact Mem.ev_const _ _) | (with_reducible exact Mem.ev_zero _ _ _) | (with_reducible (apply Eq.trans (Mem.ev_tmp _ _ _)); simp only [List.getD_cons_succ, List.getD_cons_zero] <;> rfl)) (by first | (with_reducible exact Mem.ev_const _ _) | (with_reducible exact Mem.ev_zero _ _ _) | (with_reducible (apply Eq.trans (Mem.ev_tmp _ _ _)); simp only [List.getD_cons_succ, List.getD_cons_zero] <;> rfl)) (EQ2.out _ _) ?_
      (simp only [Act.put, List.setIfInBounds_toArray, List.set_cons_zero, List.set_cons_succ])
      (first | (refine plan_move _ _ (by rfl) (by rfl) (.inl (by rfl)) (by first | (with_reducible exact Mem.ev_const _ _) | (with_reducible exact Mem.ev_zero _ _ _) | (with_reducible (apply Eq.trans (Mem.ev_tmp _ _ _)); simp only [List.getD_cons_succ, List.getD_cons_zero] <;> rfl)) ?_) | (refine plan_move _ _ (by rfl) (by rfl) (.inr (by rfl)) (by first | (with_reducible exact Mem.ev_const _ _) | (with_reducible exact Mem.ev_zero _ _ _) | (with_reducible (apply Eq.trans (Mem.ev_tmp _ _ _)); simp only [List.getD_cons_succ, List.getD_cons_zero] <;> rfl)) ?_) | (refine plan_pick_t _ _ _ _ (by rfl) (by rfl) (by rfl) (by first | (with_reducible exact Mem.ev_const _ _) | (with_reducible exact Mem.ev_zero _ _ _) | (with_reducible (apply Eq.trans (Mem.ev_tmp _ _ _)); simp only [List.getD_cons_succ, List.getD_cons_zero] <;> rfl)) (by first | (with_reducible exact Mem.ev_const _ _) | (with_reducible exact Mem.ev_zero _ _ _) | (with_reducible (apply Eq.trans (Mem.ev_tmp _ _ _)); simp only [List.getD_cons_succ, List.getD_cons_zero] <;> rfl)) ?_) | (refine plan_pick_f _ _ _ _ (by rfl) (by rfl) (by rfl) (by first | (with_reducible exact Mem.ev_const _ _) | (with_reducible exact Mem.ev_zero _ _ _) | (with_reducible (apply Eq.trans (Mem.ev_tmp _ _ _)); simp only [List.getD_cons_succ, List.getD_cons_zero] <;> rfl)) (by first | (with_reducible exact Mem.ev_const _ _) | (with_reducible exact Mem.ev_zero _ _ _) | (with_reducible (apply Eq.trans (Mem.ev_tmp _ _ _)); simp only [List.getD_cons_succ, List.getD_cons_zero] <;> rfl)) ?_))
      (simp only [Act.put, List.setIfInBounds_toArray, List.set_cons_zero, List.set_cons_succ])
      (first | (refine plan_move _ _ (by rfl) (by rfl) (.inl (by rfl)) (by first | (with_reducible exact Mem.ev_const _ _) | (with_reducible exact Mem.ev_zero _ _ _) | (with_reducible (apply Eq.trans (Mem.ev_tmp _ _ _)); simp only [List.getD_cons_succ, List.getD_cons_zero] <;> rfl)) ?_) | (refine plan_move _ _ (by rfl) (by rfl) (.inr (by rfl)) (by first | (with_reducible exact Mem.ev_const _ _) | (with_reducible exact Mem.ev_zero _ _ _) | (with_reducible (apply Eq.trans (Mem.ev_tmp _ _ _)); simp only [List.getD_cons_succ, List.getD_cons_zero] <;> rfl)) ?_) | (refine plan_pick_t _ _ _ _ (by rfl) (by rfl) (by rfl) (by first | (with_reducible exact Mem.ev_const _ _) | (with_reducible exact Mem.ev_zero _ _ _) | (with_reducible (apply Eq.trans (Mem.ev_tmp _ _ _)); simp only [List.getD_cons_succ, List.getD_cons_zero] <;> rfl)) (by first | (with_reducible exact Mem.ev_const _ _) | (with_reducible exact Mem.ev_zero _ _ _) | (with_reducible (apply Eq.trans (Mem.ev_tmp _ _ _)); simp only [List.getD_cons_succ, List.getD_cons_zero] <;> rfl)) ?_) | (refine plan_pick_f _ _ _ _ (by rfl) (by rfl) (by rfl) (by first | (with_reducible exact Mem.ev_const _ _) | (with_reducible exact Mem.ev_zero _ _ _) | (with_reducible (apply Eq.trans (Mem.ev_tmp _ _ _)); simp only [List.getD_cons_succ, List.getD_cons_zero] <;> rfl)) (by first | (with_reducible exact Mem.ev_const _ _) | (with_reducible exact Mem.ev_zero _ _ _) | (with_reducible (apply Eq.trans (Mem.ev_tmp _ _ _)); simp only [List.getD_cons_succ, List.getD_cons_zero] <;> rfl)) ?_))
      (simp only [Act.put, List.setIfInBounds_toArray, List.set_cons_zero, List.set_cons_succ])
      refine plan_row 25 _ b12 _ G3 25 (by rfl) (by rfl) (by rfl) (by first | (with_reducible exact Mem.ev_const _ _) | (with_reducible exact Mem.ev_zero _ _ _) | (with_reducible (apply Eq.trans (Mem.ev_tmp _ _ _)); simp only [List.getD_cons_succ, List.getD_cons_zero] <;> rfl)) (fun w' hw' => A12.out.below hw' A12.out.lt) Tryd.underlying25 (by rfl) (by rw [G3S.out]; exact info32) ?_
      (simp only [Act.put, List.setIfInBounds_toArray, List.set_cons_zero, List.set_cons_succ])
      (first | (refine plan_move _ _ (by rfl) (by rfl) (.inl (by rfl)) (by first | (with_reducible exact Mem.ev_const _ _) | (with_reducible exact Mem.ev_zero _ _ _) | (with_reducible (apply Eq.trans (Mem.ev_tmp _ _ _)); simp only [List.getD_cons_succ, List.getD_cons_zero] <;> rfl)) ?_) | (refine plan_move _ _ (by rfl) (by rfl) (.inr (by rfl)) (by first | (with_reducible exact Mem.ev_const _ _) | (with_reducible exact Mem.ev_zero _ _ _) | (with_reducible (apply Eq.trans (Mem.ev_tmp _ _ _)); simp only [List.getD_cons_succ, List.getD_cons_zero] <;> rfl)) ?_) | (refine plan_pick_t _ _ _ _ (by rfl) (by rfl) (by rfl) (by first | (with_reducible exact Mem.ev_const _ _) | (with_reducible exact Mem.ev_zero _ _ _) | (with_reducible (apply Eq.trans (Mem.ev_tmp _ _ _)); simp only [List.getD_cons_succ, List.getD_cons_zero] <;> rfl)) (by first | (with_reducible exact Mem.ev_const _ _) | (with_reducible exact Mem.ev_zero _ _ _) | (with_reducible (apply Eq.trans (Mem.ev_tmp _ _ _)); simp only [List.getD_cons_succ, List.getD_cons_zero] <;> rfl)) ?_) | (refine plan_pick_f _ _ _ _ (by rfl) (by rfl) (by rfl) (by first | (with_reducible exact Mem.ev_const _ _) | (with_reducible exact Mem.ev_zero _ _ _) | (with_reducible (apply Eq.trans (Mem.ev_tmp _ _ _)); simp only [List.getD_cons_succ, List.getD_cons_zero] <;> rfl)) (by first | (with_reducible exact Mem.ev_const _ _) | (with_reducible exact Mem.ev_zero _ _ _) | (with_reducible (apply Eq.trans (Mem.ev_tmp _ _ _)); simp only [List.getD_cons_succ, List.getD_cons_zero] <;> rfl)) ?_))
      (simp only [Act.put, List.setIfInBounds_toArray, List.set_cons_zero, List.set_cons_succ])
      (first | (refine plan_move _ _ (by rfl) (by rfl) (.inl (by rfl)) (by first | (with_reducible exact Mem.ev_const _ _) | (with_reducible exact Mem.ev_zero _ _ _) | (with_reducible (apply Eq.trans (Mem.ev_tmp _ _ _)); simp only [List.getD_cons_succ, List.getD_cons_zero] <;> rfl)) ?_) | (refine plan_move _ _ (by rfl) (by rfl) (.inr (by rfl)) (by first | (with_reducible exact Mem.ev_const _ _) | (with_reducible exact Mem.ev_zero _ _ _) | (with_reducible (apply Eq.trans (Mem.ev_tmp _ _ _)); simp only [List.getD_cons_succ, List.getD_cons_zero] <;> rfl)) ?_) | (refine plan_pick_t _ _ _ _ (by rfl) (by rfl) (by rfl) (by first | (with_reducible exact Mem.ev_const _ _) | (with_reducible exact Mem.ev_zero _ _ _) | (with_reducible (apply Eq.trans (Mem.ev_tmp _ _ _)); simp only [List.getD_cons_succ, List.getD_cons_zero] <;> rfl)) (by first | (with_reducible exact Mem.ev_const _ _) | (with_reducible exact Mem.ev_zero _ _ _) | (with_reducible (apply Eq.trans (Mem.ev_tmp _ _ _)); simp only [List.getD_cons_succ, List.getD_cons_zero] <;> rfl)) ?_) | (refine plan_pick_f _ _ _ _ (by rfl) (by rfl) (by rfl) (by first | (with_reducible exact Mem.ev_const _ _) | (with_reducible exact Mem.ev_zero _ _ _) | (with_reducible (apply Eq.trans (Mem.ev_tmp _ _ _)); simp only [List.getD_cons_succ, List.getD_cons_zero] <;> rfl)) (by first | (with_reducible exact Mem.ev_const _ _) | (with_reducible exact Mem.ev_zero _ _ _) | (with_reducible (apply Eq.trans (Mem.ev_tmp _ _ _)); simp only [List.getD_cons_succ, List.getD_cons_zero] <;> rfl)) ?_))
      (simp only [Act.put, List.setIfInBounds_toArray, List.set_cons_zero, List.set_cons_succ])
      refine plan_slice 28 22 2 _ #[.slice xa na ca, .slice xc nc cc] (by rfl) (by rfl) (by rfl) Tryd.underlying28 (by kernel_rfl) (B.out.alloc B.out.size _) ?_
      have SLT := Lib.hid (sls_lit2 (HA.out.below (AB.out.trans (B.out.mono AB.out.size))) (HC.out.below (AB.out.trans (B.out.mono AB.out.size))))
      have B := Lib.hid (B.out.alloc B.out.size (.cells #[.slice xa na ca, .slice xc nc cc] 22))
      (simp only [Act.put, List.setIfInBounds_toArray, List.set_cons_zero, List.set_cons_succ])
      refine plan_call 14 _ _ _ (by kernel_rfl) (by rfl) (by rfl) (by rfl) (by first | exact Mem.ev_none _ | (simp only [List.map_toArray, List.map_cons, List.map_nil, Mem.ev_tmp, List.getD_cons_succ, List.getD_cons_zero] <;> rfl)) ?_
      refine (HAC.out _ _ SLT.out (HL.out.below (AB.out.trans (B.out.mono AB.out.size)) (Nat.le_refl _))).mono ?_
      rintro e W ⟨rfl, hbn⟩
      have B := Lib.hid (B.out.trans (hbn.mono B.out.size))
      clear hbn
      refine ⟨_, rfl, B.out, ?_⟩
      (simp only [Act.put, List.setIfInBounds_toArray, List.set_cons_zero, List.set_cons_succ])
      refine plan_bin _ _ _ _ _ _ _ _ (by rfl) (by rfl) (by rfl) (by first | (with_reducible exact Mem.ev_const _ _) | (with_reducible exact Mem.ev_zero _ _ _) | (with_reducible (apply Eq.trans (Mem.ev_tmp _ _ _)); simp only [List.getD_cons_succ, List.getD_cons_zero] <;> rfl)) (by first | (with_reducible exact Mem.ev_const _ _) | (with_reducible exact Mem.ev_zero _ _ _) | (with_reducible (apply Eq.trans (Mem.ev_tmp _ _ _)); simp only [List.getD_cons_succ, List.getD_cons_zero] <;> rfl)) (EQ3.out _ _) ?_
      (simp only [Act.put, List.setIfInBounds_toArray, List.set_cons_zero, List.set_cons_succ])
      (first | (refine plan_move _ _ (by rfl) (by rfl) (.inl (by rfl)) (by first | (with_reducible exact Mem.ev_const _ _) | (with_reducible exact Mem.ev_zero _ _ _) | (with_reducible (apply Eq.trans (Mem.ev_tmp _ _ _)); simp only [List.getD_cons_succ, List.getD_cons_zero] <;> rfl)) ?_) | (refine plan_move _ _ (by rfl) (by rfl) (.inr (by rfl)) (by first | (with_reducible exact Mem.ev_const _ _) | (with_reducible exact Mem.ev_zero _ _ _) | (with_reducible (apply Eq.trans (Mem.ev_tmp _ _ _)); simp only [List.getD_cons_succ, List.getD_cons_zero] <;> rfl)) ?_) | (refine plan_pick_t _ _ _ _ (by rfl) (by rfl) (by rfl) (by first | (with_reducible exact Mem.ev_const _ _) | (with_reducible exact Mem.ev_zero _ _ _) | (with_reducible (apply Eq.trans (Mem.ev_tmp _ _ _)); simp only [List.getD_cons_succ, List.getD_cons_zero] <;> rfl)) (by first | (with_reducible exact Mem.ev_const _ _) | (with_reducible exact Mem.ev_zero _ _ _) | (with_reducible (apply Eq.trans (Mem.ev_tmp _ _ _)); simp only [List.getD_cons_succ, List.getD_cons_zero] <;> rfl)) ?_) | (refine plan_pick_f _ _ _ _ (by rfl) (by rfl) (by rfl) (by first | (with_reducible exact Mem.ev_const _ _) | (with_reducible exact Mem.ev_zero _ _ _) | (with_reducible (apply Eq.trans (Mem.ev_tmp _ _ _)); simp only [List.getD_cons_succ, List.getD_cons_zero] <;> rfl)) (by first | (with_reducible exact Mem.ev_const _ _) | (with_reducible exact Mem.ev_zero _ _ _) | (with_reducible (apply Eq.trans (Mem.ev_tmp _ _ _)); simp only [List.getD_cons_succ, List.getD_cons_zero] <;> rfl)) ?_))
      (simp only [Act.put, List.setIfInBounds_toArray, List.set_cons_zero, List.set_cons_succ])
      (first | (refine plan_move _ _ (by rfl) (by rfl) (.inl (by rfl)) (by first | (with_reducible exact Mem.ev_const _ _) | (with_reducible exact Mem.ev_zero _ _ _) | (with_reducible (apply Eq.trans (Mem.ev_tmp _ _ _)); simp only [List.getD_cons_succ, List.getD_cons_zero] <;> rfl)) ?_) | (refine plan_move _ _ (by rfl) (by rfl) (.inr (by rfl)) (by first | (with_reducible exact Mem.ev_const _ _) | (with_reducible exact Mem.ev_zero _ _ _) | (with_reducible (apply Eq.trans (Mem.ev_tmp _ _ _)); simp only [List.getD_cons_succ, List.getD_cons_zero] <;> rfl)) ?_) | (refine plan_pick_t _ _ _ _ (by rfl) (by rfl) (by rfl) (by first | (with_reducible exact Mem.ev_const _ _) | (with_reducible exact Mem.ev_zero _ _ _) | (with_reducible (apply Eq.trans (Mem.ev_tmp _ _ _)); simp only [List.getD_cons_succ, List.getD_cons_zero] <;> rfl)) (by first | (with_reducible exact Mem.ev_const _ _) | (with_reducible exact Mem.ev_zero _ _ _) | (with_reducible (apply Eq.trans (Mem.ev_tmp _ _ _)); simp only [List.getD_cons_succ, List.getD_cons_zero] <;> rfl)) ?_) | (refine plan_pick_f _ _ _ _ (by rfl) (by rfl) (by rfl) (by first | (with_reducible exact Mem.ev_const _ _) | (with_reducible exact Mem.ev_zero _ _ _) | (with_reducible (apply Eq.trans (Mem.ev_tmp _ _ _)); simp only [List.getD_cons_succ, List.getD_cons_zero] <;> rfl)) (by first | (with_reducible exact Mem.ev_const _ _) | (with_reducible exact Mem.ev_zero _ _ _) | (with_reducible (apply Eq.trans (Mem.ev_tmp _ _ _)); simp only [List.getD_cons_succ, List.getD_cons_zero] <;> rfl)) ?_))
      (simp only [Act.put, List.setIfInBounds_toArray, List.set_cons_zero, List.set_cons_succ])
      refine plan_build _ _ #[] (.agg S0) (by rfl) (by rfl) (by rfl) (by simp) BLD.out ?_
      (simp only [Act.put, List.setIfInBounds_toArray, List.set_cons_zero, List.set_cons_succ])
      (first | (refine plan_move _ _ (by rfl) (by rfl) (.inl (by rfl)) (by first | (with_reducible exact Mem.ev_const _ _) | (with_reducible exact Mem.ev_zero _ _ _) | (with_reducible (apply Eq.trans (Mem.ev_tmp _ _ _)); simp only [List.getD_cons_succ, List.getD_cons_zero] <;> rfl)) ?_) | (refine plan_move _ _ (by rfl) (by rfl) (.inr (by rfl)) (by first | (with_reducible exact Mem.ev_const _ _) | (with_reducible exact Mem.ev_zero _ _ _) | (with_reducible (apply Eq.trans (Mem.ev_tmp _ _ _)); simp only [List.getD_cons_succ, List.getD_cons_zero] <;> rfl)) ?_) | (refine plan_pick_t _ _ _ _ (by rfl) (by rfl) (by rfl) (by first | (with_reducible exact Mem.ev_const _ _) | (with_reducible exact Mem.ev_zero _ _ _) | (with_reducible (apply Eq.trans (Mem.ev_tmp _ _ _)); simp only [List.getD_cons_succ, List.getD_cons_zero] <;> rfl)) (by first | (with_reducible exact Mem.ev_const _ _) | (with_reducible exact Mem.ev_zero _ _ _) | (with_reducible (apply Eq.trans (Mem.ev_tmp _ _ _)); simp only [List.getD_cons_succ, List.getD_cons_zero] <;> rfl)) ?_) | (refine plan_pick_f _ _ _ _ (by rfl) (by rfl) (by rfl) (by first | (with_reducible exact Mem.ev_const _ _) | (with_reducible exact Mem.ev_zero _ _ _) | (with_reducible (apply Eq.trans (Mem.ev_tmp _ _ _)); simp only [List.getD_cons_succ, List.getD_cons_zero] <;> rfl)) (by first | (with_reducible exact Mem.ev_const _ _) | (with_reducible exact Mem.ev_zero _ _ _) | (with_reducible (apply Eq.trans (Mem.ev_tmp _ _ _)); simp only [List.getD_cons_succ, List.getD_cons_zero] <;> rfl)) ?_))
      (simp only [Act.put, List.setIfInBounds_toArray, List.set_cons_zero, List.set_cons_succ])
      refine plan_row 25 _ Bd _ G1 25 (by rfl) (by rfl) (by rfl) (by first | (with_reducible exact Mem.ev_const _ _) | (with_reducible exact Mem.ev_zero _ _ _) | (with_reducible (apply Eq.trans (Mem.ev_tmp _ _ _)); simp only [List.getD_cons_succ, List.getD_cons_zero] <;> rfl)) (fun w' hw' => A8.out.below hw' A8.out.lt) Tryd.underlying25 (by rfl) (by rw [G1S.out]; exact info32) ?_
      (simp only [Act.put, List.setIfInBounds_toArray, List.set_cons_zero, List.set_cons_succ])
      refine plan_call 17 _ _ #[.agg S0, .slice xa na ca] (by kernel_rfl) (by rfl) (by rfl) (by rfl) (by first | exact Mem.ev_none _ | (simp only [List.map_toArray, List.map_cons, List.map_nil, Mem.ev_tmp, List.getD_cons_succ, List.getD_cons_zero] <;> rfl)) ?_
      refine (HW0.out _ (HA.out.below (AB.out.trans (B.out.mono AB.out.size))) (HL.out.below (AB.out.trans (B.out.mono AB.out.size)) (Nat.le_refl _))).mono ?_
      rintro e W ⟨rfl, hbn⟩
      have B := Lib.hid (B.out.trans (hbn.mono B.out.size))
      clear hbn
      refine ⟨_, rfl, B.out, ?_⟩
      (simp only [Act.put, List.setIfInBounds_toArray, List.set_cons_zero, List.set_cons_succ])
      refine plan_call 18 _ _ #[.agg S1] (by kernel_rfl) (by rfl) (by rfl) (by rfl) (by first | exact Mem.ev_none _ | (simp only [List.map_toArray, List.map_cons, List.map_nil, Mem.ev_tmp, List.getD_cons_succ, List.getD_cons_zero] <;> rfl)) ?_
      refine (HS1.out _ (HL.out.below (AB.out.trans (B.out.mono AB.out.size)) (Nat.le_refl _))).mono ?_
      rintro e W ⟨rfl, hbn⟩
      have B := Lib.hid (B.out.trans (hbn.mono B.out.size))
      clear hbn
      refine ⟨_, rfl, B.out, ?_⟩
      (simp only [Act.put, List.setIfInBounds_toArray, List.set_cons_zero, List.set_cons_succ])
      refine plan_bin _ _ _ _ _ _ _ _ (by rfl) (by rfl) (by rfl) (by first | (with_reducible exact Mem.ev_const _ _) | (with_reducible exact Mem.ev_zero _ _ _) | (with_reducible (apply Eq.trans (Mem.ev_tmp _ _ _)); simp only [List.getD_cons_succ, List.getD_cons_zero] <;> rfl)) (by first | (with_reducible exact Mem.ev_const _ _) | (with_reducible exact Mem.ev_zero _ _ _) | (with_reducible (apply Eq.trans (Mem.ev_tmp _ _ _)); simp only [List.getD_cons_succ, List.getD_cons_zero] <;> rfl)) (EQ1.out _ _) ?_
      (simp only [Act.put, List.setIfInBounds_toArray, List.set_cons_zero, List.set_cons_succ])
      (first | (refine plan_move _ _ (by rfl) (by rfl) (.inl (by rfl)) (by first | (with_reducible exact Mem.ev_const _ _) | (with_reducible exact Mem.ev_zero _ _ _) | (with_reducible (apply Eq.trans (Mem.ev_tmp _ _ _)); simp only [List.getD_cons_succ, List.getD_cons_zero] <;> rfl)) ?_) | (refine plan_move _ _ (by rfl) (by rfl) (.inr (by rfl)) (by first | (with_reducible exact Mem.ev_const _ _) | (with_reducible exact Mem.ev_zero _ _ _) | (with_reducible (apply Eq.trans (Mem.ev_tmp _ _ _)); simp only [List.getD_cons_succ, List.getD_cons_zero] <;> rfl)) ?_) | (refine plan_pick_t _ _ _ _ (by rfl) (by rfl) (by rfl) (by first | (with_reducible exact Mem.ev_const _ _) | (with_reducible exact Mem.ev_zero _ _ _) | (with_reducible (apply Eq.trans (Mem.ev_tmp _ _ _)); simp only [List.getD_cons_succ, List.getD_cons_zero] <;> rfl)) (by first | (with_reducible exact Mem.ev_const _ _) | (with_reducible exact Mem.ev_zero _ _ _) | (with_reducible (apply Eq.trans (Mem.ev_tmp _ _ _)); simp only [List.getD_cons_succ, List.getD_cons_zero] <;> rfl)) ?_) | (refine plan_pick_f _ _ _ _ (by rfl) (by rfl) (by rfl) (by first | (with_reducible exact Mem.ev_const _ _) | (with_reducible exact Mem.ev_zero _ _ _) | (with_reducible (apply Eq.trans (Mem.ev_tmp _ _ _)); simp only [List.getD_cons_succ, List.getD_cons_zero] <;> rfl)) (by first | (with_reducible exact Mem.ev_const _ _) | (with_reducible exact Mem.ev_zero _ _ _) | (with_reducible (apply Eq.trans (Mem.ev_tmp _ _ _)); simp only [List.getD_cons_succ, List.getD_cons_zero] <;> rfl)) ?_))
      (simp only [Act.put, List.setIfInBounds_toArray, List.set_cons_zero, List.set_cons_succ])
      (first | (refine plan_move _ _ (by rfl) (by rfl) (.inl (by rfl)) (by first | (with_reducible exact Mem.ev_const _ _) | (with_reducible exact Mem.ev_zero _ _ _) | (with_reducible (apply Eq.trans (Mem.ev_tmp _ _ _)); simp only [List.getD_cons_succ, List.getD_cons_zero] <;> rfl)) ?_) | (refine plan_move _ _ (by rfl) (by rfl) (.inr (by rfl)) (by first | (with_reducible exact Mem.ev_const _ _) | (with_reducible exact Mem.ev_zero _ _ _) | (with_reducible (apply Eq.trans (Mem.ev_tmp _ _ _)); simp only [List.getD_cons_succ, List.getD_cons_zero] <;> rfl)) ?_) | (refine plan_pick_t _ _ _ _ (by rfl) (by rfl) (by rfl) (by first | (with_reducible exact Mem.ev_const _ _) | (with_reducible exact Mem.ev_zero _ _ _) | (with_reducible (apply Eq.trans (Mem.ev_tmp _ _ _)); simp only [List.getD_cons_succ, List.getD_cons_zero] <;> rfl)) (by first | (with_reducible exact Mem.ev_const _ _) | (with_reducible exact Mem.ev_zero _ _ _) | (with_reducible (apply Eq.trans (Mem.ev_tmp _ _ _)); simp only [List.getD_cons_succ, List.getD_cons_zero] <;> rfl)) ?_) | (refine plan_pick_f _ _ _ _ (by rfl) (by rfl) (by rfl) (by first | (with_reducible exact Mem.ev_const _ _) | (with_reducible exact Mem.ev_zero _ _ _) | (with_reducible (apply Eq.trans (Mem.ev_tmp _ _ _)); simp only [List.getD_cons_succ, List.getD_cons_zero] <;> rfl)) (by first | (with_reducible exact Mem.ev_const _ _) | (with_reducible exact Mem.ev_zero _ _ _) | (with_reducible (apply Eq.trans (Mem.ev_tmp _ _ _)); simp only [List.getD_cons_succ, List.getD_cons_zero] <;> rfl)) ?_))
      (simp only [Act.put, List.setIfInBounds_toArray, List.set_cons_zero, List.set_cons_succ])
      refine plan_call 13 _ _ #[] (by kernel_rfl) (by rfl) (by rfl) (by rfl) (by first | exact Mem.ev_none _ | (simp only [List.map_toArray, List.map_cons, List.map_nil, Mem.ev_tmp, List.getD_cons_succ, List.getD_cons_zero] <;> rfl)) ?_
      refine (alive_any _ (HL.out.below (AB.out.trans (B.out.mono AB.out.size)) (Nat.le_refl _))).mono ?_
      rintro e W ⟨rfl, hbn⟩
      have B := Lib.hid (B.out.trans (hbn.mono B.out.size))
      clear hbn
      refine ⟨_, rfl, B.out, ?_⟩
      (simp only [Act.put, List.setIfInBounds_toArray, List.set_cons_zero, List.set_cons_succ])
      (first | (refine plan_move _ _ (by rfl) (by rfl) (.inl (by rfl)) (by first | (with_reducible exact Mem.ev_const _ _) | (with_reducible exact Mem.ev_zero _ _ _) | (with_reducible (apply Eq.trans (Mem.ev_tmp _ _ _)); simp only [List.getD_cons_succ, List.getD_cons_zero] <;> rfl)) ?_) | (refine plan_move _ _ (by rfl) (by rfl) (.inr (by rfl)) (by first | (with_reducible exact Mem.ev_const _ _) | (with_reducible exact Mem.ev_zero _ _ _) | (with_reducible (apply Eq.trans (Mem.ev_tmp _ _ _)); simp only [List.getD_cons_succ, List.getD_cons_zero] <;> rfl)) ?_) | (refine plan_pick_t _ _ _ _ (by rfl) (by rfl) (by rfl) (by first | (with_reducible exact Mem.ev_const _ _) | (with_reducible exact Mem.ev_zero _ _ _) | (with_reducible (apply Eq.trans (Mem.ev_tmp _ _ _)); simp only [List.getD_cons_succ, List.getD_cons_zero] <;> rfl)) (by first | (with_reducible exact Mem.ev_const _ _) | (with_reducible exact Mem.ev_zero _ _ _) | (with_reducible (apply Eq.trans (Mem.ev_tmp _ _ _)); simp only [List.getD_cons_succ, List.getD_cons_zero] <;> rfl)) ?_) | (refine plan_pick_f _ _ _ _ (by rfl) (by rfl) (by rfl) (by first | (with_reducible exact Mem.ev_const _ _) | (with_reducible exact Mem.ev_zero _ _ _) | (with_reducible (apply Eq.trans (Mem.ev_tmp _ _ _)); simp only [List.getD_cons_succ, List.getD_cons_zero] <;> rfl)) (by first | (with_reducible exact Mem.ev_const _ _) | (with_reducible exact Mem.ev_zero _ _ _) | (with_reducible (apply Eq.trans (Mem.ev_tmp _ _ _)); simp only [List.getD_cons_succ, List.getD_cons_zero] <;> rfl)) ?_))
      (simp only [Act.put, List.setIfInBounds_toArray, List.set_cons_zero, List.set_cons_succ])
      (first | (refine plan_move _ _ (by rfl) (by rfl) (.inl (by rfl)) (by first | (with_reducible exact Mem.ev_const _ _) | (with_reducible exact Mem.ev_zero _ _ _) | (with_reducible (apply Eq.trans (Mem.ev_tmp _ _ _)); simp only [List.getD_cons_succ, List.getD_cons_zero] <;> rfl)) ?_) | (refine plan_move _ _ (by rfl) (by rfl) (.inr (by rfl)) (by first | (with_reducible exact Mem.ev_const _ _) | (with_reducible exact Mem.ev_zero _ _ _) | (with_reducible (apply Eq.trans (Mem.ev_tmp _ _ _)); simp only [List.getD_cons_succ, List.getD_cons_zero] <;> rfl)) ?_) | (refine plan_pick_t _ _ _ _ (by rfl) (by rfl) (by rfl) (by first | (with_reducible exact Mem.ev_const _ _) | (with_reducible exact Mem.ev_zero _ _ _) | (with_reducible (apply Eq.trans (Mem.ev_tmp _ _ _)); simp only [List.getD_cons_succ, List.getD_cons_zero] <;> rfl)) (by first | (with_reducible exact Mem.ev_const _ _) | (with_reducible exact Mem.ev_zero _ _ _) | (with_reducible (apply Eq.trans (Mem.ev_tmp _ _ _)); simp only [List.getD_cons_succ, List.getD_cons_zero] <;> rfl)) ?_) | (refine plan_pick_f _ _ _ _ (by rfl) (by rfl) (by rfl) (by first | (with_reducible exact Mem.ev_const _ _) | (with_reducible exact Mem.ev_zero _ _ _) | (with_reducible (apply Eq.trans (Mem.ev_tmp _ _ _)); simp only [List.getD_cons_succ, List.getD_cons_zero] <;> rfl)) (by first | (with_reducible exact Mem.ev_const _ _) | (with_reducible exact Mem.ev_zero _ _ _) | (with_reducible (apply Eq.trans (Mem.ev_tmp _ _ _)); simp only [List.getD_cons_succ, List.getD_cons_zero] <;> rfl)) ?_))
      (simp only [Act.put, List.setIfInBounds_toArray, List.set_cons_zero, List.set_cons_succ])
      refine plan_nil ?_
      go_wp2_with fail
      go_ret
      exact ⟨rfl, AB.out.trans (B.out.mono AB.out.size)⟩
set_option maxRecDepth 100000 in
set_option maxHeartbeats 400000 in
theorem stays_far (a b c : List (BitVec 8)) (va vb vc : Value) (w : World) (ha : Sl w va a) (hb : Sl w vb b) (hc : Sl w vc c) (la : a.length ≤ 9223372036854775807) (lb : b.length ≤ 9223372036854775807) (lc : c.length ≤ 9223372036854775807)
    (hf : 600 < a.length ∨ (a.length ≤ 600 ∧ 600 < b.length) ∨ (a.length ≤ 600 ∧ b.length ≤ 600 ∧ 600 < c.length)) (hL : Tabs w) :
    Calls Tryd.prog 5 #[va, vb, vc] w fun e w' => e = .returned (.bool true) ∧ Below w.heap.size w w' := by
  have HAL := Lib.hid (alive_any w hL)
  clear hL
  obtain ⟨xa, ca, rfl, _, _⟩ := ha
  obtain ⟨xb, cb, rfl, _, _⟩ := hb
  obtain ⟨xc, cc, rfl, _, _⟩ := hc
  generalize a.length = na at *
  generalize b.length = nb at *
  generalize c.length = nc at *
  rcases hf with h | ⟨h1, h⟩ | ⟨h1, h2, h⟩
  · have FA := Lib.hid (fun wx => far_yes na xa ca wx h la)
    go_enter Tryd.func5, Tryd.ntmps5
    go_wp2_with fail
    refine (FA.out _).mono ?_
    rintro e w1 ⟨rfl, rfl⟩
    go_wp2_with fail
    refine HAL.out.mono ?_
    rintro e w1 ⟨rfl, hb⟩
    go_wp2_with fail
    go_ret
    exact ⟨rfl, hb⟩
  · have FA := Lib.hid (fun wx => far_no na xa ca wx h1)
    have FB := Lib.hid (fun wx => far_yes nb xb cb wx h lb)
    go_enter Tryd.func5, Tryd.ntmps5
    go_wp2_with fail
    refine (FA.out _).mono ?_
    rintro e w1 ⟨rfl, rfl⟩
    go_wp2_with fail
    refine (FB.out _).mono ?_
    rintro e w1 ⟨rfl, rfl⟩
    go_wp2_with fail
    refine HAL.out.mono ?_
    rintro e w1 ⟨rfl, hb⟩
    go_wp2_with fail
    go_ret
    exact ⟨rfl, hb⟩
  · have FA := Lib.hid (fun wx => far_no na xa ca wx h1)
    have FB := Lib.hid (fun wx => far_no nb xb cb wx h2)
    have FC := Lib.hid (fun wx => far_yes nc xc cc wx h lc)
    go_enter Tryd.func5, Tryd.ntmps5
    go_wp2_with fail
    refine (FA.out _).mono ?_
    rintro e w1 ⟨rfl, rfl⟩
    go_wp2_with fail
    refine (FB.out _).mono ?_
    rintro e w1 ⟨rfl, rfl⟩
    go_wp2_with fail
    refine (FC.out _).mono ?_
    rintro e w1 ⟨rfl, rfl⟩
    go_wp2_with fail
    refine HAL.out.mono ?_
    rintro e w1 ⟨rfl, hb⟩
    go_wp2_with fail
    go_ret
    exact ⟨rfl, hb⟩
theorem stays_any (a b c : List (BitVec 8)) (va vb vc : Value) (w : World) (ha : Sl w va a) (hb : Sl w vb b) (hc : Sl w vc c) (la : a.length ≤ 9223372036854775807) (lb : b.length ≤ 9223372036854775807) (lc : c.length ≤ 9223372036854775807) (hL : Tabs w) :
    Calls Tryd.prog 5 #[va, vb, vc] w fun e w' => e = .returned (.bool true) ∧ Below w.heap.size w w' := by
  by_cases h : a.length ≤ 600 ∧ b.length ≤ 600 ∧ c.length ≤ 600
  · exact stays_near a b c va vb vc w ha hb hc h.1 h.2.1 h.2.2 hL
  · exact stays_far a b c va vb vc w ha hb hc la lb lc (by omega) hL
end Sha
end Go.Proofs.YtmnhpochojplgaaDoor
