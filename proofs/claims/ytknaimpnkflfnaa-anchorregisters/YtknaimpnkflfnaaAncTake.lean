/- The program's take: its walk. -/
import Derived.Test.YtknaimpnkflfnaaAncTakeM
import Derived.Deep.DeepCutAuto
namespace Go.Proofs.Ytknaimpnkflfnaa
namespace Sha
open Go.RowKit Mem
set_option maxRecDepth 100000 in
set_option maxHeartbeats 8000000 in
theorem ptake_any (b : List (BitVec 8)) (br : Nat) (w : World) (hr : RPk w br b 0) (hl : b.length = 128) :
    Calls Try.prog 29 #[.func (.func 30) #[rp br] #[], .func (.func 31) #[rp br] #[]] w fun o w' => o = .returned (.agg (ancC (takeA b).1)) ∧ PEnd RPk w br (takeA b).2.1 (takeA b).2.2 w' := by
  have hbr := hr.lt
  have hl0 : b.length ≤ 8000 := by omega
  obtain ⟨r1, hr1⟩ : ∃ r, r = rdNum b 0 1 2 := ⟨_, rfl⟩
  have lt1 : r1.1 ≤ 2 := by rw [hr1]; exact rdNum_le _ _ _ _
  have ll1 : r1.2.1.length ≤ 8000 := by rw [hr1]; exact Nat.le_trans (rdNum_len _ _ _ _) hl0
  have nu1 : ∀ wx, RPk wx br b 0 → Calls Try.prog 30 #[rp br, .int .i64 1, .int .u64 (2 : Int)] wx fun o w' => o = .returned (.int .u64 ((r1.1 : Nat) : Int)) ∧ PEnd RPk wx br r1.2.1 r1.2.2 w' := fun wx h => by rw [hr1]; exact pnumget_any b 0 1 2 br wx h hl0 (by omega)
  obtain ⟨n1, b1, e1⟩ := r1
  simp only at lt1 ll1 nu1
  obtain ⟨r2, hr2⟩ : ∃ r, r = rdNum b1 e1 2 216 := ⟨_, rfl⟩
  have lt2 : r2.1 ≤ 216 := by rw [hr2]; exact rdNum_le _ _ _ _
  have ll2 : r2.2.1.length ≤ 8000 := by rw [hr2]; exact Nat.le_trans (rdNum_len _ _ _ _) ll1
  have nu2 : ∀ wx, RPk wx br b1 e1 → Calls Try.prog 30 #[rp br, .int .i64 2, .int .u64 (216 : Int)] wx fun o w' => o = .returned (.int .u64 ((r2.1 : Nat) : Int)) ∧ PEnd RPk wx br r2.2.1 r2.2.2 w' := fun wx h => by rw [hr2]; exact pnumget_any b1 e1 2 216 br wx h ll1 (by omega)
  obtain ⟨n2, b2, e2⟩ := r2
  simp only at lt2 ll2 nu2
  obtain ⟨r3, hr3⟩ : ∃ r, r = rdNum b2 e2 4 4294967295 := ⟨_, rfl⟩
  have lt3 : r3.1 ≤ 4294967295 := by rw [hr3]; exact rdNum_le _ _ _ _
  have ll3 : r3.2.1.length ≤ 8000 := by rw [hr3]; exact Nat.le_trans (rdNum_len _ _ _ _) ll2
  have nu3 : ∀ wx, RPk wx br b2 e2 → Calls Try.prog 30 #[rp br, .int .i64 4, .int .u64 (4294967295 : Int)] wx fun o w' => o = .returned (.int .u64 ((r3.1 : Nat) : Int)) ∧ PEnd RPk wx br r3.2.1 r3.2.2 w' := fun wx h => by rw [hr3]; exact pnumget_any b2 e2 4 4294967295 br wx h ll2 (by omega)
  obtain ⟨n3, b3, e3⟩ := r3
  simp only at lt3 ll3 nu3
  obtain ⟨r4, hr4⟩ : ∃ r, r = rdNum b3 e3 1 1 := ⟨_, rfl⟩
  have lt4 : r4.1 ≤ 1 := by rw [hr4]; exact rdNum_le _ _ _ _
  have ll4 : r4.2.1.length ≤ 8000 := by rw [hr4]; exact Nat.le_trans (rdNum_len _ _ _ _) ll3
  have nu4 : ∀ wx, RPk wx br b3 e3 → Calls Try.prog 30 #[rp br, .int .i64 1, .int .u64 (1 : Int)] wx fun o w' => o = .returned (.int .u64 ((r4.1 : Nat) : Int)) ∧ PEnd RPk wx br r4.2.1 r4.2.2 w' := fun wx h => by rw [hr4]; exact pnumget_any b3 e3 1 1 br wx h ll3 (by omega)
  obtain ⟨n4, b4, e4⟩ := r4
  simp only at lt4 ll4 nu4
  obtain ⟨r5, hr5⟩ : ∃ r, r = rdTake b4 e4 32 := ⟨_, rfl⟩
  have lt5 : r5.x = [] ∨ r5.x.length = 32 := by rw [hr5]; exact rdTake_x _ _ _
  have ll5 : r5.b.length ≤ 8000 := by rw [hr5]; exact Nat.le_trans (rdTake_small _ _ _).2.2.1 ll4
  have nu5 : ∀ wx, RPk wx br b4 e4 → Calls Try.prog 31 #[rp br, .int .i64 32] wx fun o w' => ∃ v, o = .returned v ∧ Sl w' v r5.x ∧ PEnd RPk wx br r5.b r5.e w' := fun wx h => by rw [hr5]; exact pbytes_any b4 e4 32 br wx h ll4 (by decide) (by decide)
  obtain ⟨x5, b5, e5⟩ := r5
  simp only at lt5 ll5 nu5
  obtain ⟨r6, hr6⟩ : ∃ r, r = rdNum b5 e5 1 1 := ⟨_, rfl⟩
  have lt6 : r6.1 ≤ 1 := by rw [hr6]; exact rdNum_le _ _ _ _
  have ll6 : r6.2.1.length ≤ 8000 := by rw [hr6]; exact Nat.le_trans (rdNum_len _ _ _ _) ll5
  have nu6 : ∀ wx, RPk wx br b5 e5 → Calls Try.prog 30 #[rp br, .int .i64 1, .int .u64 (1 : Int)] wx fun o w' => o = .returned (.int .u64 ((r6.1 : Nat) : Int)) ∧ PEnd RPk wx br r6.2.1 r6.2.2 w' := fun wx h => by rw [hr6]; exact pnumget_any b5 e5 1 1 br wx h ll5 (by omega)
  obtain ⟨n6, b6, e6⟩ := r6
  simp only at lt6 ll6 nu6
  obtain ⟨r7, hr7⟩ : ∃ r, r = rdNum b6 e6 4 n3 := ⟨_, rfl⟩
  have lt7 : r7.1 ≤ n3 := by rw [hr7]; exact rdNum_le _ _ _ _
  have ll7 : r7.2.1.length ≤ 8000 := by rw [hr7]; exact Nat.le_trans (rdNum_len _ _ _ _) ll6
  have nu7 : ∀ wx, RPk wx br b6 e6 → Calls Try.prog 30 #[rp br, .int .i64 4, .int .u64 (n3 : Int)] wx fun o w' => o = .returned (.int .u64 ((r7.1 : Nat) : Int)) ∧ PEnd RPk wx br r7.2.1 r7.2.2 w' := fun wx h => by rw [hr7]; exact pnumget_any b6 e6 4 n3 br wx h ll6 (by omega)
  obtain ⟨n7, b7, e7⟩ := r7
  simp only at lt7 ll7 nu7
  obtain ⟨r8, hr8⟩ : ∃ r, r = rdTake b7 e7 32 := ⟨_, rfl⟩
  have lt8 : r8.x = [] ∨ r8.x.length = 32 := by rw [hr8]; exact rdTake_x _ _ _
  have ll8 : r8.b.length ≤ 8000 := by rw [hr8]; exact Nat.le_trans (rdTake_small _ _ _).2.2.1 ll7
  have nu8 : ∀ wx, RPk wx br b7 e7 → Calls Try.prog 31 #[rp br, .int .i64 32] wx fun o w' => ∃ v, o = .returned v ∧ Sl w' v r8.x ∧ PEnd RPk wx br r8.b r8.e w' := fun wx h => by rw [hr8]; exact pbytes_any b7 e7 32 br wx h ll7 (by decide) (by decide)
  obtain ⟨x8, b8, e8⟩ := r8
  simp only at lt8 ll8 nu8
  obtain ⟨r9, hr9⟩ : ∃ r, r = rdNum b8 e8 8 18446744073709551615 := ⟨_, rfl⟩
  have lt9 : r9.1 ≤ 18446744073709551615 := by rw [hr9]; exact rdNum_le _ _ _ _
  have ll9 : r9.2.1.length ≤ 8000 := by rw [hr9]; exact Nat.le_trans (rdNum_len _ _ _ _) ll8
  have nu9 : ∀ wx, RPk wx br b8 e8 → Calls Try.prog 30 #[rp br, .int .i64 8, .int .u64 (18446744073709551615 : Int)] wx fun o w' => o = .returned (.int .u64 ((r9.1 : Nat) : Int)) ∧ PEnd RPk wx br r9.2.1 r9.2.2 w' := fun wx h => by rw [hr9]; exact pnumget_any b8 e8 8 18446744073709551615 br wx h ll8 (by omega)
  obtain ⟨n9, b9, e9⟩ := r9
  simp only at lt9 ll9 nu9
  have hta : takeA b = (⟨(n1 : Int), (n2 : Int), n3, (n4 : Int), padA x5, (n6 : Int), n7, padA x8, n9⟩, b9, e9) := by
    simp only [takeA]
    simp only [← hr1, ← hr2, ← hr3, ← hr4, ← hr5, ← hr6, ← hr7, ← hr8, ← hr9]
  obtain ⟨Z, hZ⟩ : ∃ Z, Z = ancC zanc := ⟨_, rfl⟩
  have zs : Z.size = 71 := by rw [hZ]; exact ancC_size zanc_wf
  have hx : ∀ w, (zeroValue 31).run Try.prog w = .ok (.agg Z) w := by rw [hZ]; exact zeroAncP
  obtain ⟨C1, hC1⟩ : ∃ C, C = ancC ⟨(n1 : Int), 0, 0, 0, Z32b, 0, 0, Z32b, 0⟩ := ⟨_, rfl⟩
  have s1 : C1.size = 71 := by rw [hC1]; exact wf_of (a := ⟨(n1 : Int), 0, 0, 0, Z32b, 0, 0, Z32b, 0⟩) (by first | exact padA_len _ lt5 | exact padA_len _ lt8 | rfl) (by first | exact padA_len _ lt5 | exact padA_len _ lt8 | rfl)
  have q1 : Z.setIfInBounds 0 (.int .i64 (n1 : Int)) = C1 := by rw [hC1, hZ]; exact anc_set_ver _ _
  obtain ⟨C2, hC2⟩ : ∃ C, C = ancC ⟨(n1 : Int), (n2 : Int), 0, 0, Z32b, 0, 0, Z32b, 0⟩ := ⟨_, rfl⟩
  have s2 : C2.size = 71 := by rw [hC2]; exact wf_of (a := ⟨(n1 : Int), (n2 : Int), 0, 0, Z32b, 0, 0, Z32b, 0⟩) (by first | exact padA_len _ lt5 | exact padA_len _ lt8 | rfl) (by first | exact padA_len _ lt5 | exact padA_len _ lt8 | rfl)
  have q2 : C1.setIfInBounds 1 (.int .i64 (n2 : Int)) = C2 := by rw [hC2, hC1]; exact anc_set_pages _ _
  obtain ⟨C3, hC3⟩ : ∃ C, C = ancC ⟨(n1 : Int), (n2 : Int), n3, 0, Z32b, 0, 0, Z32b, 0⟩ := ⟨_, rfl⟩
  have s3 : C3.size = 71 := by rw [hC3]; exact wf_of (a := ⟨(n1 : Int), (n2 : Int), n3, 0, Z32b, 0, 0, Z32b, 0⟩) (by first | exact padA_len _ lt5 | exact padA_len _ lt8 | rfl) (by first | exact padA_len _ lt5 | exact padA_len _ lt8 | rfl)
  have q3 : C2.setIfInBounds 2 (.int .u32 (n3 : Int)) = C3 := by rw [hC3, hC2]; exact anc_set_epoch _ _
  obtain ⟨C4, hC4⟩ : ∃ C, C = ancC ⟨(n1 : Int), (n2 : Int), n3, (n4 : Int), Z32b, 0, 0, Z32b, 0⟩ := ⟨_, rfl⟩
  have s4 : C4.size = 71 := by rw [hC4]; exact wf_of (a := ⟨(n1 : Int), (n2 : Int), n3, (n4 : Int), Z32b, 0, 0, Z32b, 0⟩) (by first | exact padA_len _ lt5 | exact padA_len _ lt8 | rfl) (by first | exact padA_len _ lt5 | exact padA_len _ lt8 | rfl)
  have q4 : C3.setIfInBounds 3 (.int .i64 (n4 : Int)) = C4 := by rw [hC4, hC3]; exact anc_set_hp _ _
  obtain ⟨C5, hC5⟩ : ∃ C, C = ancC ⟨(n1 : Int), (n2 : Int), n3, (n4 : Int), padA x5, 0, 0, Z32b, 0⟩ := ⟨_, rfl⟩
  have s5 : C5.size = 71 := by rw [hC5]; exact wf_of (a := ⟨(n1 : Int), (n2 : Int), n3, (n4 : Int), padA x5, 0, 0, Z32b, 0⟩) (by first | exact padA_len _ lt5 | exact padA_len _ lt8 | rfl) (by first | exact padA_len _ lt5 | exact padA_len _ lt8 | rfl)
  have q5 : (if x5 = [] then C4 else (C4.toList.take 4 ++ u8s x5 ++ C4.toList.drop (4 + 32)).toArray) = C5 := by rw [hC5, hC4]; exact anc_copy_head _ x5 rfl
  obtain ⟨C6, hC6⟩ : ∃ C, C = ancC ⟨(n1 : Int), (n2 : Int), n3, (n4 : Int), padA x5, (n6 : Int), 0, Z32b, 0⟩ := ⟨_, rfl⟩
  have s6 : C6.size = 71 := by rw [hC6]; exact wf_of (a := ⟨(n1 : Int), (n2 : Int), n3, (n4 : Int), padA x5, (n6 : Int), 0, Z32b, 0⟩) (by first | exact padA_len _ lt5 | exact padA_len _ lt8 | rfl) (by first | exact padA_len _ lt5 | exact padA_len _ lt8 | rfl)
  have q6 : C5.setIfInBounds 36 (.int .i64 (n6 : Int)) = C6 := by rw [hC6, hC5]; exact anc_set_rp _ _ (by first | exact padA_len _ lt5 | rfl)
  obtain ⟨C7, hC7⟩ : ∃ C, C = ancC ⟨(n1 : Int), (n2 : Int), n3, (n4 : Int), padA x5, (n6 : Int), n7, Z32b, 0⟩ := ⟨_, rfl⟩
  have s7 : C7.size = 71 := by rw [hC7]; exact wf_of (a := ⟨(n1 : Int), (n2 : Int), n3, (n4 : Int), padA x5, (n6 : Int), n7, Z32b, 0⟩) (by first | exact padA_len _ lt5 | exact padA_len _ lt8 | rfl) (by first | exact padA_len _ lt5 | exact padA_len _ lt8 | rfl)
  have q7 : C6.setIfInBounds 37 (.int .u32 (n7 : Int)) = C7 := by rw [hC7, hC6]; exact anc_set_re _ _ (by first | exact padA_len _ lt5 | rfl)
  obtain ⟨C8, hC8⟩ : ∃ C, C = ancC ⟨(n1 : Int), (n2 : Int), n3, (n4 : Int), padA x5, (n6 : Int), n7, padA x8, 0⟩ := ⟨_, rfl⟩
  have s8 : C8.size = 71 := by rw [hC8]; exact wf_of (a := ⟨(n1 : Int), (n2 : Int), n3, (n4 : Int), padA x5, (n6 : Int), n7, padA x8, 0⟩) (by first | exact padA_len _ lt5 | exact padA_len _ lt8 | rfl) (by first | exact padA_len _ lt5 | exact padA_len _ lt8 | rfl)
  have q8 : (if x8 = [] then C7 else (C7.toList.take 38 ++ u8s x8 ++ C7.toList.drop (38 + 32)).toArray) = C8 := by rw [hC8, hC7]; exact anc_copy_root _ x8 (by first | exact padA_len _ lt5 | rfl) rfl
  obtain ⟨C9, hC9⟩ : ∃ C, C = ancC ⟨(n1 : Int), (n2 : Int), n3, (n4 : Int), padA x5, (n6 : Int), n7, padA x8, n9⟩ := ⟨_, rfl⟩
  have s9 : C9.size = 71 := by rw [hC9]; exact wf_of (a := ⟨(n1 : Int), (n2 : Int), n3, (n4 : Int), padA x5, (n6 : Int), n7, padA x8, n9⟩) (by first | exact padA_len _ lt5 | exact padA_len _ lt8 | rfl) (by first | exact padA_len _ lt5 | exact padA_len _ lt8 | rfl)
  have q9 : C8.setIfInBounds 70 (.int .u64 (n9 : Int)) = C9 := by rw [hC9, hC8]; exact anc_set_com _ _ (by first | exact padA_len _ lt5 | rfl) (by first | exact padA_len _ lt8 | rfl)
  have d7 : C6[2]? = some (.int .u32 (n3 : Int)) := by rw [hC6]; exact anc2 _
  have o9 : C9.all (·.oneCell') = true := by rw [hC9]; exact ancC_one _
  rw [hta]
  simp only
  rw [← hC9]
  have l8 : n7 ≤ 4294967295 := Nat.le_trans lt7 lt3
  obtain ⟨w1, hw1⟩ : ∃ w1, w1 = (w.alloc (.cells Z 31)).alloc (.cells Z 31) := ⟨_, rfl⟩
  have i0 : TkInv w br Z Z b 0 w1 := by
    have h0 : Below w.heap.size w w1 := by rw [hw1]; exact ((Below.refl _ w).alloc (Nat.le_refl _) _).alloc (by simp) _
    refine ⟨hr.below h0, by rw [hw1]; exact (at_new w _ _).alloc _, ?_, ⟨h0.size, fun k hk _ => h0.block k hk⟩, fun B x h hB => h.trans (h0.mono (by omega))⟩
    have h := at_new (w.alloc (.cells Z 31)) Z 31
    rw [World.size_alloc] at h; rw [hw1]; exact h
  have BR := Lib.hid hbr; have I0 := Lib.hid i0; have ZS := Lib.hid zs; have D7 := Lib.hid d7; have O9 := Lib.hid o9
  have NU1 := Lib.hid nu1; have Q1 := Lib.hid q1; have S1 := Lib.hid s1
  have NU2 := Lib.hid nu2; have Q2 := Lib.hid q2; have S2 := Lib.hid s2
  have NU3 := Lib.hid nu3; have Q3 := Lib.hid q3; have S3 := Lib.hid s3
  have NU4 := Lib.hid nu4; have Q4 := Lib.hid q4; have S4 := Lib.hid s4
  have NU5 := Lib.hid nu5; have Q5 := Lib.hid q5; have S5 := Lib.hid s5; have X5 := Lib.hid lt5
  have NU6 := Lib.hid nu6; have Q6 := Lib.hid q6; have S6 := Lib.hid s6
  have NU7 := Lib.hid nu7; have Q7 := Lib.hid q7; have S7 := Lib.hid s7
  have NU8 := Lib.hid nu8; have Q8 := Lib.hid q8; have S8 := Lib.hid s8; have X8 := Lib.hid lt8
  have NU9 := Lib.hid nu9; have Q9 := Lib.hid q9; have S9 := Lib.hid s9
  clear hr hl hl0 hbr i0 zs d7 o9 hta hZ lt5 lt8 hr1 ll1 nu1 q1 s1 hC1 hr2 ll2 nu2 q2 s2 hC2 hr3 ll3 nu3 q3 s3 hC3 hr4 ll4 nu4 q4 s4 hC4 hr5 ll5 nu5 q5 s5 hC5 hr6 ll6 nu6 q6 s6 hC6 hr7 ll7 nu7 q7 s7 hC7 hr8 ll8 nu8 q8 s8 hC8 hr9 ll9 nu9 q9 s9 hC9
  go_enter Try.func29, Try.ntmps29
  go_upto_region 2 with fail
  clear hx
  rw [← hw1]
  clear hw1
  go_wp2_with fail
  refine (NU1.out _ I0.out.r).mono ?_
  rintro e wa1 ⟨rfl, hp⟩
  have J1 := Lib.hid (I0.out.call hp BR.out)
  clear hp
  go_wp2_with (first
    | (refine wpList_conv (by rfl) _ _ _ _ (.int .i64 (n1 : Int)) (by rfl) (by rfl) (fun wx => conv_ui n1 (by omega) wx) ?_)
    | (refine Mem.wpList_store_one (by rfl) 3 _ _ (by rfl) (by rfl) (w.heap.size + 1) 0 (.int .i64 (n1 : Int)) (by rfl) (by rfl) (by rfl) (by kernel_rfl) Z 31 J1.out.ag (by rw [ZS.out]; decide) ?_; intro wb1 ha ho hk; rw [Q1.out] at ha; have I1 := Lib.hid (J1.out.store ha ho hk BR.out); clear ha ho hk))
  refine (NU2.out _ I1.out.r).mono ?_
  rintro e wa2 ⟨rfl, hp⟩
  have J2 := Lib.hid (I1.out.call hp BR.out)
  clear hp
  go_wp2_with (first
    | (refine wpList_conv (by rfl) _ _ _ _ (.int .i64 (n2 : Int)) (by rfl) (by rfl) (fun wx => conv_ui n2 (by omega) wx) ?_)
    | (refine Mem.wpList_store_one (by rfl) 3 _ _ (by rfl) (by rfl) (w.heap.size + 1) 1 (.int .i64 (n2 : Int)) (by rfl) (by rfl) (by rfl) (by kernel_rfl) C1 31 J2.out.ag (by rw [S1.out]; decide) ?_; intro wb2 ha ho hk; rw [Q2.out] at ha; have I2 := Lib.hid (J2.out.store ha ho hk BR.out); clear ha ho hk))
  refine (NU3.out _ I2.out.r).mono ?_
  rintro e wa3 ⟨rfl, hp⟩
  have J3 := Lib.hid (I2.out.call hp BR.out)
  clear hp
  go_wp2_with (first
    | (refine wpList_conv (by rfl) _ _ _ _ (.int .u32 (n3 : Int)) (by rfl) (by rfl) (fun wx => conv_u32 n3 (by omega) wx) ?_)
    | (refine Mem.wpList_store_one (by rfl) 22 _ _ (by rfl) (by rfl) (w.heap.size + 1) 2 (.int .u32 (n3 : Int)) (by rfl) (by rfl) (by rfl) (by kernel_rfl) C2 31 J3.out.ag (by rw [S2.out]; decide) ?_; intro wb3 ha ho hk; rw [Q3.out] at ha; have I3 := Lib.hid (J3.out.store ha ho hk BR.out); clear ha ho hk))
  refine (NU4.out _ I3.out.r).mono ?_
  rintro e wa4 ⟨rfl, hp⟩
  have J4 := Lib.hid (I3.out.call hp BR.out)
  clear hp
  go_wp2_with (first
    | (refine wpList_conv (by rfl) _ _ _ _ (.int .i64 (n4 : Int)) (by rfl) (by rfl) (fun wx => conv_ui n4 (by omega) wx) ?_)
    | (refine Mem.wpList_store_one (by rfl) 3 _ _ (by rfl) (by rfl) (w.heap.size + 1) 3 (.int .i64 (n4 : Int)) (by rfl) (by rfl) (by rfl) (by kernel_rfl) C3 31 J4.out.ag (by rw [S3.out]; decide) ?_; intro wb4 ha ho hk; rw [Q4.out] at ha; have I4 := Lib.hid (J4.out.store ha ho hk BR.out); clear ha ho hk))
  refine wp_region_plan_in (fun _ => True) (.take 0 (.take 1 (.take 2 (.sole 3 (.sole 4 .done))))) (by kernel_rfl) (by kernel_rfl) (by kernel_rfl) trivial ?_
  refine plan_field 31 _ 4 (w.heap.size + 1) 0 ⟨w.heap.size + 1, 4, none⟩ (by rfl) (by rfl) (by rfl) (by first | (with_reducible exact Mem.ev_const _ _) | (with_reducible exact Mem.ev_zero _ _ _) | (with_reducible (apply Eq.trans (Mem.ev_tmp _ _ _)); simp only [List.getD_cons_succ, List.getD_cons_zero] <;> rfl)) (fun wx => by go_simp) ?_
  (simp only [Act.put, List.setIfInBounds_toArray, List.set_cons_zero, List.set_cons_succ])
  refine plan_cut 23 _ 32 5 (w.heap.size + 1) 4 (by rfl) (by rfl) (by rfl) (by first | (with_reducible exact Mem.ev_const _ _) | (with_reducible exact Mem.ev_zero _ _ _) | (with_reducible (apply Eq.trans (Mem.ev_tmp _ _ _)); simp only [List.getD_cons_succ, List.getD_cons_zero] <;> rfl)) Try.underlying23 infoB ?_
  (simp only [Act.put, List.setIfInBounds_toArray, List.set_cons_zero, List.set_cons_succ])
  (first | (refine plan_move _ _ (by rfl) (by rfl) (.inl (by rfl)) (by first | (with_reducible exact Mem.ev_const _ _) | (with_reducible exact Mem.ev_zero _ _ _) | (with_reducible (apply Eq.trans (Mem.ev_tmp _ _ _)); simp only [List.getD_cons_succ, List.getD_cons_zero] <;> rfl)) ?_) | (refine plan_move _ _ (by rfl) (by rfl) (.inr (by rfl)) (by first | (with_reducible exact Mem.ev_const _ _) | (with_reducible exact Mem.ev_zero _ _ _) | (with_reducible (apply Eq.trans (Mem.ev_tmp _ _ _)); simp only [List.getD_cons_succ, List.getD_cons_zero] <;> rfl)) ?_) | (refine plan_pick_t _ _ _ _ (by rfl) (by rfl) (by rfl) (by first | (with_reducible exact Mem.ev_const _ _) | (with_reducible exact Mem.ev_zero _ _ _) | (with_reducible (apply Eq.trans (Mem.ev_tmp _ _ _)); simp only [List.getD_cons_succ, List.getD_cons_zero] <;> rfl)) (by first | (with_reducible exact Mem.ev_const _ _) | (with_reducible exact Mem.ev_zero _ _ _) | (with_reducible (apply Eq.trans (Mem.ev_tmp _ _ _)); simp only [List.getD_cons_succ, List.getD_cons_zero] <;> rfl)) ?_) | (refine plan_pick_f _ _ _ _ (by rfl) (by rfl) (by rfl) (by first | (with_reducible exact Mem.ev_const _ _) | (with_reducible exact Mem.ev_zero _ _ _) | (with_reducible (apply Eq.trans (Mem.ev_tmp _ _ _)); simp only [List.getD_cons_succ, List.getD_cons_zero] <;> rfl)) (by first | (with_reducible exact Mem.ev_const _ _) | (with_reducible exact Mem.ev_zero _ _ _) | (with_reducible (apply Eq.trans (Mem.ev_tmp _ _ _)); simp only [List.getD_cons_succ, List.getD_cons_zero] <;> rfl)) ?_))
  (simp only [Act.put, List.setIfInBounds_toArray, List.set_cons_zero, List.set_cons_succ])
  refine plan_callv 31 _ #[rp br] _ _ #[.int .i64 32] (by kernel_rfl) (by rfl) (by rfl) (by rfl) (by first | (with_reducible exact Mem.ev_const _ _) | (with_reducible exact Mem.ev_zero _ _ _) | (with_reducible (apply Eq.trans (Mem.ev_tmp _ _ _)); simp only [List.getD_cons_succ, List.getD_cons_zero] <;> rfl)) (by simp [Act.eval]) ?_
  refine (NU5.out _ (I4.out.drew BR.out).r).mono ?_
  rintro e wa5 ⟨vx, rfl, hsx, hp⟩
  have J5 := Lib.hid ((I4.out.drew BR.out).call hp BR.out); have SX := Lib.hid hsx
  clear hp hsx
  refine ⟨_, rfl, trivial, ?_⟩
  (simp only [Act.put, List.setIfInBounds_toArray, List.set_cons_zero, List.set_cons_succ])
  refine plan_copy_row _ _ (by rfl) (by rfl) (by rfl) (w.heap.size + 1) 4 C4 31 _ x5 (by first | (with_reducible exact Mem.ev_const _ _) | (with_reducible exact Mem.ev_zero _ _ _) | (with_reducible (apply Eq.trans (Mem.ev_tmp _ _ _)); simp only [List.getD_cons_succ, List.getD_cons_zero] <;> rfl)) (by first | (with_reducible exact Mem.ev_const _ _) | (with_reducible exact Mem.ev_zero _ _ _) | (with_reducible (apply Eq.trans (Mem.ev_tmp _ _ _)); simp only [List.getD_cons_succ, List.getD_cons_zero] <;> rfl)) SX.out X5.out J5.out.ag (by rw [S4.out]; decide) C5 Q5.out ?_
  intro nv wb5 ha ho hk
  have I5 := Lib.hid (J5.out.store ha ho hk BR.out)
  clear ha ho hk SX
  refine ⟨trivial, ?_⟩
  (simp only [Act.put, List.setIfInBounds_toArray, List.set_cons_zero, List.set_cons_succ])
  refine plan_nil ?_
  go_wp2_with fail
  refine (NU6.out _ I5.out.r).mono ?_
  rintro e wa6 ⟨rfl, hp⟩
  have J6 := Lib.hid (I5.out.call hp BR.out)
  clear hp
  go_wp2_with (first
    | (refine wpList_conv (by rfl) _ _ _ _ (.int .i64 (n6 : Int)) (by rfl) (by rfl) (fun wx => conv_ui n6 (by omega) wx) ?_)
    | (refine Mem.wpList_store_one (by rfl) 3 _ _ (by rfl) (by rfl) (w.heap.size + 1) 36 (.int .i64 (n6 : Int)) (by rfl) (by rfl) (by rfl) (by kernel_rfl) C5 31 J6.out.ag (by rw [S5.out]; decide) ?_; intro wb6 ha ho hk; rw [Q6.out] at ha; have I6 := Lib.hid (J6.out.store ha ho hk BR.out); clear ha ho hk; have cc : wb6.cell? ⟨w.heap.size + 1, 2, none⟩ = some (.int .u32 (n3 : Int)) := (I6.out.ag.cell 2).trans D7.out)
    | (refine wpList_conv (by rfl) _ _ _ _ (.int .u64 (n3 : Int)) (by rfl) (by rfl) (fun wx => conv_uu n3 (by omega) wx) ?_))
  refine (NU7.out _ I6.out.r).mono ?_
  rintro e wa7 ⟨rfl, hp⟩
  have J7 := Lib.hid (I6.out.call hp BR.out)
  clear hp cc
  go_wp2_with (first
    | (refine wpList_conv (by rfl) _ _ _ _ (.int .u32 (n7 : Int)) (by rfl) (by rfl) (fun wx => conv_u32 n7 (by omega) wx) ?_)
    | (refine Mem.wpList_store_one (by rfl) 22 _ _ (by rfl) (by rfl) (w.heap.size + 1) 37 (.int .u32 (n7 : Int)) (by rfl) (by rfl) (by rfl) (by kernel_rfl) C6 31 J7.out.ag (by rw [S6.out]; decide) ?_; intro wb7 ha ho hk; rw [Q7.out] at ha; have I7 := Lib.hid (J7.out.store ha ho hk BR.out); clear ha ho hk))
  refine wp_region_plan_in (fun _ => True) (.take 0 (.take 1 (.take 2 (.sole 3 (.sole 4 .done))))) (by kernel_rfl) (by kernel_rfl) (by kernel_rfl) trivial ?_
  refine plan_field 31 _ 7 (w.heap.size + 1) 0 ⟨w.heap.size + 1, 38, none⟩ (by rfl) (by rfl) (by rfl) (by first | (with_reducible exact Mem.ev_const _ _) | (with_reducible exact Mem.ev_zero _ _ _) | (with_reducible (apply Eq.trans (Mem.ev_tmp _ _ _)); simp only [List.getD_cons_succ, List.getD_cons_zero] <;> rfl)) (fun wx => by go_simp) ?_
  (simp only [Act.put, List.setIfInBounds_toArray, List.set_cons_zero, List.set_cons_succ])
  refine plan_cut 23 _ 32 5 (w.heap.size + 1) 38 (by rfl) (by rfl) (by rfl) (by first | (with_reducible exact Mem.ev_const _ _) | (with_reducible exact Mem.ev_zero _ _ _) | (with_reducible (apply Eq.trans (Mem.ev_tmp _ _ _)); simp only [List.getD_cons_succ, List.getD_cons_zero] <;> rfl)) Try.underlying23 infoB ?_
  (simp only [Act.put, List.setIfInBounds_toArray, List.set_cons_zero, List.set_cons_succ])
  (first | (refine plan_move _ _ (by rfl) (by rfl) (.inl (by rfl)) (by first | (with_reducible exact Mem.ev_const _ _) | (with_reducible exact Mem.ev_zero _ _ _) | (with_reducible (apply Eq.trans (Mem.ev_tmp _ _ _)); simp only [List.getD_cons_succ, List.getD_cons_zero] <;> rfl)) ?_) | (refine plan_move _ _ (by rfl) (by rfl) (.inr (by rfl)) (by first | (with_reducible exact Mem.ev_const _ _) | (with_reducible exact Mem.ev_zero _ _ _) | (with_reducible (apply Eq.trans (Mem.ev_tmp _ _ _)); simp only [List.getD_cons_succ, List.getD_cons_zero] <;> rfl)) ?_) | (refine plan_pick_t _ _ _ _ (by rfl) (by rfl) (by rfl) (by first | (with_reducible exact Mem.ev_const _ _) | (with_reducible exact Mem.ev_zero _ _ _) | (with_reducible (apply Eq.trans (Mem.ev_tmp _ _ _)); simp only [List.getD_cons_succ, List.getD_cons_zero] <;> rfl)) (by first | (with_reducible exact Mem.ev_const _ _) | (with_reducible exact Mem.ev_zero _ _ _) | (with_reducible (apply Eq.trans (Mem.ev_tmp _ _ _)); simp only [List.getD_cons_succ, List.getD_cons_zero] <;> rfl)) ?_) | (refine plan_pick_f _ _ _ _ (by rfl) (by rfl) (by rfl) (by first | (with_reducible exact Mem.ev_const _ _) | (with_reducible exact Mem.ev_zero _ _ _) | (with_reducible (apply Eq.trans (Mem.ev_tmp _ _ _)); simp only [List.getD_cons_succ, List.getD_cons_zero] <;> rfl)) (by first | (with_reducible exact Mem.ev_const _ _) | (with_reducible exact Mem.ev_zero _ _ _) | (with_reducible (apply Eq.trans (Mem.ev_tmp _ _ _)); simp only [List.getD_cons_succ, List.getD_cons_zero] <;> rfl)) ?_))
  (simp only [Act.put, List.setIfInBounds_toArray, List.set_cons_zero, List.set_cons_succ])
  refine plan_callv 31 _ #[rp br] _ _ #[.int .i64 32] (by kernel_rfl) (by rfl) (by rfl) (by rfl) (by first | (with_reducible exact Mem.ev_const _ _) | (with_reducible exact Mem.ev_zero _ _ _) | (with_reducible (apply Eq.trans (Mem.ev_tmp _ _ _)); simp only [List.getD_cons_succ, List.getD_cons_zero] <;> rfl)) (by simp [Act.eval]) ?_
  refine (NU8.out _ (I7.out.drew BR.out).r).mono ?_
  rintro e wa8 ⟨vx, rfl, hsx, hp⟩
  have J8 := Lib.hid ((I7.out.drew BR.out).call hp BR.out); have SX := Lib.hid hsx
  clear hp hsx
  refine ⟨_, rfl, trivial, ?_⟩
  (simp only [Act.put, List.setIfInBounds_toArray, List.set_cons_zero, List.set_cons_succ])
  refine plan_copy_row _ _ (by rfl) (by rfl) (by rfl) (w.heap.size + 1) 38 C7 31 _ x8 (by first | (with_reducible exact Mem.ev_const _ _) | (with_reducible exact Mem.ev_zero _ _ _) | (with_reducible (apply Eq.trans (Mem.ev_tmp _ _ _)); simp only [List.getD_cons_succ, List.getD_cons_zero] <;> rfl)) (by first | (with_reducible exact Mem.ev_const _ _) | (with_reducible exact Mem.ev_zero _ _ _) | (with_reducible (apply Eq.trans (Mem.ev_tmp _ _ _)); simp only [List.getD_cons_succ, List.getD_cons_zero] <;> rfl)) SX.out X8.out J8.out.ag (by rw [S7.out]; decide) C8 Q8.out ?_
  intro nv wb8 ha ho hk
  have I8 := Lib.hid (J8.out.store ha ho hk BR.out)
  clear ha ho hk SX
  refine ⟨trivial, ?_⟩
  (simp only [Act.put, List.setIfInBounds_toArray, List.set_cons_zero, List.set_cons_succ])
  refine plan_nil ?_
  go_wp2_with fail
  refine (NU9.out _ I8.out.r).mono ?_
  rintro e wa9 ⟨rfl, hp⟩
  have J9 := Lib.hid (I8.out.call hp BR.out)
  clear hp
  go_wp2_with (first
    | (refine Mem.wpList_store_one (by rfl) 24 _ _ (by rfl) (by rfl) (w.heap.size + 1) 70 (.int .u64 (n9 : Int)) (by rfl) (by rfl) (by rfl) (by kernel_rfl) C8 31 J9.out.ag (by rw [S8.out]; decide) ?_; intro wb9 ha ho hk; rw [Q9.out] at ha; have I9 := Lib.hid (J9.out.store ha ho hk BR.out); clear ha ho hk)
    | (refine wpList_load_all (by rfl) 31 _ (by rfl) (w.heap.size + 1) (by rfl) _ Try.underlying31 (by rfl) C9 _ I9.out.ag (by rw [S9.out]; exact infoAncP) ?_)
    | (refine wpList_store_all (by rfl) 31 _ _ (by rfl) (by rfl) w.heap.size C9 (by rfl) (by rfl) (by rw [S9.out]; exact infoAncP) Z 31 I9.out.ar (by rw [S9.out, ZS.out]) O9.out ?_))
  refine ret_row (by rfl) w.heap.size 31 C9 _ (by rfl) (I9.out.ar.row C9) Try.underlying31 (by rfl) (by rw [S9.out]; exact infoAncP) ?_
  exact ⟨rfl, I9.out.done BR.out⟩
end Sha
end Go.Proofs.Ytknaimpnkflfnaa
