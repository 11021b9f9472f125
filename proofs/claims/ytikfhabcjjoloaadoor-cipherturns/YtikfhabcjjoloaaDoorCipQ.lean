/- The document's quarter round and its way back: their walks. -/
import Derived.Test.YtikfhabcjjoloaaDoorCipRef
namespace Go.Proofs.YtikfhabcjjoloaaDoor
namespace Sha
open Go.RowKit Mem
def qOf (q : Q4) : Array Value := (u32s q.list).toArray
theorem qOf_size (q : Q4) : (qOf q).size = 4 := rfl
theorem qOf_one (q : Q4) : (qOf q).all (·.oneCell') = true := u32s_one _
theorem build_q (a b c d : BitVec 32) (w : World) : (Instr.build 26 #[(0, .int .u32 (V a)), (1, .int .u32 (V b)), (2, .int .u32 (V c)), (3, .int .u32 (V d))]).run Tryd.prog w = .ok (.agg #[.int .u32 (V a), .int .u32 (V b), .int .u32 (V c), .int .u32 (V d)]) w := by kernel_rfl
def Z4 : Array Value := (u32s [0, 0, 0, 0]).toArray
theorem zero4 (w : World) : (zeroValue 26).run Tryd.prog w = .ok (.agg Z4) w := by kernel_rfl
theorem infoQ : (Tryd.prog.info? 26).map (·.size) = some 4 := by kernel_rfl
theorem infoU32 : (Tryd.prog.info? 24).map (·.size) = some 1 := by kernel_rfl
theorem v_sub (a b : BitVec 32) : IntKind.u32.wrap (V a - V b) = V (a - b) := by
  have h0 := V_lo a; have h1 := V_hi a; have h2 := V_lo b; have h3 := V_hi b
  have e : IntKind.u32.wrap (V a - V b) = (V a - V b) % 4294967296 := by simp [IntKind.wrap, IntKind.bits, IntKind.signed]
  rw [e]
  unfold V at *
  rw [BitVec.toNat_sub]
  omega
theorem v_subm (a b : BitVec 32) : (V a - V b) % (4294967296 : Int) = V (a - b) := by
  rw [← v_sub]; simp [IntKind.wrap, IntKind.bits, IntKind.signed]
set_option maxRecDepth 100000 in
set_option maxHeartbeats 1000000 in
theorem rquarter_any (q : Q4) (w : World) : Calls Tryd.prog 10 #[.agg (qOf q)] w fun e w' => e = .returned (.agg (qOf (qr q))) ∧ Below w.heap.size w w' := by
  obtain ⟨X, hX⟩ : ∃ X, X = Z4 := ⟨_, rfl⟩
  have hx := zero4
  rw [← hX] at hx
  have hXs : X.size = 4 := by rw [hX]; rfl
  obtain ⟨C, hC⟩ : ∃ C, C = qOf q := ⟨_, rfl⟩
  have c0 : C[0]? = some (.int .u32 (V q.a)) := by rw [hC]; rfl
  have c1 : C[1]? = some (.int .u32 (V q.b)) := by rw [hC]; rfl
  have c2 : C[2]? = some (.int .u32 (V q.c)) := by rw [hC]; rfl
  have c3 : C[3]? = some (.int .u32 (V q.d)) := by rw [hC]; rfl
  rw [← hC]
  have a1 : At ((w.alloc (.cells C 26)).alloc (.cells X 26)) w.heap.size C 26 := (at_new w C _).alloc _
  have r1 : At ((w.alloc (.cells C 26)).alloc (.cells X 26)) (w.heap.size + 1) X 26 := by
    have h := at_new (w.alloc (.cells C 26)) X 26
    simpa using h
  have b1 : Below w.heap.size w ((w.alloc (.cells C 26)).alloc (.cells X 26)) := ((Below.refl _ _).alloc (Nat.le_refl _) _).alloc (by simp) _
  have XS := Lib.hid hXs; have C0 := Lib.hid c0; have C1 := Lib.hid c1; have C2 := Lib.hid c2; have C3 := Lib.hid c3; have A1 := Lib.hid a1; have R1 := Lib.hid r1; have B1 := Lib.hid b1
  clear hXs c0 c1 c2 c3 a1 r1 b1 hX hC
  go_enter Tryd.func10, Tryd.ntmps10
  go_wp2_with fail
  generalize (w.alloc (.cells C 26)).alloc (.cells X 26) = w1 at *
  refine wp_region_plan_in (fun w' => Below w1.heap.size w1 w') (.take 0 (.take 1 (.take 2 (.take 3 (.take 4 (.take 5 (.take 6 (.take 7 (.take 8 (.take 9 (.take 10 (.take 11 .done)))))))))))) (by kernel_rfl) (by kernel_rfl) (by kernel_rfl) (Below.refl _ _).drew ?_
  refine plan_index_arr 26 24 4 _ _ w.heap.size 0 1 0 (by rfl) (by rfl) (by rfl) (by first | (with_reducible exact Mem.ev_const _ _) | (with_reducible exact Mem.ev_zero _ _ _) | (with_reducible (apply Eq.trans (Mem.ev_tmp _ _ _)); simp only [List.getD_cons_succ, List.getD_cons_zero] <;> rfl)) (by rfl) (by omega) Tryd.underlying26 (by kernel_rfl) (by decide) ?_
  (simp only [Act.put, List.setIfInBounds_toArray, List.set_cons_zero, List.set_cons_succ])
  refine plan_cell 24 _ _ _ _ (by rfl) (by rfl) (by rfl) (by first | (with_reducible exact Mem.ev_const _ _) | (with_reducible exact Mem.ev_zero _ _ _) | (with_reducible (apply Eq.trans (Mem.ev_tmp _ _ _)); simp only [List.getD_cons_succ, List.getD_cons_zero] <;> rfl)) (fun w' hw' => ((A1.out.below hw' A1.out.lt).cell _).trans C0.out) Tryd.underlying24 (by rfl) ?_
  (simp only [Act.put, List.setIfInBounds_toArray, List.set_cons_zero, List.set_cons_succ])
  refine plan_index_arr 26 24 4 _ _ w.heap.size 0 1 1 (by rfl) (by rfl) (by rfl) (by first | (with_reducible exact Mem.ev_const _ _) | (with_reducible exact Mem.ev_zero _ _ _) | (with_reducible (apply Eq.trans (Mem.ev_tmp _ _ _)); simp only [List.getD_cons_succ, List.getD_cons_zero] <;> rfl)) (by rfl) (by omega) Tryd.underlying26 (by kernel_rfl) (by decide) ?_
  (simp only [Act.put, List.setIfInBounds_toArray, List.set_cons_zero, List.set_cons_succ])
  refine plan_cell 24 _ _ _ _ (by rfl) (by rfl) (by rfl) (by first | (with_reducible exact Mem.ev_const _ _) | (with_reducible exact Mem.ev_zero _ _ _) | (with_reducible (apply Eq.trans (Mem.ev_tmp _ _ _)); simp only [List.getD_cons_succ, List.getD_cons_zero] <;> rfl)) (fun w' hw' => ((A1.out.below hw' A1.out.lt).cell _).trans C1.out) Tryd.underlying24 (by rfl) ?_
  (simp only [Act.put, List.setIfInBounds_toArray, List.set_cons_zero, List.set_cons_succ])
  refine plan_index_arr 26 24 4 _ _ w.heap.size 0 1 2 (by rfl) (by rfl) (by rfl) (by first | (with_reducible exact Mem.ev_const _ _) | (with_reducible exact Mem.ev_zero _ _ _) | (with_reducible (apply Eq.trans (Mem.ev_tmp _ _ _)); simp only [List.getD_cons_succ, List.getD_cons_zero] <;> rfl)) (by rfl) (by omega) Tryd.underlying26 (by kernel_rfl) (by decide) ?_
  (simp only [Act.put, List.setIfInBounds_toArray, List.set_cons_zero, List.set_cons_succ])
  refine plan_cell 24 _ _ _ _ (by rfl) (by rfl) (by rfl) (by first | (with_reducible exact Mem.ev_const _ _) | (with_reducible exact Mem.ev_zero _ _ _) | (with_reducible (apply Eq.trans (Mem.ev_tmp _ _ _)); simp only [List.getD_cons_succ, List.getD_cons_zero] <;> rfl)) (fun w' hw' => ((A1.out.below hw' A1.out.lt).cell _).trans C2.out) Tryd.underlying24 (by rfl) ?_
  (simp only [Act.put, List.setIfInBounds_toArray, List.set_cons_zero, List.set_cons_succ])
  refine plan_index_arr 26 24 4 _ _ w.heap.size 0 1 3 (by rfl) (by rfl) (by rfl) (by first | (with_reducible exact Mem.ev_const _ _) | (with_reducible exact Mem.ev_zero _ _ _) | (with_reducible (apply Eq.trans (Mem.ev_tmp _ _ _)); simp only [List.getD_cons_succ, List.getD_cons_zero] <;> rfl)) (by rfl) (by omega) Tryd.underlying26 (by kernel_rfl) (by decide) ?_
  (simp only [Act.put, List.setIfInBounds_toArray, List.set_cons_zero, List.set_cons_succ])
  refine plan_cell 24 _ _ _ _ (by rfl) (by rfl) (by rfl) (by first | (with_reducible exact Mem.ev_const _ _) | (with_reducible exact Mem.ev_zero _ _ _) | (with_reducible (apply Eq.trans (Mem.ev_tmp _ _ _)); simp only [List.getD_cons_succ, List.getD_cons_zero] <;> rfl)) (fun w' hw' => ((A1.out.below hw' A1.out.lt).cell _).trans C3.out) Tryd.underlying24 (by rfl) ?_
  (simp only [Act.put, List.setIfInBounds_toArray, List.set_cons_zero, List.set_cons_succ])
  (first | (refine plan_move _ _ (by rfl) (by rfl) (.inl (by rfl)) (by first | (with_reducible exact Mem.ev_const _ _) | (with_reducible exact Mem.ev_zero _ _ _) | (with_reducible (apply Eq.trans (Mem.ev_tmp _ _ _)); simp only [List.getD_cons_succ, List.getD_cons_zero] <;> rfl)) ?_) | (refine plan_move _ _ (by rfl) (by rfl) (.inr (by rfl)) (by first | (with_reducible exact Mem.ev_const _ _) | (with_reducible exact Mem.ev_zero _ _ _) | (with_reducible (apply Eq.trans (Mem.ev_tmp _ _ _)); simp only [List.getD_cons_succ, List.getD_cons_zero] <;> rfl)) ?_) | (refine plan_pick_t _ _ _ _ (by rfl) (by rfl) (by rfl) (by first | (with_reducible exact Mem.ev_const _ _) | (with_reducible exact Mem.ev_zero _ _ _) | (with_reducible (apply Eq.trans (Mem.ev_tmp _ _ _)); simp only [List.getD_cons_succ, List.getD_cons_zero] <;> rfl)) (by first | (with_reducible exact Mem.ev_const _ _) | (with_reducible exact Mem.ev_zero _ _ _) | (with_reducible (apply Eq.trans (Mem.ev_tmp _ _ _)); simp only [List.getD_cons_succ, List.getD_cons_zero] <;> rfl)) ?_) | (refine plan_pick_f _ _ _ _ (by rfl) (by rfl) (by rfl) (by first | (with_reducible exact Mem.ev_const _ _) | (with_reducible exact Mem.ev_zero _ _ _) | (with_reducible (apply Eq.trans (Mem.ev_tmp _ _ _)); simp only [List.getD_cons_succ, List.getD_cons_zero] <;> rfl)) (by first | (with_reducible exact Mem.ev_const _ _) | (with_reducible exact Mem.ev_zero _ _ _) | (with_reducible (apply Eq.trans (Mem.ev_tmp _ _ _)); simp only [List.getD_cons_succ, List.getD_cons_zero] <;> rfl)) ?_))
  (simp only [Act.put, List.setIfInBounds_toArray, List.set_cons_zero, List.set_cons_succ])
  (first | (refine plan_move _ _ (by rfl) (by rfl) (.inl (by rfl)) (by first | (with_reducible exact Mem.ev_const _ _) | (with_reducible exact Mem.ev_zero _ _ _) | (with_reducible (apply Eq.trans (Mem.ev_tmp _ _ _)); simp only [List.getD_cons_succ, List.getD_cons_zero] <;> rfl)) ?_) | (refine plan_move _ _ (by rfl) (by rfl) (.inr (by rfl)) (by first | (with_reducible exact Mem.ev_const _ _) | (with_reducible exact Mem.ev_zero _ _ _) | (with_reducible (apply Eq.trans (Mem.ev_tmp _ _ _)); simp only [List.getD_cons_succ, List.getD_cons_zero] <;> rfl)) ?_) | (refine plan_pick_t _ _ _ _ (by rfl) (by rfl) (by rfl) (by first | (with_reducible exact Mem.ev_const _ _) | (with_reducible exact Mem.ev_zero _ _ _) | (with_reducible (apply Eq.trans (Mem.ev_tmp _ _ _)); simp only [List.getD_cons_succ, List.getD_cons_zero] <;> rfl)) (by first | (with_reducible exact Mem.ev_const _ _) | (with_reducible exact Mem.ev_zero _ _ _) | (with_reducible (apply Eq.trans (Mem.ev_tmp _ _ _)); simp only [List.getD_cons_succ, List.getD_cons_zero] <;> rfl)) ?_) | (refine plan_pick_f _ _ _ _ (by rfl) (by rfl) (by rfl) (by first | (with_reducible exact Mem.ev_const _ _) | (with_reducible exact Mem.ev_zero _ _ _) | (with_reducible (apply Eq.trans (Mem.ev_tmp _ _ _)); simp only [List.getD_cons_succ, List.getD_cons_zero] <;> rfl)) (by first | (with_reducible exact Mem.ev_const _ _) | (with_reducible exact Mem.ev_zero _ _ _) | (with_reducible (apply Eq.trans (Mem.ev_tmp _ _ _)); simp only [List.getD_cons_succ, List.getD_cons_zero] <;> rfl)) ?_))
  (simp only [Act.put, List.setIfInBounds_toArray, List.set_cons_zero, List.set_cons_succ])
  (first | (refine plan_move _ _ (by rfl) (by rfl) (.inl (by rfl)) (by first | (with_reducible exact Mem.ev_const _ _) | (with_reducible exact Mem.ev_zero _ _ _) | (with_reducible (apply Eq.trans (Mem.ev_tmp _ _ _)); simp only [List.getD_cons_succ, List.getD_cons_zero] <;> rfl)) ?_) | (refine plan_move _ _ (by rfl) (by rfl) (.inr (by rfl)) (by first | (with_reducible exact Mem.ev_const _ _) | (with_reducible exact Mem.ev_zero _ _ _) | (with_reducible (apply Eq.trans (Mem.ev_tmp _ _ _)); simp only [List.getD_cons_succ, List.getD_cons_zero] <;> rfl)) ?_) | (refine plan_pick_t _ _ _ _ (by rfl) (by rfl) (by rfl) (by first | (with_reducible exact Mem.ev_const _ _) | (with_reducible exact Mem.ev_zero _ _ _) | (with_reducible (apply Eq.trans (Mem.ev_tmp _ _ _)); simp only [List.getD_cons_succ, List.getD_cons_zero] <;> rfl)) (by first | (with_reducible exact Mem.ev_const _ _) | (with_reducible exact Mem.ev_zero _ _ _) | (with_reducible (apply Eq.trans (Mem.ev_tmp _ _ _)); simp only [List.getD_cons_succ, List.getD_cons_zero] <;> rfl)) ?_) | (refine plan_pick_f _ _ _ _ (by rfl) (by rfl) (by rfl) (by first | (with_reducible exact Mem.ev_const _ _) | (with_reducible exact Mem.ev_zero _ _ _) | (with_reducible (apply Eq.trans (Mem.ev_tmp _ _ _)); simp only [List.getD_cons_succ, List.getD_cons_zero] <;> rfl)) (by first | (with_reducible exact Mem.ev_const _ _) | (with_reducible exact Mem.ev_zero _ _ _) | (with_reducible (apply Eq.trans (Mem.ev_tmp _ _ _)); simp only [List.getD_cons_succ, List.getD_cons_zero] <;> rfl)) ?_))
  (simp only [Act.put, List.setIfInBounds_toArray, List.set_cons_zero, List.set_cons_succ])
  (first | (refine plan_move _ _ (by rfl) (by rfl) (.inl (by rfl)) (by first | (with_reducible exact Mem.ev_const _ _) | (with_reducible exact Mem.ev_zero _ _ _) | (with_reducible (apply Eq.trans (Mem.ev_tmp _ _ _)); simp only [List.getD_cons_succ, List.getD_cons_zero] <;> rfl)) ?_) | (refine plan_move _ _ (by rfl) (by rfl) (.inr (by rfl)) (by first | (with_reducible exact Mem.ev_const _ _) | (with_reducible exact Mem.ev_zero _ _ _) | (with_reducible (apply Eq.trans (Mem.ev_tmp _ _ _)); simp only [List.getD_cons_succ, List.getD_cons_zero] <;> rfl)) ?_) | (refine plan_pick_t _ _ _ _ (by rfl) (by rfl) (by rfl) (by first | (with_reducible exact Mem.ev_const _ _) | (with_reducible exact Mem.ev_zero _ _ _) | (with_reducible (apply Eq.trans (Mem.ev_tmp _ _ _)); simp only [List.getD_cons_succ, List.getD_cons_zero] <;> rfl)) (by first | (with_reducible exact Mem.ev_const _ _) | (with_reducible exact Mem.ev_zero _ _ _) | (with_reducible (apply Eq.trans (Mem.ev_tmp _ _ _)); simp only [List.getD_cons_succ, List.getD_cons_zero] <;> rfl)) ?_) | (refine plan_pick_f _ _ _ _ (by rfl) (by rfl) (by rfl) (by first | (with_reducible exact Mem.ev_const _ _) | (with_reducible exact Mem.ev_zero _ _ _) | (with_reducible (apply Eq.trans (Mem.ev_tmp _ _ _)); simp only [List.getD_cons_succ, List.getD_cons_zero] <;> rfl)) (by first | (with_reducible exact Mem.ev_const _ _) | (with_reducible exact Mem.ev_zero _ _ _) | (with_reducible (apply Eq.trans (Mem.ev_tmp _ _ _)); simp only [List.getD_cons_succ, List.getD_cons_zero] <;> rfl)) ?_))
  (simp only [Act.put, List.setIfInBounds_toArray, List.set_cons_zero, List.set_cons_succ])
  refine plan_nil ?_
  have R2 : Hid (At w1.drew (w.heap.size + 1) X 26) := R1.out
  have B2 : Hid (Below w.heap.size w w1.drew) := B1.out.drew
  clear R1 B1 A1 hx
  generalize w1.drew = W at *
  go_wp2_with fail
  obtain ⟨a1, ha1⟩ : ∃ x : BitVec 32, x = q.a + q.b := ⟨_, rfl⟩
  rw [r_add q.a q.b, ← ha1]
  have Ha1 := Lib.hid ha1
  clear ha1
  rw [r_xor]
  refine (left_any (q.d ^^^ a1) 16 _ (by decide)).mono ?_
  rintro e w' ⟨rfl, rfl⟩
  obtain ⟨d1, hd1⟩ : ∃ x : BitVec 32, x = (q.d ^^^ a1).rotateLeft 16 := ⟨_, rfl⟩
  rw [← hd1]
  have Hd1 := Lib.hid hd1
  clear hd1
  go_wp2_with fail
  obtain ⟨k1, hk1⟩ : ∃ x : BitVec 32, x = q.c + d1 := ⟨_, rfl⟩
  rw [r_add q.c d1, ← hk1]
  have Hk1 := Lib.hid hk1
  clear hk1
  rw [r_xor]
  refine (left_any (q.b ^^^ k1) 12 _ (by decide)).mono ?_
  rintro e w' ⟨rfl, rfl⟩
  obtain ⟨b1, hb1⟩ : ∃ x : BitVec 32, x = (q.b ^^^ k1).rotateLeft 12 := ⟨_, rfl⟩
  rw [← hb1]
  have Hb1 := Lib.hid hb1
  clear hb1
  go_wp2_with fail
  obtain ⟨a2, ha2⟩ : ∃ x : BitVec 32, x = a1 + b1 := ⟨_, rfl⟩
  rw [r_add a1 b1, ← ha2]
  have Ha2 := Lib.hid ha2
  clear ha2
  rw [r_xor]
  refine (left_any (d1 ^^^ a2) 8 _ (by decide)).mono ?_
  rintro e w' ⟨rfl, rfl⟩
  obtain ⟨d2, hd2⟩ : ∃ x : BitVec 32, x = (d1 ^^^ a2).rotateLeft 8 := ⟨_, rfl⟩
  rw [← hd2]
  have Hd2 := Lib.hid hd2
  clear hd2
  go_wp2_with fail
  obtain ⟨k2, hk2⟩ : ∃ x : BitVec 32, x = k1 + d2 := ⟨_, rfl⟩
  rw [r_add k1 d2, ← hk2]
  have Hk2 := Lib.hid hk2
  clear hk2
  rw [r_xor]
  refine (left_any (b1 ^^^ k2) 7 _ (by decide)).mono ?_
  rintro e w' ⟨rfl, rfl⟩
  obtain ⟨b2, hb2⟩ : ∃ x : BitVec 32, x = (b1 ^^^ k2).rotateLeft 7 := ⟨_, rfl⟩
  rw [← hb2]
  have Hb2 := Lib.hid hb2
  clear hb2
  have hres : qOf (qr q) = (#[.int .u32 (V a2), .int .u32 (V b2), .int .u32 (V k2), .int .u32 (V d2)] : Array Value) := by rw [Hb2.out, Hk2.out, Hd2.out, Ha2.out, Hb1.out, Hk1.out, Hd1.out, Ha1.out]; rfl
  have HRES := Lib.hid hres
  clear hres
  go_wp2_with (first | (refine wpList_store_all (by rfl) 26 _ _ (by rfl) (by rfl) (w.heap.size + 1) (#[.int .u32 (V a2), .int .u32 (V b2), .int .u32 (V k2), .int .u32 (V d2)] : Array Value) (by rfl) (by rfl) (by exact infoQ) _ _ R2.out (by exact XS.out.symm) (u32s_one [a2, b2, k2, d2]) ?_))
  try simp only [Exit.inBlock, Exit.then]
  refine ret_row (by rfl) (w.heap.size + 1) 26 (#[.int .u32 (V a2), .int .u32 (V b2), .int .u32 (V k2), .int .u32 (V d2)] : Array Value) _ (by rfl) (R2.out.row _) Tryd.underlying26 (by rfl) (by exact infoQ) ?_
  exact ⟨by rw [HRES.out], below_row B2.out (by omega) _⟩
set_option maxRecDepth 100000 in
set_option maxHeartbeats 1000000 in
theorem rback_any (q : Q4) (w : World) : Calls Tryd.prog 20 #[.agg (qOf q)] w fun e w' => e = .returned (.agg (qOf (qback q))) ∧ Below w.heap.size w w' := by
  obtain ⟨X, hX⟩ : ∃ X, X = Z4 := ⟨_, rfl⟩
  have hx := zero4
  rw [← hX] at hx
  have hXs : X.size = 4 := by rw [hX]; rfl
  obtain ⟨C, hC⟩ : ∃ C, C = qOf q := ⟨_, rfl⟩
  have c0 : C[0]? = some (.int .u32 (V q.a)) := by rw [hC]; rfl
  have c1 : C[1]? = some (.int .u32 (V q.b)) := by rw [hC]; rfl
  have c2 : C[2]? = some (.int .u32 (V q.c)) := by rw [hC]; rfl
  have c3 : C[3]? = some (.int .u32 (V q.d)) := by rw [hC]; rfl
  rw [← hC]
  have a1 : At ((w.alloc (.cells C 26)).alloc (.cells X 26)) w.heap.size C 26 := (at_new w C _).alloc _
  have r1 : At ((w.alloc (.cells C 26)).alloc (.cells X 26)) (w.heap.size + 1) X 26 := by
    have h := at_new (w.alloc (.cells C 26)) X 26
    simpa using h
  have b1 : Below w.heap.size w ((w.alloc (.cells C 26)).alloc (.cells X 26)) := ((Below.refl _ _).alloc (Nat.le_refl _) _).alloc (by simp) _
  have XS := Lib.hid hXs; have C0 := Lib.hid c0; have C1 := Lib.hid c1; have C2 := Lib.hid c2; have C3 := Lib.hid c3; have A1 := Lib.hid a1; have R1 := Lib.hid r1; have B1 := Lib.hid b1
  clear hXs c0 c1 c2 c3 a1 r1 b1 hX hC
  go_enter Tryd.func20, Tryd.ntmps20
  go_wp2_with fail
  generalize (w.alloc (.cells C 26)).alloc (.cells X 26) = w1 at *
  refine wp_region_plan_in (fun w' => Below w1.heap.size w1 w') (.take 0 (.take 1 (.take 2 (.take 3 (.take 4 (.take 5 (.take 6 (.take 7 (.take 8 (.take 9 (.take 10 (.take 11 .done)))))))))))) (by kernel_rfl) (by kernel_rfl) (by kernel_rfl) (Below.refl _ _).drew ?_
  refine plan_index_arr 26 24 4 _ _ w.heap.size 0 1 0 (by rfl) (by rfl) (by rfl) (by first | (with_reducible exact Mem.ev_const _ _) | (with_reducible exact Mem.ev_zero _ _ _) | (with_reducible (apply Eq.trans (Mem.ev_tmp _ _ _)); simp only [List.getD_cons_succ, List.getD_cons_zero] <;> rfl)) (by rfl) (by omega) Tryd.underlying26 (by kernel_rfl) (by decide) ?_
  (simp only [Act.put, List.setIfInBounds_toArray, List.set_cons_zero, List.set_cons_succ])
  refine plan_cell 24 _ _ _ _ (by rfl) (by rfl) (by rfl) (by first | (with_reducible exact Mem.ev_const _ _) | (with_reducible exact Mem.ev_zero _ _ _) | (with_reducible (apply Eq.trans (Mem.ev_tmp _ _ _)); simp only [List.getD_cons_succ, List.getD_cons_zero] <;> rfl)) (fun w' hw' => ((A1.out.below hw' A1.out.lt).cell _).trans C0.out) Tryd.underlying24 (by rfl) ?_
  (simp only [Act.put, List.setIfInBounds_toArray, List.set_cons_zero, List.set_cons_succ])
  refine plan_index_arr 26 24 4 _ _ w.heap.size 0 1 1 (by rfl) (by rfl) (by rfl) (by first | (with_reducible exact Mem.ev_const _ _) | (with_reducible exact Mem.ev_zero _ _ _) | (with_reducible (apply Eq.trans (Mem.ev_tmp _ _ _)); simp only [List.getD_cons_succ, List.getD_cons_zero] <;> rfl)) (by rfl) (by omega) Tryd.underlying26 (by kernel_rfl) (by decide) ?_
  (simp only [Act.put, List.setIfInBounds_toArray, List.set_cons_zero, List.set_cons_succ])
  refine plan_cell 24 _ _ _ _ (by rfl) (by rfl) (by rfl) (by first | (with_reducible exact Mem.ev_const _ _) | (with_reducible exact Mem.ev_zero _ _ _) | (with_reducible (apply Eq.trans (Mem.ev_tmp _ _ _)); simp only [List.getD_cons_succ, List.getD_cons_zero] <;> rfl)) (fun w' hw' => ((A1.out.below hw' A1.out.lt).cell _).trans C1.out) Tryd.underlying24 (by rfl) ?_
  (simp only [Act.put, List.setIfInBounds_toArray, List.set_cons_zero, List.set_cons_succ])
  refine plan_index_arr 26 24 4 _ _ w.heap.size 0 1 2 (by rfl) (by rfl) (by rfl) (by first | (with_reducible exact Mem.ev_const _ _) | (with_reducible exact Mem.ev_zero _ _ _) | (with_reducible (apply Eq.trans (Mem.ev_tmp _ _ _)); simp only [List.getD_cons_succ, List.getD_cons_zero] <;> rfl)) (by rfl) (by omega) Tryd.underlying26 (by kernel_rfl) (by decide) ?_
  (simp only [Act.put, List.setIfInBounds_toArray, List.set_cons_zero, List.set_cons_succ])
  refine plan_cell 24 _ _ _ _ (by rfl) (by rfl) (by rfl) (by first | (with_reducible exact Mem.ev_const _ _) | (with_reducible exact Mem.ev_zero _ _ _) | (with_reducible (apply Eq.trans (Mem.ev_tmp _ _ _)); simp only [List.getD_cons_succ, List.getD_cons_zero] <;> rfl)) (fun w' hw' => ((A1.out.below hw' A1.out.lt).cell _).trans C2.out) Tryd.underlying24 (by rfl) ?_
  (simp only [Act.put, List.setIfInBounds_toArray, List.set_cons_zero, List.set_cons_succ])
  refine plan_index_arr 26 24 4 _ _ w.heap.size 0 1 3 (by rfl) (by rfl) (by rfl) (by first | (with_reducible exact Mem.ev_const _ _) | (with_reducible exact Mem.ev_zero _ _ _) | (with_reducible (apply Eq.trans (Mem.ev_tmp _ _ _)); simp only [List.getD_cons_succ, List.getD_cons_zero] <;> rfl)) (by rfl) (by omega) Tryd.underlying26 (by kernel_rfl) (by decide) ?_
  (simp only [Act.put, List.setIfInBounds_toArray, List.set_cons_zero, List.set_cons_succ])
  refine plan_cell 24 _ _ _ _ (by rfl) (by rfl) (by rfl) (by first | (with_reducible exact Mem.ev_const _ _) | (with_reducible exact Mem.ev_zero _ _ _) | (with_reducible (apply Eq.trans (Mem.ev_tmp _ _ _)); simp only [List.getD_cons_succ, List.getD_cons_zero] <;> rfl)) (fun w' hw' => ((A1.out.below hw' A1.out.lt).cell _).trans C3.out) Tryd.underlying24 (by rfl) ?_
  (simp only [Act.put, List.setIfInBounds_toArray, List.set_cons_zero, List.set_cons_succ])
  (first | (refine plan_move _ _ (by rfl) (by rfl) (.inl (by rfl)) (by first | (with_reducible exact Mem.ev_const _ _) | (with_reducible exact Mem.ev_zero _ _ _) | (with_reducible (apply Eq.trans (Mem.ev_tmp _ _ _)); simp only [List.getD_cons_succ, List.getD_cons_zero] <;> rfl)) ?_) | (refine plan_move _ _ (by rfl) (by rfl) (.inr (by rfl)) (by first | (with_reducible exact Mem.ev_const _ _) | (with_reducible exact Mem.ev_zero _ _ _) | (with_reducible (apply Eq.trans (Mem.ev_tmp _ _ _)); simp only [List.getD_cons_succ, List.getD_cons_zero] <;> rfl)) ?_) | (refine plan_pick_t _ _ _ _ (by rfl) (by rfl) (by rfl) (by first | (with_reducible exact Mem.ev_const _ _) | (with_reducible exact Mem.ev_zero _ _ _) | (with_reducible (apply Eq.trans (Mem.ev_tmp _ _ _)); simp only [List.getD_cons_succ, List.getD_cons_zero] <;> rfl)) (by first | (with_reducible exact Mem.ev_const _ _) | (with_reducible exact Mem.ev_zero _ _ _) | (with_reducible (apply Eq.trans (Mem.ev_tmp _ _ _)); simp only [List.getD_cons_succ, List.getD_cons_zero] <;> rfl)) ?_) | (refine plan_pick_f _ _ _ _ (by rfl) (by rfl) (by rfl) (by first | (with_reducible exact Mem.ev_const _ _) | (with_reducible exact Mem.ev_zero _ _ _) | (with_reducible (apply Eq.trans (Mem.ev_tmp _ _ _)); simp only [List.getD_cons_succ, List.getD_cons_zero] <;> rfl)) (by first | (with_reducible exact Mem.ev_const _ _) | (with_reducible exact Mem.ev_zero _ _ _) | (with_reducible (apply Eq.trans (Mem.ev_tmp _ _ _)); simp only [List.getD_cons_succ, List.getD_cons_zero] <;> rfl)) ?_))
  (simp only [Act.put, List.setIfInBounds_toArray, List.set_cons_zero, List.set_cons_succ])
  (first | (refine plan_move _ _ (by rfl) (by rfl) (.inl (by rfl)) (by first | (with_reducible exact Mem.ev_const _ _) | (with_reducible exact Mem.ev_zero _ _ _) | (with_reducible (apply Eq.trans (Mem.ev_tmp _ _ _)); simp only [List.getD_cons_succ, List.getD_cons_zero] <;> rfl)) ?_) | (refine plan_move _ _ (by rfl) (by rfl) (.inr (by rfl)) (by first | (with_reducible exact Mem.ev_const _ _) | (with_reducible exact Mem.ev_zero _ _ _) | (with_reducible (apply Eq.trans (Mem.ev_tmp _ _ _)); simp only [List.getD_cons_succ, List.getD_cons_zero] <;> rfl)) ?_) | (refine plan_pick_t _ _ _ _ (by rfl) (by rfl) (by rfl) (by first | (with_reducible exact Mem.ev_const _ _) | (with_reducible exact Mem.ev_zero _ _ _) | (with_reducible (apply Eq.trans (Mem.ev_tmp _ _ _)); simp only [List.getD_cons_succ, List.getD_cons_zero] <;> rfl)) (by first | (with_reducible exact Mem.ev_const _ _) | (with_reducible exact Mem.ev_zero _ _ _) | (with_reducible (apply Eq.trans (Mem.ev_tmp _ _ _)); simp only [List.getD_cons_succ, List.getD_cons_zero] <;> rfl)) ?_) | (refine plan_pick_f _ _ _ _ (by rfl) (by rfl) (by rfl) (by first | (with_reducible exact Mem.ev_const _ _) | (with_reducible exact Mem.ev_zero _ _ _) | (with_reducible (apply Eq.trans (Mem.ev_tmp _ _ _)); simp only [List.getD_cons_succ, List.getD_cons_zero] <;> rfl)) (by first | (with_reducible exact Mem.ev_const _ _) | (with_reducible exact Mem.ev_zero _ _ _) | (with_reducible (apply Eq.trans (Mem.ev_tmp _ _ _)); simp only [List.getD_cons_succ, List.getD_cons_zero] <;> rfl)) ?_))
  (simp only [Act.put, List.setIfInBounds_toArray, List.set_cons_zero, List.set_cons_succ])
  (first | (refine plan_move _ _ (by rfl) (by rfl) (.inl (by rfl)) (by first | (with_reducible exact Mem.ev_const _ _) | (with_reducible exact Mem.ev_zero _ _ _) | (with_reducible (apply Eq.trans (Mem.ev_tmp _ _ _)); simp only [List.getD_cons_succ, List.getD_cons_zero] <;> rfl)) ?_) | (refine plan_move _ _ (by rfl) (by rfl) (.inr (by rfl)) (by first | (with_reducible exact Mem.ev_const _ _) | (with_reducible exact Mem.ev_zero _ _ _) | (with_reducible (apply Eq.trans (Mem.ev_tmp _ _ _)); simp only [List.getD_cons_succ, List.getD_cons_zero] <;> rfl)) ?_) | (refine plan_pick_t _ _ _ _ (by rfl) (by rfl) (by rfl) (by first | (with_reducible exact Mem.ev_const _ _) | (with_reducible exact Mem.ev_zero _ _ _) | (with_reducible (apply Eq.trans (Mem.ev_tmp _ _ _)); simp only [List.getD_cons_succ, List.getD_cons_zero] <;> rfl)) (by first | (with_reducible exact Mem.ev_const _ _) | (with_reducible exact Mem.ev_zero _ _ _) | (with_reducible (apply Eq.trans (Mem.ev_tmp _ _ _)); simp only [List.getD_cons_succ, List.getD_cons_zero] <;> rfl)) ?_) | (refine plan_pick_f _ _ _ _ (by rfl) (by rfl) (by rfl) (by first | (with_reducible exact Mem.ev_const _ _) | (with_reducible exact Mem.ev_zero _ _ _) | (with_reducible (apply Eq.trans (Mem.ev_tmp _ _ _)); simp only [List.getD_cons_succ, List.getD_cons_zero] <;> rfl)) (by first | (with_reducible exact Mem.ev_const _ _) | (with_reducible exact Mem.ev_zero _ _ _) | (with_reducible (apply Eq.trans (Mem.ev_tmp _ _ _)); simp only [List.getD_cons_succ, List.getD_cons_zero] <;> rfl)) ?_))
  (simp only [Act.put, List.setIfInBounds_toArray, List.set_cons_zero, List.set_cons_succ])
  (first | (refine plan_move _ _ (by rfl) (by rfl) (.inl (by rfl)) (by first | (with_reducible exact Mem.ev_const _ _) | (with_reducible exact Mem.ev_zero _ _ _) | (with_reducible (apply Eq.trans (Mem.ev_tmp _ _ _)); simp only [List.getD_cons_succ, List.getD_cons_zero] <;> rfl)) ?_) | (refine plan_move _ _ (by rfl) (by rfl) (.inr (by rfl)) (by first | (with_reducible exact Mem.ev_const _ _) | (with_reducible exact Mem.ev_zero _ _ _) | (with_reducible (apply Eq.trans (Mem.ev_tmp _ _ _)); simp only [List.getD_cons_succ, List.getD_cons_zero] <;> rfl)) ?_) | (refine plan_pick_t _ _ _ _ (by rfl) (by rfl) (by rfl) (by first | (with_reducible exact Mem.ev_const _ _) | (with_reducible exact Mem.ev_zero _ _ _) | (with_reducible (apply Eq.trans (Mem.ev_tmp _ _ _)); simp only [List.getD_cons_succ, List.getD_cons_zero] <;> rfl)) (by first | (with_reducible exact Mem.ev_const _ _) | (with_reducible exact Mem.ev_zero _ _ _) | (with_reducible (apply Eq.trans (Mem.ev_tmp _ _ _)); simp only [List.getD_cons_succ, List.getD_cons_zero] <;> rfl)) ?_) | (refine plan_pick_f _ _ _ _ (by rfl) (by rfl) (by rfl) (by first | (with_reducible exact Mem.ev_const _ _) | (with_reducible exact Mem.ev_zero _ _ _) | (with_reducible (apply Eq.trans (Mem.ev_tmp _ _ _)); simp only [List.getD_cons_succ, List.getD_cons_zero] <;> rfl)) (by first | (with_reducible exact Mem.ev_const _ _) | (with_reducible exact Mem.ev_zero _ _ _) | (with_reducible (apply Eq.trans (Mem.ev_tmp _ _ _)); simp only [List.getD_cons_succ, List.getD_cons_zero] <;> rfl)) ?_))
  (simp only [Act.put, List.setIfInBounds_toArray, List.set_cons_zero, List.set_cons_succ])
  refine plan_nil ?_
  have R2 : Hid (At w1.drew (w.heap.size + 1) X 26) := R1.out
  have B2 : Hid (Below w.heap.size w w1.drew) := B1.out.drew
  clear R1 B1 A1 hx
  generalize w1.drew = W at *
  go_wp2_with fail
  refine (left_any q.b 25 _ (by decide)).mono ?_
  rintro e w' ⟨rfl, rfl⟩
  go_wp2_with fail
  obtain ⟨b1, hb1⟩ : ∃ x : BitVec 32, x = q.b.rotateLeft 25 ^^^ q.c := ⟨_, rfl⟩
  rw [r_xor (q.b.rotateLeft 25) q.c, ← hb1]
  have Hb1 := Lib.hid hb1
  clear hb1
  obtain ⟨k1, hk1⟩ : ∃ x : BitVec 32, x = q.c - q.d := ⟨_, rfl⟩
  rw [v_subm q.c q.d, ← hk1]
  have Hk1 := Lib.hid hk1
  clear hk1
  refine (left_any q.d 24 _ (by decide)).mono ?_
  rintro e w' ⟨rfl, rfl⟩
  go_wp2_with fail
  obtain ⟨d1, hd1⟩ : ∃ x : BitVec 32, x = q.d.rotateLeft 24 ^^^ q.a := ⟨_, rfl⟩
  rw [r_xor (q.d.rotateLeft 24) q.a, ← hd1]
  have Hd1 := Lib.hid hd1
  clear hd1
  obtain ⟨a1, ha1⟩ : ∃ x : BitVec 32, x = q.a - b1 := ⟨_, rfl⟩
  rw [v_subm q.a b1, ← ha1]
  have Ha1 := Lib.hid ha1
  clear ha1
  refine (left_any b1 20 _ (by decide)).mono ?_
  rintro e w' ⟨rfl, rfl⟩
  go_wp2_with fail
  obtain ⟨b0, hb0⟩ : ∃ x : BitVec 32, x = b1.rotateLeft 20 ^^^ k1 := ⟨_, rfl⟩
  rw [r_xor (b1.rotateLeft 20) k1, ← hb0]
  have Hb0 := Lib.hid hb0
  clear hb0
  obtain ⟨k0, hk0⟩ : ∃ x : BitVec 32, x = k1 - d1 := ⟨_, rfl⟩
  rw [v_subm k1 d1, ← hk0]
  have Hk0 := Lib.hid hk0
  clear hk0
  refine (left_any d1 16 _ (by decide)).mono ?_
  rintro e w' ⟨rfl, rfl⟩
  obtain ⟨d0, hd0⟩ : ∃ x : BitVec 32, x = d1.rotateLeft 16 ^^^ a1 := ⟨_, rfl⟩
  obtain ⟨a0, ha0⟩ : ∃ x : BitVec 32, x = a1 - b0 := ⟨_, rfl⟩
  have Hd0 := Lib.hid hd0; have Ha0 := Lib.hid ha0
  clear hd0 ha0
  have hres : qOf (qback q) = (#[.int .u32 (V a0), .int .u32 (V b0), .int .u32 (V k0), .int .u32 (V d0)] : Array Value) := by rw [Ha0.out, Hd0.out, Hk0.out, Hb0.out, Ha1.out, Hd1.out, Hk1.out, Hb1.out]; rfl
  have HRES := Lib.hid hres
  clear hres
  go_wp2_with (first | (rw [r_xor (d1.rotateLeft 16) a1, ← Hd0.out, v_subm a1 b0, ← Ha0.out]; refine wpList_store_all (by rfl) 26 _ _ (by rfl) (by rfl) (w.heap.size + 1) (#[.int .u32 (V a0), .int .u32 (V b0), .int .u32 (V k0), .int .u32 (V d0)] : Array Value) (by rfl) (by rfl) (by exact infoQ) _ _ R2.out (by exact XS.out.symm) (u32s_one [a0, b0, k0, d0]) ?_))
  try simp only [Exit.inBlock, Exit.then]
  refine ret_row (by rfl) (w.heap.size + 1) 26 (#[.int .u32 (V a0), .int .u32 (V b0), .int .u32 (V k0), .int .u32 (V d0)] : Array Value) _ (by rfl) (R2.out.row _) Tryd.underlying26 (by rfl) (by exact infoQ) ?_
  exact ⟨by rw [HRES.out], below_row B2.out (by omega) _⟩
end Sha
end Go.Proofs.YtikfhabcjjoloaaDoor
