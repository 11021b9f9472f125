/- The walk of the law CipherBack: what is turned twice is as it was; bytes that are turned are joined with the stream. -/
import Derived.Test.YtikfhabcjjoloaaDoorCipTurns
namespace Go.Proofs.YtikfhabcjjoloaaDoor
namespace Mem
open Go.RowKit
/-- A load of part of a block known whole, in a plain region, guarded or not. -/
theorem wpList_load_is_wanted {P : Program} {ops : Array Oper} {rest : List Oper} {o : Oper} {a : Act} {w : World} {Q : Exit → Act → World → Prop} (hw : Region.wanted o (yielded ops a.tmps) = true) (ty : TypeId) (x : Operand) (hop : o.op = .load ty x)
    (b c n : Nat) (hx : a.eval x = .pointer (some ⟨b, c, none⟩)) (d : TypeDesc) (hu : P.underlying ty = some d) (hd : d.isRow = true) (hi : (P.info? ty).map (·.size) = some n)
    (C : Array Value) (t : TypeId) (hC : At w b C t) (hn : c + n ≤ C.size) (R : Array Value) (hR : C.extract c (c + n) = R) (h : wpList P ops Q rest (a.put o.dst (.agg R)) w) : wpList P ops Q (o :: rest) a w := by
  unfold wpList
  rw [if_pos hw]
  left
  unfold Oper.wp
  have hr := run_loadAt_mid (P := P) w b c ty (C.extract c (c + n)).toList d (hC.range c n) hu hd (by rw [hi]; simp; omega)
  have : (execOp a.eval o).run P w = .ok (.value (.agg R)) w := by
    unfold execOp
    simp only [hop, hx, Sem.run_bind, hr, Result.andThen_ok, Sem.run_pure]
    simp [hR]
  rw [this]
  exact h
end Mem
namespace Sha
open Go.RowKit Mem
theorem o_neqb {P : Program} (t t2 : TypeId) (x y : Operand) (a : BitVec 8) (w : World) : (do eqGuard .neq t x y (.int .u8 (B8 a)) (.int .u8 (B8 a)); binOp .neq t2 (.int .u8 (B8 a)) (.int .u8 (B8 a)) : Sem Value).run P w = .ok (.bool false) w := by
  go_simp
theorem cturn_get (l s : List (BitVec 8)) (h : l.length = s.length) (j : Nat) (hj : j < l.length) : (cturn l s).getD j 0 = l.getD j 0 ^^^ s.getD j 0 := by
  rw [cturn_joinB l s h]; exact joinB_get l s h j hj
set_option maxRecDepth 100000 in
set_option maxHeartbeats 2000000 in
theorem back_near (key nonce : List (BitVec 8)) (n : BitVec 32) (l : List (BitVec 8)) (v : Value) (lk : key.length = 32) (ln : nonce.length = 12) (hl : l.length ≤ 700) (w : World) (hv : Sl w v l) (hL : CTabs w) :
    Calls Tryd.prog 5 #[.agg (ask4 key nonce n), v] w fun e w' => e = .returned (.bool true) ∧ Below w.heap.size w w' := by
  have hal := fun wx (h : Below w.heap.size w wx) => alive4_any wx (hL.below h (Nat.le_refl _))
  obtain ⟨S, hS⟩ : ∃ S, S = cstream key nonce n l.length := ⟨_, rfl⟩
  have lS : S.length = l.length := by rw [hS]; exact cstream_length _ _ _ _
  obtain ⟨TT, hTT⟩ : ∃ M, M = cturn l S := ⟨_, rfl⟩
  have lT : TT.length = l.length := by rw [hTT]; exact cturn_length _ _ (by rw [lS]; exact Nat.le_refl _)
  have hback : cturn TT S = l := by rw [hTT]; exact cturn_back l S (by rw [lS]; exact Nat.le_refl _)
  have hget := fun j hj => cturn_get l S lS.symm j hj
  rw [← hTT] at hget
  have htu : ∀ wx, Below w.heap.size w wx → Calls Tryd.prog 14 #[.agg (u8s key).toArray, .agg (u8s nonce).toArray, .int .u32 (V n), v] wx (SEnd wx TT) := fun wx h => by
    rw [hTT, hS]; exact turned_any key nonce n l v lk ln (by omega) wx (hv.below h) (hL.below h (Nat.le_refl _))
  have htu2 : ∀ (u : Value) wx, Sl wx u TT → Below w.heap.size w wx → Calls Tryd.prog 14 #[.agg (u8s key).toArray, .agg (u8s nonce).toArray, .int .u32 (V n), u] wx (SEnd wx l) := fun u wx hu h => by
    have h2 := turned_any key nonce n TT u lk ln (by omega) wx hu (hL.below h (Nat.le_refl _))
    rw [lT, ← hS, hback] at h2
    exact h2
  have hst : ∀ wx, Below w.heap.size w wx → Calls Tryd.prog 16 #[.agg (u8s key).toArray, .agg (u8s nonce).toArray, .int .u32 (V n), .int .i64 (l.length : Int)] wx (SEnd wx S) := fun wx h => by
    rw [hS]; exact stream_good key nonce n l.length lk ln (by omega) wx (hL.below h (Nat.le_refl _))
  have sm := fun u v wx (h1 : Sl wx u l) (h2 : Sl wx v l) => same_any l l u v wx h1 h2 (by omega) (by omega)
  rw [sameB_self] at sm
  obtain ⟨P, hP⟩ : ∃ M, M = ask4 key nonce n := ⟨_, rfl⟩
  have hps : P.size = 45 := by rw [hP]; exact ask4_size _ _ _ lk ln
  have hck := ask4_key key nonce n lk
  have hcd := ask4_nonce key nonce n lk ln
  have hcn := ask4_count key nonce n lk ln
  obtain ⟨C, hC⟩ : ∃ M, M = (u8s key).toArray := ⟨_, rfl⟩
  obtain ⟨D, hD⟩ : ∃ M, M = (u8s nonce).toArray := ⟨_, rfl⟩
  rw [← hP, ← hC] at hck; rw [← hP, ← hD] at hcd; rw [← hP] at hcn ⊢
  rw [← hC, ← hD] at htu htu2 hst
  have hv0 := hv
  obtain ⟨a0, cap, rfl, _, _⟩ := hv
  have hfar := fun wx => far4_no l.length a0 cap wx hl
  have a1 : At (w.alloc (.cells P 33)) w.heap.size P 33 := at_new w P _
  have ab : Below w.heap.size w (w.alloc (.cells P 33)) := (Below.refl _ _).alloc (Nat.le_refl _) _
  obtain ⟨m, hm⟩ : ∃ m, m = l.length := ⟨_, rfl⟩
  have m700 : m ≤ 700 := by omega
  rw [← hm] at lS lT htu hst hfar hget hv0 ⊢
  have AL := Lib.hid hal; have TU := Lib.hid htu; have TU2 := Lib.hid htu2; have ST := Lib.hid hst; have SM := Lib.hid sm; have PS := Lib.hid hps; have CK := Lib.hid hck; have CD := Lib.hid hcd; have CN := Lib.hid hcn; have FAR := Lib.hid hfar; have A1 := Lib.hid a1; have WB := Lib.hid ab
  have LS := Lib.hid lS; have LT := Lib.hid lT; have GET := Lib.hid hget; have HV := Lib.hid hv0; have HM := Lib.hid hm
  clear hal htu htu2 hst sm hps hck hcd hcn hfar a1 ab hTT hS hback hget lS lT hv0 hm hP hC hD lk ln hL hl
  go_enter Tryd.func5, Tryd.ntmps5
  go_upto_region 1 with fail
  generalize w.alloc (.cells P 33) = w1 at *
  go_wp2_with fail
  refine (FAR.out _).mono ?_
  rintro e w' ⟨rfl, rfl⟩
  have c44 : w1.cell? ⟨w.heap.size, 44, none⟩ = some (.int .u32 (V n)) := by rw [A1.out.cell]; exact CN.out
  go_wp2_with (first
    | (refine wpList_load_is (by rfl) 22 _ (by rfl) w.heap.size 0 32 (by rfl) _ Tryd.underlying22 (by rfl) (by kernel_rfl) P _ A1.out (by rw [PS.out]; decide) C CK.out ?_)
    | (refine wpList_load_is (by rfl) 23 _ (by rfl) w.heap.size 32 12 (by rfl) _ Tryd.underlying23 (by rfl) (by kernel_rfl) P _ A1.out (by rw [PS.out]; decide) D CD.out ?_))
  refine (TU.out _ WB.out).mono ?_
  rintro e w2 ⟨g5, rfl, h5, _, hb2⟩
  rw [LT.out]
  have A2 := Lib.hid (A1.out.below hb2 A1.out.lt); have T2 := Lib.hid h5; have W2 := Lib.hid (WB.out.trans (hb2.mono WB.out.size))
  clear h5 hb2 A1 WB c44
  have c44 : w2.cell? ⟨w.heap.size, 44, none⟩ = some (.int .u32 (V n)) := by rw [A2.out.cell]; exact CN.out
  go_wp2_with (first
    | (refine wpList_load_is (by rfl) 22 _ (by rfl) w.heap.size 0 32 (by rfl) _ Tryd.underlying22 (by rfl) (by kernel_rfl) P _ A2.out (by rw [PS.out]; decide) C CK.out ?_)
    | (refine wpList_load_is (by rfl) 23 _ (by rfl) w.heap.size 32 12 (by rfl) _ Tryd.underlying23 (by rfl) (by kernel_rfl) P _ A2.out (by rw [PS.out]; decide) D CD.out ?_))
  refine (ST.out _ W2.out).mono ?_
  rintro e w3 ⟨g6, rfl, h6, _, hb3⟩
  rw [LS.out]
  have A3 := Lib.hid (A2.out.below hb3 A2.out.lt); have T3 := Lib.hid (T2.out.below hb3 T2.out.lt); have S3 := Lib.hid h6; have W3 := Lib.hid (W2.out.trans (hb3.mono W2.out.size))
  clear h6 hb3 A2 W2 T2 c44
  have c44 : w3.cell? ⟨w.heap.size, 44, none⟩ = some (.int .u32 (V n)) := by rw [A3.out.cell]; exact CN.out
  go_wp2_with (first
    | (refine wpList_load_is_wanted (by rfl) 22 _ (by rfl) w.heap.size 0 32 (by rfl) _ Tryd.underlying22 (by rfl) (by kernel_rfl) P _ A3.out (by rw [PS.out]; decide) C CK.out ?_)
    | (refine wpList_load_is_wanted (by rfl) 23 _ (by rfl) w.heap.size 32 12 (by rfl) _ Tryd.underlying23 (by rfl) (by kernel_rfl) P _ A3.out (by rw [PS.out]; decide) D CD.out ?_))
  refine (TU2.out _ _ (at_sl T3.out LT.out) W3.out).mono ?_
  rintro e w4 ⟨g7, rfl, h7, _, hb4⟩
  rw [← HM.out]
  have T4 := Lib.hid (T3.out.below hb4 T3.out.lt); have S4 := Lib.hid (S3.out.below hb4 S3.out.lt); have L4 := Lib.hid (at_sl h7 HM.out.symm); have W4 := Lib.hid (W3.out.trans (hb4.mono W3.out.size))
  clear h7 hb4 A3 W3 T3 S3 c44
  go_wp2_with fail
  refine (SM.out _ _ _ L4.out (HV.out.below W4.out)).mono ?_
  rintro e w5 ⟨rfl, hb5⟩
  have T5 := Lib.hid (T4.out.below hb5 T4.out.lt); have S5 := Lib.hid (S4.out.below hb5 S4.out.lt); have W5 := Lib.hid (W4.out.trans (hb5.mono W4.out.size))
  clear hb5 T4 S4 L4 W4
  have I5 : Hid (Below w5.heap.size w5 w5) := Below.refl _ _
  go_wp2_with fail
  go_loopw [7, 55] (fun _ i wr => ∃ j : Nat, j ≤ m ∧ i = .int .i64 j ∧ Below w5.heap.size w5 wr) (fun _ i _ => m - (intOf i).toNat)
  case atStart => exact ⟨0, by omega, rfl, I5.out⟩
  case round =>
    clear I5
    obtain ⟨j, hj, rfl, hI⟩ := hrel
    by_cases hlt : j < m
    · obtain ⟨x, hxx⟩ : ∃ x, x = l.getD j 0 := ⟨_, rfl⟩
      obtain ⟨y, hyy⟩ : ∃ y, y = S.getD j 0 := ⟨_, rfl⟩
      have hv5 := HV.out.below W5.out
      rw [HM.out] at hv5
      obtain ⟨b1, o1, hb1, cx⟩ := sl_at (i := j) hv5 (by rw [← HM.out]; exact hlt)
      have cy : w5.cell? ⟨g6, 0 + j, none⟩ = some (.int .u8 (B8 y)) := by
        rw [Nat.zero_add, S5.out.cell, List.getElem?_toArray, u8s_get _ _ (by rw [LS.out]; exact hlt), hyy]; rfl
      have cz : w5.cell? ⟨g5, 0 + j, none⟩ = some (.int .u8 (B8 (x ^^^ y))) := by
        rw [Nat.zero_add, T5.out.cell, List.getElem?_toArray, u8s_get _ _ (by rw [LT.out]; exact hlt), GET.out j hlt, hxx, hyy]; rfl
      rw [hb1]
      rw [← hxx] at cx
      have C1 := Lib.hid cx; have C5 := Lib.hid cz; have C6 := Lib.hid cy; have L1 := Lib.hid (block_lt_of_cell cx); have L5 := Lib.hid T5.out.lt; have L6 := Lib.hid S5.out.lt; have BB := Lib.hid hI
      have hlt' : (j : Int) < (m : Int) := by omega
      clear hI cx cy cz hxx hyy hv5
      go_wp2_with fail
      refine wp_region_plan_in (fun w' => Below w5.heap.size w5 w') (.take 0 (.take 1 (.take 2 (.take 3 (.take 4 (.take 5 (.take 6 (.take 7 (.take 8 (.take 9 (.take 10 (.take 11 (.take 12 (.take 13 .done)))))))))))))) (by kernel_rfl) (by kernel_rfl) (by kernel_rfl) BB.out.drew ?_
      (first | (refine plan_move _ _ (by rfl) (by rfl) (.inl (by rfl)) (by first | (with_reducible exact Mem.ev_const _ _) | (with_reducible exact Mem.ev_zero _ _ _) | (with_reducible (apply Eq.trans (Mem.ev_tmp _ _ _)); simp only [List.getD_cons_succ, List.getD_cons_zero] <;> rfl)) ?_) | (refine plan_move _ _ (by rfl) (by rfl) (.inr (by rfl)) (by first | (with_reducible exact Mem.ev_const _ _) | (with_reducible exact Mem.ev_zero _ _ _) | (with_reducible (apply Eq.trans (Mem.ev_tmp _ _ _)); simp only [List.getD_cons_succ, List.getD_cons_zero] <;> rfl)) ?_) | (refine plan_pick_t _ _ _ _ (by rfl) (by rfl) (by rfl) (by first | (with_reducible exact Mem.ev_const _ _) | (with_reducible exact Mem.ev_zero _ _ _) | (with_reducible (apply Eq.trans (Mem.ev_tmp _ _ _)); simp only [List.getD_cons_succ, List.getD_cons_zero] <;> rfl)) (by first | (with_reducible exact Mem.ev_const _ _) | (with_reducible exact Mem.ev_zero _ _ _) | (with_reducible (apply Eq.trans (Mem.ev_tmp _ _ _)); simp only [List.getD_cons_succ, List.getD_cons_zero] <;> rfl)) ?_) | (refine plan_pick_f _ _ _ _ (by rfl) (by rfl) (by rfl) (by first | (with_reducible exact Mem.ev_const _ _) | (with_reducible exact Mem.ev_zero _ _ _) | (with_reducible (apply Eq.trans (Mem.ev_tmp _ _ _)); simp only [List.getD_cons_succ, List.getD_cons_zero] <;> rfl)) (by first | (with_reducible exact Mem.ev_const _ _) | (with_reducible exact Mem.ev_zero _ _ _) | (with_reducible (apply Eq.trans (Mem.ev_tmp _ _ _)); simp only [List.getD_cons_succ, List.getD_cons_zero] <;> rfl)) ?_))
      (simp only [Act.put, List.setIfInBounds_toArray, List.set_cons_zero, List.set_cons_succ])
      (first | (refine plan_move _ _ (by rfl) (by rfl) (.inl (by rfl)) (by first | (with_reducible exact Mem.ev_const _ _) | (with_reducible exact Mem.ev_zero _ _ _) | (with_reducible (apply Eq.trans (Mem.ev_tmp _ _ _)); simp only [List.getD_cons_succ, List.getD_cons_zero] <;> rfl)) ?_) | (refine plan_move _ _ (by rfl) (by rfl) (.inr (by rfl)) (by first | (with_reducible exact Mem.ev_const _ _) | (with_reducible exact Mem.ev_zero _ _ _) | (with_reducible (apply Eq.trans (Mem.ev_tmp _ _ _)); simp only [List.getD_cons_succ, List.getD_cons_zero] <;> rfl)) ?_) | (refine plan_pick_t _ _ _ _ (by rfl) (by rfl) (by rfl) (by first | (with_reducible exact Mem.ev_const _ _) | (with_reducible exact Mem.ev_zero _ _ _) | (with_reducible (apply Eq.trans (Mem.ev_tmp _ _ _)); simp only [List.getD_cons_succ, List.getD_cons_zero] <;> rfl)) (by first | (with_reducible exact Mem.ev_const _ _) | (with_reducible exact Mem.ev_zero _ _ _) | (with_reducible (apply Eq.trans (Mem.ev_tmp _ _ _)); simp only [List.getD_cons_succ, List.getD_cons_zero] <;> rfl)) ?_) | (refine plan_pick_f _ _ _ _ (by rfl) (by rfl) (by rfl) (by first | (with_reducible exact Mem.ev_const _ _) | (with_reducible exact Mem.ev_zero _ _ _) | (with_reducible (apply Eq.trans (Mem.ev_tmp _ _ _)); simp only [List.getD_cons_succ, List.getD_cons_zero] <;> rfl)) (by first | (with_reducible exact Mem.ev_const _ _) | (with_reducible exact Mem.ev_zero _ _ _) | (with_reducible (apply Eq.trans (Mem.ev_tmp _ _ _)); simp only [List.getD_cons_succ, List.getD_cons_zero] <;> rfl)) ?_))
      (simp only [Act.put, List.setIfInBounds_toArray, List.set_cons_zero, List.set_cons_succ])
      refine plan_index 34 5 _ _ g5 0 m m j (by rfl) (by rfl) (by rfl) (by first | (with_reducible exact Mem.ev_const _ _) | (with_reducible exact Mem.ev_zero _ _ _) | (with_reducible (apply Eq.trans (Mem.ev_tmp _ _ _)); simp only [List.getD_cons_succ, List.getD_cons_zero] <;> rfl)) (by first | (with_reducible exact Mem.ev_const _ _) | (with_reducible exact Mem.ev_zero _ _ _) | (with_reducible (apply Eq.trans (Mem.ev_tmp _ _ _)); simp only [List.getD_cons_succ, List.getD_cons_zero] <;> rfl)) (by omega) Tryd.underlying34 (by kernel_rfl) ?_
      (simp only [Act.put, List.setIfInBounds_toArray, List.set_cons_zero, List.set_cons_succ])
      refine plan_cell 5 _ _ _ _ (by rfl) (by rfl) (by rfl) (by first | (with_reducible exact Mem.ev_const _ _) | (with_reducible exact Mem.ev_zero _ _ _) | (with_reducible (apply Eq.trans (Mem.ev_tmp _ _ _)); simp only [List.getD_cons_succ, List.getD_cons_zero] <;> rfl)) (fun w' hw' => (hw'.cell (p := ⟨g5, 0 + j, none⟩) L5.out).trans C5.out) Tryd.underlying5 (by rfl) ?_
      (simp only [Act.put, List.setIfInBounds_toArray, List.set_cons_zero, List.set_cons_succ])
      (first | (refine plan_move _ _ (by rfl) (by rfl) (.inl (by rfl)) (by first | (with_reducible exact Mem.ev_const _ _) | (with_reducible exact Mem.ev_zero _ _ _) | (with_reducible (apply Eq.trans (Mem.ev_tmp _ _ _)); simp only [List.getD_cons_succ, List.getD_cons_zero] <;> rfl)) ?_) | (refine plan_move _ _ (by rfl) (by rfl) (.inr (by rfl)) (by first | (with_reducible exact Mem.ev_const _ _) | (with_reducible exact Mem.ev_zero _ _ _) | (with_reducible (apply Eq.trans (Mem.ev_tmp _ _ _)); simp only [List.getD_cons_succ, List.getD_cons_zero] <;> rfl)) ?_) | (refine plan_pick_t _ _ _ _ (by rfl) (by rfl) (by rfl) (by first | (with_reducible exact Mem.ev_const _ _) | (with_reducible exact Mem.ev_zero _ _ _) | (with_reducible (apply Eq.trans (Mem.ev_tmp _ _ _)); simp only [List.getD_cons_succ, List.getD_cons_zero] <;> rfl)) (by first | (with_reducible exact Mem.ev_const _ _) | (with_reducible exact Mem.ev_zero _ _ _) | (with_reducible (apply Eq.trans (Mem.ev_tmp _ _ _)); simp only [List.getD_cons_succ, List.getD_cons_zero] <;> rfl)) ?_) | (refine plan_pick_f _ _ _ _ (by rfl) (by rfl) (by rfl) (by first | (with_reducible exact Mem.ev_const _ _) | (with_reducible exact Mem.ev_zero _ _ _) | (with_reducible (apply Eq.trans (Mem.ev_tmp _ _ _)); simp only [List.getD_cons_succ, List.getD_cons_zero] <;> rfl)) (by first | (with_reducible exact Mem.ev_const _ _) | (with_reducible exact Mem.ev_zero _ _ _) | (with_reducible (apply Eq.trans (Mem.ev_tmp _ _ _)); simp only [List.getD_cons_succ, List.getD_cons_zero] <;> rfl)) ?_))
      (simp only [Act.put, List.setIfInBounds_toArray, List.set_cons_zero, List.set_cons_succ])
      (first | (refine plan_move _ _ (by rfl) (by rfl) (.inl (by rfl)) (by first | (with_reducible exact Mem.ev_const _ _) | (with_reducible exact Mem.ev_zero _ _ _) | (with_reducible (apply Eq.trans (Mem.ev_tmp _ _ _)); simp only [List.getD_cons_succ, List.getD_cons_zero] <;> rfl)) ?_) | (refine plan_move _ _ (by rfl) (by rfl) (.inr (by rfl)) (by first | (with_reducible exact Mem.ev_const _ _) | (with_reducible exact Mem.ev_zero _ _ _) | (with_reducible (apply Eq.trans (Mem.ev_tmp _ _ _)); simp only [List.getD_cons_succ, List.getD_cons_zero] <;> rfl)) ?_) | (refine plan_pick_t _ _ _ _ (by rfl) (by rfl) (by rfl) (by first | (with_reducible exact Mem.ev_const _ _) | (with_reducible exact Mem.ev_zero _ _ _) | (with_reducible (apply Eq.trans (Mem.ev_tmp _ _ _)); simp only [List.getD_cons_succ, List.getD_cons_zero] <;> rfl)) (by first | (with_reducible exact Mem.ev_const _ _) | (with_reducible exact Mem.ev_zero _ _ _) | (with_reducible (apply Eq.trans (Mem.ev_tmp _ _ _)); simp only [List.getD_cons_succ, List.getD_cons_zero] <;> rfl)) ?_) | (refine plan_pick_f _ _ _ _ (by rfl) (by rfl) (by rfl) (by first | (with_reducible exact Mem.ev_const _ _) | (with_reducible exact Mem.ev_zero _ _ _) | (with_reducible (apply Eq.trans (Mem.ev_tmp _ _ _)); simp only [List.getD_cons_succ, List.getD_cons_zero] <;> rfl)) (by first | (with_reducible exact Mem.ev_const _ _) | (with_reducible exact Mem.ev_zero _ _ _) | (with_reducible (apply Eq.trans (Mem.ev_tmp _ _ _)); simp only [List.getD_cons_succ, List.getD_cons_zero] <;> rfl)) ?_))
      (simp only [Act.put, List.setIfInBounds_toArray, List.set_cons_zero, List.set_cons_succ])
      refine plan_index 34 5 _ _ b1 o1 m cap j (by rfl) (by rfl) (by rfl) (by first | (with_reducible exact Mem.ev_const _ _) | (with_reducible exact Mem.ev_zero _ _ _) | (with_reducible (apply Eq.trans (Mem.ev_tmp _ _ _)); simp only [List.getD_cons_succ, List.getD_cons_zero] <;> rfl)) (by first | (with_reducible exact Mem.ev_const _ _) | (with_reducible exact Mem.ev_zero _ _ _) | (with_reducible (apply Eq.trans (Mem.ev_tmp _ _ _)); simp only [List.getD_cons_succ, List.getD_cons_zero] <;> rfl)) (by omega) Tryd.underlying34 (by kernel_rfl) ?_
      (simp only [Act.put, List.setIfInBounds_toArray, List.set_cons_zero, List.set_cons_succ])
      refine plan_cell 5 _ _ _ _ (by rfl) (by rfl) (by rfl) (by first | (with_reducible exact Mem.ev_const _ _) | (with_reducible exact Mem.ev_zero _ _ _) | (with_reducible (apply Eq.trans (Mem.ev_tmp _ _ _)); simp only [List.getD_cons_succ, List.getD_cons_zero] <;> rfl)) (fun w' hw' => (hw'.cell (p := ⟨b1, o1 + j, none⟩) L1.out).trans C1.out) Tryd.underlying5 (by rfl) ?_
      (simp only [Act.put, List.setIfInBounds_toArray, List.set_cons_zero, List.set_cons_succ])
      (first | (refine plan_move _ _ (by rfl) (by rfl) (.inl (by rfl)) (by first | (with_reducible exact Mem.ev_const _ _) | (with_reducible exact Mem.ev_zero _ _ _) | (with_reducible (apply Eq.trans (Mem.ev_tmp _ _ _)); simp only [List.getD_cons_succ, List.getD_cons_zero] <;> rfl)) ?_) | (refine plan_move _ _ (by rfl) (by rfl) (.inr (by rfl)) (by first | (with_reducible exact Mem.ev_const _ _) | (with_reducible exact Mem.ev_zero _ _ _) | (with_reducible (apply Eq.trans (Mem.ev_tmp _ _ _)); simp only [List.getD_cons_succ, List.getD_cons_zero] <;> rfl)) ?_) | (refine plan_pick_t _ _ _ _ (by rfl) (by rfl) (by rfl) (by first | (with_reducible exact Mem.ev_const _ _) | (with_reducible exact Mem.ev_zero _ _ _) | (with_reducible (apply Eq.trans (Mem.ev_tmp _ _ _)); simp only [List.getD_cons_succ, List.getD_cons_zero] <;> rfl)) (by first | (with_reducible exact Mem.ev_const _ _) | (with_reducible exact Mem.ev_zero _ _ _) | (with_reducible (apply Eq.trans (Mem.ev_tmp _ _ _)); simp only [List.getD_cons_succ, List.getD_cons_zero] <;> rfl)) ?_) | (refine plan_pick_f _ _ _ _ (by rfl) (by rfl) (by rfl) (by first | (with_reducible exact Mem.ev_const _ _) | (with_reducible exact Mem.ev_zero _ _ _) | (with_reducible (apply Eq.trans (Mem.ev_tmp _ _ _)); simp only [List.getD_cons_succ, List.getD_cons_zero] <;> rfl)) (by first | (with_reducible exact Mem.ev_const _ _) | (with_reducible exact Mem.ev_zero _ _ _) | (with_reducible (apply Eq.trans (Mem.ev_tmp _ _ _)); simp only [List.getD_cons_succ, List.getD_cons_zero] <;> rfl)) ?_))
      (simp only [Act.put, List.setIfInBounds_toArray, List.set_cons_zero, List.set_cons_succ])
      (first | (refine plan_move _ _ (by rfl) (by rfl) (.inl (by rfl)) (by first | (with_reducible exact Mem.ev_const _ _) | (with_reducible exact Mem.ev_zero _ _ _) | (with_reducible (apply Eq.trans (Mem.ev_tmp _ _ _)); simp only [List.getD_cons_succ, List.getD_cons_zero] <;> rfl)) ?_) | (refine plan_move _ _ (by rfl) (by rfl) (.inr (by rfl)) (by first | (with_reducible exact Mem.ev_const _ _) | (with_reducible exact Mem.ev_zero _ _ _) | (with_reducible (apply Eq.trans (Mem.ev_tmp _ _ _)); simp only [List.getD_cons_succ, List.getD_cons_zero] <;> rfl)) ?_) | (refine plan_pick_t _ _ _ _ (by rfl) (by rfl) (by rfl) (by first | (with_reducible exact Mem.ev_const _ _) | (with_reducible exact Mem.ev_zero _ _ _) | (with_reducible (apply Eq.trans (Mem.ev_tmp _ _ _)); simp only [List.getD_cons_succ, List.getD_cons_zero] <;> rfl)) (by first | (with_reducible exact Mem.ev_const _ _) | (with_reducible exact Mem.ev_zero _ _ _) | (with_reducible (apply Eq.trans (Mem.ev_tmp _ _ _)); simp only [List.getD_cons_succ, List.getD_cons_zero] <;> rfl)) ?_) | (refine plan_pick_f _ _ _ _ (by rfl) (by rfl) (by rfl) (by first | (with_reducible exact Mem.ev_const _ _) | (with_reducible exact Mem.ev_zero _ _ _) | (with_reducible (apply Eq.trans (Mem.ev_tmp _ _ _)); simp only [List.getD_cons_succ, List.getD_cons_zero] <;> rfl)) (by first | (with_reducible exact Mem.ev_const _ _) | (with_reducible exact Mem.ev_zero _ _ _) | (with_reducible (apply Eq.trans (Mem.ev_tmp _ _ _)); simp only [List.getD_cons_succ, List.getD_cons_zero] <;> rfl)) ?_))
      (simp only [Act.put, List.setIfInBounds_toArray, List.set_cons_zero, List.set_cons_succ])
      refine plan_index 34 5 _ _ g6 0 m m j (by rfl) (by rfl) (by rfl) (by first | (with_reducible exact Mem.ev_const _ _) | (with_reducible exact Mem.ev_zero _ _ _) | (with_reducible (apply Eq.trans (Mem.ev_tmp _ _ _)); simp only [List.getD_cons_succ, List.getD_cons_zero] <;> rfl)) (by first | (with_reducible exact Mem.ev_const _ _) | (with_reducible exact Mem.ev_zero _ _ _) | (with_reducible (apply Eq.trans (Mem.ev_tmp _ _ _)); simp only [List.getD_cons_succ, List.getD_cons_zero] <;> rfl)) (by omega) Tryd.underlying34 (by kernel_rfl) ?_
      (simp only [Act.put, List.setIfInBounds_toArray, List.set_cons_zero, List.set_cons_succ])
      refine plan_cell 5 _ _ _ _ (by rfl) (by rfl) (by rfl) (by first | (with_reducible exact Mem.ev_const _ _) | (with_reducible exact Mem.ev_zero _ _ _) | (with_reducible (apply Eq.trans (Mem.ev_tmp _ _ _)); simp only [List.getD_cons_succ, List.getD_cons_zero] <;> rfl)) (fun w' hw' => (hw'.cell (p := ⟨g6, 0 + j, none⟩) L6.out).trans C6.out) Tryd.underlying5 (by rfl) ?_
      (simp only [Act.put, List.setIfInBounds_toArray, List.set_cons_zero, List.set_cons_succ])
      refine plan_bin _ _ _ _ _ _ _ _ (by rfl) (by rfl) (by rfl) (by first | (with_reducible exact Mem.ev_const _ _) | (with_reducible exact Mem.ev_zero _ _ _) | (with_reducible (apply Eq.trans (Mem.ev_tmp _ _ _)); simp only [List.getD_cons_succ, List.getD_cons_zero] <;> rfl)) (by first | (with_reducible exact Mem.ev_const _ _) | (with_reducible exact Mem.ev_zero _ _ _) | (with_reducible (apply Eq.trans (Mem.ev_tmp _ _ _)); simp only [List.getD_cons_succ, List.getD_cons_zero] <;> rfl)) (fun wx => o_xorb _ _ _ _ _ _ wx) ?_
      (simp only [Act.put, List.setIfInBounds_toArray, List.set_cons_zero, List.set_cons_succ])
      refine plan_bin _ _ _ _ _ _ _ _ (by rfl) (by rfl) (by rfl) (by first | (with_reducible exact Mem.ev_const _ _) | (with_reducible exact Mem.ev_zero _ _ _) | (with_reducible (apply Eq.trans (Mem.ev_tmp _ _ _)); simp only [List.getD_cons_succ, List.getD_cons_zero] <;> rfl)) (by first | (with_reducible exact Mem.ev_const _ _) | (with_reducible exact Mem.ev_zero _ _ _) | (with_reducible (apply Eq.trans (Mem.ev_tmp _ _ _)); simp only [List.getD_cons_succ, List.getD_cons_zero] <;> rfl)) (fun wx => o_neqb _ _ _ _ _ wx) ?_
      (simp only [Act.put, List.setIfInBounds_toArray, List.set_cons_zero, List.set_cons_succ])
      refine plan_nil ?_
      have BD := Lib.hid BB.out.drew
      generalize wr.drew = w8 at *
      go_wp2_with fail
      go_roundw
      case rel => exact ⟨j + 1, by omega, by go_num, BD.out⟩
      case measure => simp [intOf]; omega
    · have hjm : j = m := by omega
      have hge : ¬ (j : Int) < (m : Int) := by omega
      have W9 := Lib.hid (W5.out.trans (hI.mono W5.out.size))
      clear hI hjm hlt hj
      go_wp2_with fail
      refine (AL.out _ W9.out).mono ?_
      rintro e w9 ⟨rfl, hb9⟩
      have B9 := Lib.hid (W9.out.trans (hb9.mono W9.out.size))
      clear hb9
      go_wp2_with fail
      go_ret
      exact ⟨rfl, B9.out⟩
set_option maxRecDepth 100000 in
set_option maxHeartbeats 1000000 in
theorem back_far (P : Array Value) (l : List (BitVec 8)) (v : Value) (hl : 700 < l.length) (hl2 : l.length ≤ 9223372036854775807) (w : World) (hv : Sl w v l) (hL : CTabs w) :
    Calls Tryd.prog 5 #[.agg P, v] w fun e w' => e = .returned (.bool true) ∧ Below w.heap.size w w' := by
  have HAL := Lib.hid (fun wx (h : Below w.heap.size w wx) => alive4_any wx (hL.below h (Nat.le_refl _)))
  have ab : Below w.heap.size w (w.alloc (.cells P 33)) := (Below.refl _ _).alloc (Nat.le_refl _) _
  obtain ⟨a0, cap, rfl, _, _⟩ := hv
  have FAR := Lib.hid (fun wx => far4_yes l.length a0 cap wx hl hl2)
  have WB := Lib.hid ab
  clear ab hL hl
  generalize l.length = m at *
  go_enter Tryd.func5, Tryd.ntmps5
  go_upto_region 1 with fail
  generalize w.alloc (.cells P 33) = w1 at *
  go_wp2_with fail
  refine (FAR.out _).mono ?_
  rintro e w' ⟨rfl, rfl⟩
  go_wp2_with fail
  refine (HAL.out _ WB.out).mono ?_
  rintro e w5 ⟨rfl, hb5⟩
  have B5 := Lib.hid (WB.out.trans (hb5.mono WB.out.size))
  clear hb5
  go_wp2_with fail
  go_ret
  exact ⟨rfl, B5.out⟩
theorem back_any (key nonce : List (BitVec 8)) (n : BitVec 32) (l : List (BitVec 8)) (v : Value) (lk : key.length = 32) (ln : nonce.length = 12) (hl : l.length ≤ 9223372036854775807) (w : World) (hv : Sl w v l) (hL : CTabs w) :
    Calls Tryd.prog 5 #[.agg (ask4 key nonce n), v] w fun e w' => e = .returned (.bool true) ∧ Below w.heap.size w w' := by
  by_cases h1 : 700 < l.length
  · exact back_far _ l v h1 hl w hv hL
  exact back_near key nonce n l v lk ln (by omega) w hv hL
end Sha
end Go.Proofs.YtikfhabcjjoloaaDoor
