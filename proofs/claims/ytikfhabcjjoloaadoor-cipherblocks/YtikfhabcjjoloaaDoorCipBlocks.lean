/- The walk of the law CipherBlocks: any block and any quarter round are the document's. -/
import Derived.Test.YtikfhabcjjoloaaDoorCipEq
namespace Go.Proofs.YtikfhabcjjoloaaDoor
namespace Sha
open Go.RowKit Mem
set_option maxRecDepth 100000 in
set_option maxHeartbeats 4000000 in
theorem blocks_any (key nonce : List (BitVec 8)) (q : Q4) (n : BitVec 32) (lk : key.length = 32) (ln : nonce.length = 12) (w : World) (hL : CTabs w) :
    Calls Tryd.prog 3 #[.agg (u8s key).toArray, .agg (u8s nonce).toArray, .agg #[.int .u32 (V q.a), .int .u32 (V q.b), .int .u32 (V q.c), .int .u32 (V q.d), .int .u32 (V n)]] w fun e w' => e = .returned (.bool true) ∧ Below w.heap.size w w' := by
  have hal := fun wx (h : Below w.heap.size w wx) => alive4_any wx (hL.below h (Nat.le_refl _))
  have hbl := fun wx (h : Below w.heap.size w wx) => blk_any key nonce n lk ln wx (hL.below h (Nat.le_refl _))
  have hrb := fun wx => rblk_any key nonce n lk ln wx
  have hqu := fun wx => quarter_any q wx
  have hrq := fun wx => rquarter_any q wx
  have e1 := fun x y wx => eql_cb key nonce n x y wx
  have e2 := fun x y wx => eql_q (qr q) x y wx
  obtain ⟨M, hM⟩ : ∃ M, M = cbOf key nonce n := ⟨_, rfl⟩
  rw [show (u8s (cblk key nonce n)).toArray = M from hM.symm] at hrb
  obtain ⟨C, hC⟩ : ∃ M, M = (u8s key).toArray := ⟨_, rfl⟩
  obtain ⟨D, hD⟩ : ∃ M, M = (u8s nonce).toArray := ⟨_, rfl⟩
  obtain ⟨QQ, hQQ⟩ : ∃ M, M = qOf q := ⟨_, rfl⟩
  obtain ⟨QR, hQR⟩ : ∃ M, M = qOf (qr q) := ⟨_, rfl⟩
  have hq4 : (#[.int .u32 (V q.a), .int .u32 (V q.b), .int .u32 (V q.c), .int .u32 (V q.d)] : Array Value) = QQ := by rw [hQQ]; rfl
  obtain ⟨P5, hP5⟩ : ∃ M, M = (#[.int .u32 (V q.a), .int .u32 (V q.b), .int .u32 (V q.c), .int .u32 (V q.d), .int .u32 (V n)] : Array Value) := ⟨_, rfl⟩
  have hx : ∀ w, (zeroValue 26).run Tryd.prog w = .ok (.agg #[.int .u32 0, .int .u32 0, .int .u32 0, .int .u32 0]) w := zero4
  have cs : C.size = 32 := by rw [hC]; simp [u8s, lk]
  have ds : D.size = 12 := by rw [hD]; simp [u8s, ln]
  have qs : QQ.size = 4 := by rw [hQQ]; rfl
  have c0 : P5[0]? = some (.int .u32 (V q.a)) := by rw [hP5]; rfl
  have c1 : P5[1]? = some (.int .u32 (V q.b)) := by rw [hP5]; rfl
  have c2 : P5[2]? = some (.int .u32 (V q.c)) := by rw [hP5]; rfl
  have c3 : P5[3]? = some (.int .u32 (V q.d)) := by rw [hP5]; rfl
  have c4 : P5[4]? = some (.int .u32 (V n)) := by rw [hP5]; rfl
  rw [← hC, ← hD, ← hM] at hbl; rw [← hC, ← hD] at hrb; rw [← hM] at e1; rw [← hQQ, ← hQR] at hqu hrq; rw [← hQR] at e2
  rw [← hC, ← hD, ← hP5]
  have a3 : At (((w.alloc (.cells C 22)).alloc (.cells D 23)).alloc (.cells P5 25)) w.heap.size C 22 := ((at_new w C _).alloc _).alloc _
  have a4 : At (((w.alloc (.cells C 22)).alloc (.cells D 23)).alloc (.cells P5 25)) (w.heap.size + 1) D 23 := by
    have h := (at_new (w.alloc (.cells C 22)) D 23).alloc (.cells P5 25)
    simpa using h
  have a5 : At (((w.alloc (.cells C 22)).alloc (.cells D 23)).alloc (.cells P5 25)) (w.heap.size + 1 + 1) P5 25 := by
    have h := at_new ((w.alloc (.cells C 22)).alloc (.cells D 23)) P5 25
    simpa using h
  have ab : Below w.heap.size w (((w.alloc (.cells C 22)).alloc (.cells D 23)).alloc (.cells P5 25)) := (((Below.refl _ _).alloc (Nat.le_refl _) _).alloc (by simp) _).alloc (by simp; omega) _
  have AL := Lib.hid hal; have BL := Lib.hid hbl; have RB := Lib.hid hrb; have QU := Lib.hid hqu; have RQ := Lib.hid hrq; have EQ1 := Lib.hid e1; have EQ2 := Lib.hid e2; have CS := Lib.hid cs; have DS := Lib.hid ds; have QS := Lib.hid qs; have Q4' := Lib.hid hq4
  have C0 := Lib.hid c0; have C1 := Lib.hid c1; have C2 := Lib.hid c2; have C3 := Lib.hid c3; have C4 := Lib.hid c4; have A3 := Lib.hid a3; have A4 := Lib.hid a4; have A5 := Lib.hid a5; have AB := Lib.hid ab
  clear hal hbl hrb hqu hrq e1 e2 cs ds qs hq4 c0 c1 c2 c3 c4 a3 a4 a5 ab hM hC hD hQQ hQR hP5 hL lk ln
  go_enter Tryd.func3, Tryd.ntmps3
  go_upto_region 1 with fail
  generalize ((w.alloc (.cells C 22)).alloc (.cells D 23)).alloc (.cells P5 25) = w1 at *
  have c0 : w1.cell? ⟨w.heap.size + 1 + 1, 0, none⟩ = some (.int .u32 (V q.a)) := by rw [A5.out.cell]; exact C0.out
  have c1 : w1.cell? ⟨w.heap.size + 1 + 1, 1, none⟩ = some (.int .u32 (V q.b)) := by rw [A5.out.cell]; exact C1.out
  have c2 : w1.cell? ⟨w.heap.size + 1 + 1, 2, none⟩ = some (.int .u32 (V q.c)) := by rw [A5.out.cell]; exact C2.out
  have c3 : w1.cell? ⟨w.heap.size + 1 + 1, 3, none⟩ = some (.int .u32 (V q.d)) := by rw [A5.out.cell]; exact C3.out
  have D4 : (#[.int .u32 (V q.a), .int .u32 (V q.b), .int .u32 (V q.c), .int .u32 (V q.d)] : Array Value).all (·.oneCell') = true := u32s_one [q.a, q.b, q.c, q.d]
  have HD4 := Lib.hid D4
  clear D4
  go_wp2_with (refine wpList_store_new (by rfl) 26 _ _ (by rfl) (by rfl) (#[.int .u32 (V q.a), .int .u32 (V q.b), .int .u32 (V q.c), .int .u32 (V q.d)] : Array Value) _ _ (by rfl) (by rfl) (by exact infoQ) (by rfl) HD4.out ?_)
  rw [Q4'.out]
  clear c0 c1 c2 c3 hx
  have A7 := Lib.hid (at_new w1 QQ 26); have A3' := Lib.hid (A3.out.alloc (.cells QQ 26)); have A4' := Lib.hid (A4.out.alloc (.cells QQ 26)); have A5' := Lib.hid (A5.out.alloc (.cells QQ 26)); have WB := Lib.hid (AB.out.alloc AB.out.size (.cells QQ 26))
  clear A3 A4 A5 AB
  have A3 := A3'; have A4 := A4'; have A5 := A5'
  clear A3' A4' A5'
  generalize w1.alloc (.cells QQ 26) = w3 at *
  generalize w1.heap.size = b7 at *
  refine wp_region_plan (.take 0 (.take 1 (.take 2 (.take 3 (.take 5 (.take 6 (.take 7 (.take 8 (.sole 4 (.sole 9 (.take 10 (.take 11 (.take 12 (.take 14 (.sole 13 (.sole 15 (.take 16 (.take 17 (.take 18 (.sole 19 (.take 20 (.take 21 .done)))))))))))))))))))))) (by kernel_rfl) (by kernel_rfl) (by kernel_rfl) ?_
  have B : Hid (Below w3.heap.size w3 w3.drew) := (Below.refl _ _).drew
  generalize w3.drew = W at *
  refine plan_row 22 _ w.heap.size _ C 22 (by rfl) (by rfl) (by rfl) (by first | (with_reducible exact Mem.ev_const _ _) | (with_reducible exact Mem.ev_zero _ _ _) | (with_reducible (apply Eq.trans (Mem.ev_tmp _ _ _)); simp only [List.getD_cons_succ, List.getD_cons_zero] <;> rfl)) (fun w' hw' => A3.out.below hw' A3.out.lt) Tryd.underlying22 (by rfl) (by rw [CS.out]; exact info32b) ?_
  (simp only [Act.put, List.setIfInBounds_toArray, List.set_cons_zero, List.set_cons_succ])
  refine plan_row 23 _ (w.heap.size + 1) _ D 23 (by rfl) (by rfl) (by rfl) (by first | (with_reducible exact Mem.ev_const _ _) | (with_reducible exact Mem.ev_zero _ _ _) | (with_reducible (apply Eq.trans (Mem.ev_tmp _ _ _)); simp only [List.getD_cons_succ, List.getD_cons_zero] <;> rfl)) (fun w' hw' => A4.out.below hw' A4.out.lt) Tryd.underlying23 (by rfl) (by rw [DS.out]; exact info12) ?_
  (simp only [Act.put, List.setIfInBounds_toArray, List.set_cons_zero, List.set_cons_succ])
  refine plan_index_arr 25 24 5 _ _ (w.heap.size + 1 + 1) 0 1 4 (by rfl) (by rfl) (by rfl) (by first | (with_reducible exact Mem.ev_const _ _) | (with_reducible exact Mem.ev_zero _ _ _) | (with_reducible (apply Eq.trans (Mem.ev_tmp _ _ _)); simp only [List.getD_cons_succ, List.getD_cons_zero] <;> rfl)) (by rfl) (by omega) Tryd.underlying25 (by kernel_rfl) (by decide) ?_
  (simp only [Act.put, List.setIfInBounds_toArray, List.set_cons_zero, List.set_cons_succ])
  refine plan_cell 24 _ _ _ _ (by rfl) (by rfl) (by rfl) (by first | (with_reducible exact Mem.ev_const _ _) | (with_reducible exact Mem.ev_zero _ _ _) | (with_reducible (apply Eq.trans (Mem.ev_tmp _ _ _)); simp only [List.getD_cons_succ, List.getD_cons_zero] <;> rfl)) (fun w' hw' => ((A5.out.below hw' A5.out.lt).cell _).trans C4.out) Tryd.underlying24 (by rfl) ?_
  (simp only [Act.put, List.setIfInBounds_toArray, List.set_cons_zero, List.set_cons_succ])
  refine plan_row 22 _ w.heap.size _ C 22 (by rfl) (by rfl) (by rfl) (by first | (with_reducible exact Mem.ev_const _ _) | (with_reducible exact Mem.ev_zero _ _ _) | (with_reducible (apply Eq.trans (Mem.ev_tmp _ _ _)); simp only [List.getD_cons_succ, List.getD_cons_zero] <;> rfl)) (fun w' hw' => A3.out.below hw' A3.out.lt) Tryd.underlying22 (by rfl) (by rw [CS.out]; exact info32b) ?_
  (simp only [Act.put, List.setIfInBounds_toArray, List.set_cons_zero, List.set_cons_succ])
  refine plan_row 23 _ (w.heap.size + 1) _ D 23 (by rfl) (by rfl) (by rfl) (by first | (with_reducible exact Mem.ev_const _ _) | (with_reducible exact Mem.ev_zero _ _ _) | (with_reducible (apply Eq.trans (Mem.ev_tmp _ _ _)); simp only [List.getD_cons_succ, List.getD_cons_zero] <;> rfl)) (fun w' hw' => A4.out.below hw' A4.out.lt) Tryd.underlying23 (by rfl) (by rw [DS.out]; exact info12) ?_
  (simp only [Act.put, List.setIfInBounds_toArray, List.set_cons_zero, List.set_cons_succ])
  refine plan_index_arr 25 24 5 _ _ (w.heap.size + 1 + 1) 0 1 4 (by rfl) (by rfl) (by rfl) (by first | (with_reducible exact Mem.ev_const _ _) | (with_reducible exact Mem.ev_zero _ _ _) | (with_reducible (apply Eq.trans (Mem.ev_tmp _ _ _)); simp only [List.getD_cons_succ, List.getD_cons_zero] <;> rfl)) (by rfl) (by omega) Tryd.underlying25 (by kernel_rfl) (by decide) ?_
  (simp only [Act.put, List.setIfInBounds_toArray, List.set_cons_zero, List.set_cons_succ])
  refine plan_cell 24 _ _ _ _ (by rfl) (by rfl) (by rfl) (by first | (with_reducible exact Mem.ev_const _ _) | (with_reducible exact Mem.ev_zero _ _ _) | (with_reducible (apply Eq.trans (Mem.ev_tmp _ _ _)); simp only [List.getD_cons_succ, List.getD_cons_zero] <;> rfl)) (fun w' hw' => ((A5.out.below hw' A5.out.lt).cell _).trans C4.out) Tryd.underlying24 (by rfl) ?_
  (simp only [Act.put, List.setIfInBounds_toArray, List.set_cons_zero, List.set_cons_succ])
  refine plan_call 7 _ _ _ (by kernel_rfl) (by rfl) (by rfl) (by rfl) (by first | exact Mem.ev_none _ | (simp only [List.map_toArray, List.map_cons, List.map_nil, Mem.ev_tmp, List.getD_cons_succ, List.getD_cons_zero] <;> rfl)) ?_
  refine (BL.out _ (WB.out.trans (B.out.mono WB.out.size))).mono ?_
  rintro e W ⟨rfl, hbn⟩
  have B := Lib.hid (B.out.trans (hbn.mono B.out.size))
  clear hbn
  refine ⟨_, rfl, B.out, ?_⟩
  (simp only [Act.put, List.setIfInBounds_toArray, List.set_cons_zero, List.set_cons_succ])
  refine plan_call 8 _ _ _ (by kernel_rfl) (by rfl) (by rfl) (by rfl) (by first | exact Mem.ev_none _ | (simp only [List.map_toArray, List.map_cons, List.map_nil, Mem.ev_tmp, List.getD_cons_succ, List.getD_cons_zero] <;> rfl)) ?_
  refine (RB.out _).mono ?_
  rintro e W ⟨rfl, hbn⟩
  have B := Lib.hid (B.out.trans (hbn.mono B.out.size))
  clear hbn
  refine ⟨_, rfl, B.out, ?_⟩
  (simp only [Act.put, List.setIfInBounds_toArray, List.set_cons_zero, List.set_cons_succ])
  refine plan_bin _ _ _ _ _ _ _ _ (by rfl) (by rfl) (by rfl) (by first | (with_reducible exact Mem.ev_const _ _) | (with_reducible exact Mem.ev_zero _ _ _) | (with_reducible (apply Eq.trans (Mem.ev_tmp _ _ _)); simp only [List.getD_cons_succ, List.getD_cons_zero] <;> rfl)) (by first | (with_reducible exact Mem.ev_const _ _) | (with_reducible exact Mem.ev_zero _ _ _) | (with_reducible (apply Eq.trans (Mem.ev_tmp _ _ _)); simp only [List.getD_cons_succ, List.getD_cons_zero] <;> rfl)) (EQ1.out _ _) ?_
  (simp only [Act.put, List.setIfInBounds_toArray, List.set_cons_zero, List.set_cons_succ])
  (first | (refine plan_move _ _ (by rfl) (by rfl) (.inl (by rfl)) (by first | (with_reducible exact Mem.ev_const _ _) | (with_reducible exact Mem.ev_zero _ _ _) | (with_reducible (apply Eq.trans (Mem.ev_tmp _ _ _)); simp only [List.getD_cons_succ, List.getD_cons_zero] <;> rfl)) ?_) | (refine plan_move _ _ (by rfl) (by rfl) (.inr (by rfl)) (by first | (with_reducible exact Mem.ev_const _ _) | (with_reducible exact Mem.ev_zero _ _ _) | (with_reducible (apply Eq.trans (Mem.ev_tmp _ _ _)); simp only [List.getD_cons_succ, List.getD_cons_zero] <;> rfl)) ?_) | (refine plan_pick_t _ _ _ _ (by rfl) (by rfl) (by rfl) (by first | (with_reducible exact Mem.ev_const _ _) | (with_reducible exact Mem.ev_zero _ _ _) | (with_reducible (apply Eq.trans (Mem.ev_tmp _ _ _)); simp only [List.getD_cons_succ, List.getD_cons_zero] <;> rfl)) (by first | (with_reducible exact Mem.ev_const _ _) | (with_reducible exact Mem.ev_zero _ _ _) | (with_reducible (apply Eq.trans (Mem.ev_tmp _ _ _)); simp only [List.getD_cons_succ, List.getD_cons_zero] <;> rfl)) ?_) | (refine plan_pick_f _ _ _ _ (by rfl) (by rfl) (by rfl) (by first | (with_reducible exact Mem.ev_const _ _) | (with_reducible exact Mem.ev_zero _ _ _) | (with_reducible (apply Eq.trans (Mem.ev_tmp _ _ _)); simp only [List.getD_cons_succ, List.getD_cons_zero] <;> rfl)) (by first | (with_reducible exact Mem.ev_const _ _) | (with_reducible exact Mem.ev_zero _ _ _) | (with_reducible (apply Eq.trans (Mem.ev_tmp _ _ _)); simp only [List.getD_cons_succ, List.getD_cons_zero] <;> rfl)) ?_))
  (simp only [Act.put, List.setIfInBounds_toArray, List.set_cons_zero, List.set_cons_succ])
  refine plan_row 26 _ b7 _ QQ 26 (by rfl) (by rfl) (by rfl) (by first | (with_reducible exact Mem.ev_const _ _) | (with_reducible exact Mem.ev_zero _ _ _) | (with_reducible (apply Eq.trans (Mem.ev_tmp _ _ _)); simp only [List.getD_cons_succ, List.getD_cons_zero] <;> rfl)) (fun w' hw' => A7.out.below hw' A7.out.lt) Tryd.underlying26 (by rfl) (by rw [QS.out]; exact infoQ) ?_
  (simp only [Act.put, List.setIfInBounds_toArray, List.set_cons_zero, List.set_cons_succ])
  refine plan_row 26 _ b7 _ QQ 26 (by rfl) (by rfl) (by rfl) (by first | (with_reducible exact Mem.ev_const _ _) | (with_reducible exact Mem.ev_zero _ _ _) | (with_reducible (apply Eq.trans (Mem.ev_tmp _ _ _)); simp only [List.getD_cons_succ, List.getD_cons_zero] <;> rfl)) (fun w' hw' => A7.out.below hw' A7.out.lt) Tryd.underlying26 (by rfl) (by rw [QS.out]; exact infoQ) ?_
  (simp only [Act.put, List.setIfInBounds_toArray, List.set_cons_zero, List.set_cons_succ])
  refine plan_call 9 _ _ _ (by kernel_rfl) (by rfl) (by rfl) (by rfl) (by first | exact Mem.ev_none _ | (simp only [List.map_toArray, List.map_cons, List.map_nil, Mem.ev_tmp, List.getD_cons_succ, List.getD_cons_zero] <;> rfl)) ?_
  refine (QU.out _).mono ?_
  rintro e W ⟨rfl, hbn⟩
  have B := Lib.hid (B.out.trans (hbn.mono B.out.size))
  clear hbn
  refine ⟨_, rfl, B.out, ?_⟩
  (simp only [Act.put, List.setIfInBounds_toArray, List.set_cons_zero, List.set_cons_succ])
  refine plan_call 10 _ _ _ (by kernel_rfl) (by rfl) (by rfl) (by rfl) (by first | exact Mem.ev_none _ | (simp only [List.map_toArray, List.map_cons, List.map_nil, Mem.ev_tmp, List.getD_cons_succ, List.getD_cons_zero] <;> rfl)) ?_
  refine (RQ.out _).mono ?_
  rintro e W ⟨rfl, hbn⟩
  have B := Lib.hid (B.out.trans (hbn.mono B.out.size))
  clear hbn
  refine ⟨_, rfl, B.out, ?_⟩
  (simp only [Act.put, List.setIfInBounds_toArray, List.set_cons_zero, List.set_cons_succ])
  refine plan_bin _ _ _ _ _ _ _ _ (by rfl) (by rfl) (by rfl) (by first | (with_reducible exact Mem.ev_const _ _) | (with_reducible exact Mem.ev_zero _ _ _) | (with_reducible (apply Eq.trans (Mem.ev_tmp _ _ _)); simp only [List.getD_cons_succ, List.getD_cons_zero] <;> rfl)) (by first | (with_reducible exact Mem.ev_const _ _) | (with_reducible exact Mem.ev_zero _ _ _) | (with_reducible (apply Eq.trans (Mem.ev_tmp _ _ _)); simp only [List.getD_cons_succ, List.getD_cons_zero] <;> rfl)) (EQ2.out _ _) ?_
  (simp only [Act.put, List.setIfInBounds_toArray, List.set_cons_zero, List.set_cons_succ])
  (first | (refine plan_move _ _ (by rfl) (by rfl) (.inl (by rfl)) (by first | (with_reducible exact Mem.ev_const _ _) | (with_reducible exact Mem.ev_zero _ _ _) | (with_reducible (apply Eq.trans (Mem.ev_tmp _ _ _)); simp only [List.getD_cons_succ, List.getD_cons_zero] <;> rfl)) ?_) | (refine plan_move _ _ (by rfl) (by rfl) (.inr (by rfl)) (by first | (with_reducible exact Mem.ev_const _ _) | (with_reducible exact Mem.ev_zero _ _ _) | (with_reducible (apply Eq.trans (Mem.ev_tmp _ _ _)); simp only [List.getD_cons_succ, List.getD_cons_zero] <;> rfl)) ?_) | (refine plan_pick_t _ _ _ _ (by rfl) (by rfl) (by rfl) (by first | (with_reducible exact Mem.ev_const _ _) | (with_reducible exact Mem.ev_zero _ _ _) | (with_reducible (apply Eq.trans (Mem.ev_tmp _ _ _)); simp only [List.getD_cons_succ, List.getD_cons_zero] <;> rfl)) (by first | (with_reducible exact Mem.ev_const _ _) | (with_reducible exact Mem.ev_zero _ _ _) | (with_reducible (apply Eq.trans (Mem.ev_tmp _ _ _)); simp only [List.getD_cons_succ, List.getD_cons_zero] <;> rfl)) ?_) | (refine plan_pick_f _ _ _ _ (by rfl) (by rfl) (by rfl) (by first | (with_reducible exact Mem.ev_const _ _) | (with_reducible exact Mem.ev_zero _ _ _) | (with_reducible (apply Eq.trans (Mem.ev_tmp _ _ _)); simp only [List.getD_cons_succ, List.getD_cons_zero] <;> rfl)) (by first | (with_reducible exact Mem.ev_const _ _) | (with_reducible exact Mem.ev_zero _ _ _) | (with_reducible (apply Eq.trans (Mem.ev_tmp _ _ _)); simp only [List.getD_cons_succ, List.getD_cons_zero] <;> rfl)) ?_))
  (simp only [Act.put, List.setIfInBounds_toArray, List.set_cons_zero, List.set_cons_succ])
  (first | (refine plan_move _ _ (by rfl) (by rfl) (.inl (by rfl)) (by first | (with_reducible exact Mem.ev_const _ _) | (with_reducible exact Mem.ev_zero _ _ _) | (with_reducible (apply Eq.trans (Mem.ev_tmp _ _ _)); simp only [List.getD_cons_succ, List.getD_cons_zero] <;> rfl)) ?_) | (refine plan_move _ _ (by rfl) (by rfl) (.inr (by rfl)) (by first | (with_reducible exact Mem.ev_const _ _) | (with_reducible exact Mem.ev_zero _ _ _) | (with_reducible (apply Eq.trans (Mem.ev_tmp _ _ _)); simp only [List.getD_cons_succ, List.getD_cons_zero] <;> rfl)) ?_) | (refine plan_pick_t _ _ _ _ (by rfl) (by rfl) (by rfl) (by first | (with_reducible exact Mem.ev_const _ _) | (with_reducible exact Mem.ev_zero _ _ _) | (with_reducible (apply Eq.trans (Mem.ev_tmp _ _ _)); simp only [List.getD_cons_succ, List.getD_cons_zero] <;> rfl)) (by first | (with_reducible exact Mem.ev_const _ _) | (with_reducible exact Mem.ev_zero _ _ _) | (with_reducible (apply Eq.trans (Mem.ev_tmp _ _ _)); simp only [List.getD_cons_succ, List.getD_cons_zero] <;> rfl)) ?_) | (refine plan_pick_f _ _ _ _ (by rfl) (by rfl) (by rfl) (by first | (with_reducible exact Mem.ev_const _ _) | (with_reducible exact Mem.ev_zero _ _ _) | (with_reducible (apply Eq.trans (Mem.ev_tmp _ _ _)); simp only [List.getD_cons_succ, List.getD_cons_zero] <;> rfl)) (by first | (with_reducible exact Mem.ev_const _ _) | (with_reducible exact Mem.ev_zero _ _ _) | (with_reducible (apply Eq.trans (Mem.ev_tmp _ _ _)); simp only [List.getD_cons_succ, List.getD_cons_zero] <;> rfl)) ?_))
  (simp only [Act.put, List.setIfInBounds_toArray, List.set_cons_zero, List.set_cons_succ])
  refine plan_call 11 _ _ #[] (by kernel_rfl) (by rfl) (by rfl) (by rfl) (by first | exact Mem.ev_none _ | (simp only [List.map_toArray, List.map_cons, List.map_nil, Mem.ev_tmp, List.getD_cons_succ, List.getD_cons_zero] <;> rfl)) ?_
  refine (AL.out _ (WB.out.trans (B.out.mono WB.out.size))).mono ?_
  rintro e W ⟨rfl, hbn⟩
  have B := Lib.hid (B.out.trans (hbn.mono B.out.size))
  clear hbn
  refine ⟨_, rfl, B.out, ?_⟩
  (simp only [Act.put, List.setIfInBounds_toArray, List.set_cons_zero, List.set_cons_succ])
  (first | (refine plan_move _ _ (by rfl) (by rfl) (.inl (by rfl)) (by first | (with_reducible exact Mem.ev_const _ _) | (with_reducible exact Mem.ev_zero _ _ _) | (with_reducible (apply Eq.trans (Mem.ev_tmp _ _ _)); simp only [List.getD_cons_succ, List.getD_cons_zero] <;> rfl)) ?_) | (refine plan_move _ _ (by rfl) (by rfl) (.inr (by rfl)) (by first | (with_reducible exact Mem.ev_const _ _) | (with_reducible exact Mem.ev_zero _ _ _) | (with_reducible (apply Eq.trans (Mem.ev_tmp _ _ _)); simp only [List.getD_cons_succ, List.getD_cons_zero] <;> rfl)) ?_) | (refine plan_pick_t _ _ _ _ (by rfl) (by rfl) (by rfl) (by first | (with_reducible exact Mem.ev_const _ _) | (with_reducible exact Mem.ev_zero _ _ _) | (with_reducible (apply Eq.trans (Mem.ev_tmp _ _ _)); simp only [List.getD_cons_succ, List.getD_cons_zero] <;> rfl)) (by first | (with_reducible exact Mem.ev_const _ _) | (with_reducible exact Mem.ev_zero _ _ _) | (with_reducible (apply Eq.trans (Mem.ev_tmp _ _ _)); simp only [List.getD_cons_succ, List.getD_cons_zero] <;> rfl)) ?_) | (refine plan_pick_f _ _ _ _ (by rfl) (by rfl) (by rfl) (by first | (with_reducible exact Mem.ev_const _ _) | (with_reducible exact Mem.ev_zero _ _ _) | (with_reducible (apply Eq.trans (Mem.ev_tmp _ _ _)); simp only [List.getD_cons_succ, List.getD_cons_zero] <;> rfl)) (by first | (with_reducible exact Mem.ev_const _ _) | (with_reducible exact Mem.ev_zero _ _ _) | (with_reducible (apply Eq.trans (Mem.ev_tmp _ _ _)); simp only [List.getD_cons_succ, List.getD_cons_zero] <;> rfl)) ?_))
  (simp only [Act.put, List.setIfInBounds_toArray, List.set_cons_zero, List.set_cons_succ])
  (first | (refine plan_move _ _ (by rfl) (by rfl) (.inl (by rfl)) (by first | (with_reducible exact Mem.ev_const _ _) | (with_reducible exact Mem.ev_zero _ _ _) | (with_reducible (apply Eq.trans (Mem.ev_tmp _ _ _)); simp only [List.getD_cons_succ, List.getD_cons_zero] <;> rfl)) ?_) | (refine plan_move _ _ (by rfl) (by rfl) (.inr (by rfl)) (by first | (with_reducible exact Mem.ev_const _ _) | (with_reducible exact Mem.ev_zero _ _ _) | (with_reducible (apply Eq.trans (Mem.ev_tmp _ _ _)); simp only [List.getD_cons_succ, List.getD_cons_zero] <;> rfl)) ?_) | (refine plan_pick_t _ _ _ _ (by rfl) (by rfl) (by rfl) (by first | (with_reducible exact Mem.ev_const _ _) | (with_reducible exact Mem.ev_zero _ _ _) | (with_reducible (apply Eq.trans (Mem.ev_tmp _ _ _)); simp only [List.getD_cons_succ, List.getD_cons_zero] <;> rfl)) (by first | (with_reducible exact Mem.ev_const _ _) | (with_reducible exact Mem.ev_zero _ _ _) | (with_reducible (apply Eq.trans (Mem.ev_tmp _ _ _)); simp only [List.getD_cons_succ, List.getD_cons_zero] <;> rfl)) ?_) | (refine plan_pick_f _ _ _ _ (by rfl) (by rfl) (by rfl) (by first | (with_reducible exact Mem.ev_const _ _) | (with_reducible exact Mem.ev_zero _ _ _) | (with_reducible (apply Eq.trans (Mem.ev_tmp _ _ _)); simp only [List.getD_cons_succ, List.getD_cons_zero] <;> rfl)) (by first | (with_reducible exact Mem.ev_const _ _) | (with_reducible exact Mem.ev_zero _ _ _) | (with_reducible (apply Eq.trans (Mem.ev_tmp _ _ _)); simp only [List.getD_cons_succ, List.getD_cons_zero] <;> rfl)) ?_))
  (simp only [Act.put, List.setIfInBounds_toArray, List.set_cons_zero, List.set_cons_succ])
  refine plan_nil ?_
  go_wp2_with fail
  go_ret
  exact ⟨rfl, WB.out.trans (B.out.mono WB.out.size)⟩
end Sha
end Go.Proofs.YtikfhabcjjoloaaDoor
