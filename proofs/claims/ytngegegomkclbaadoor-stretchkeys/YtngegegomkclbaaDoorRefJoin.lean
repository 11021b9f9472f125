/- The document's Join: its walk. -/
import Derived.Test.YtngegegomkclbaaDoorStrJoin
import Derived.Test.YtngegegomkclbaaDoorPlanMore
namespace Go.Proofs.YtngegegomkclbaaDoor
namespace Sha
open Go.RowKit Mem
theorem o_xorb {P : Program} (t t2 : TypeId) (x y : Operand) (a b : BitVec 8) (w : World) : (do eqGuard .xor t x y (.int .u8 (B8 a)) (.int .u8 (B8 b)); binOp .xor t2 (.int .u8 (B8 a)) (.int .u8 (B8 b)) : Sem Value).run P w = .ok (.int .u8 (B8 (a ^^^ b))) w := by
  rw [← B8_xor]
  go_simp
/-- The first i bytes joined, the others 0. -/
def joinZ (a b : List (BitVec 8)) (i : Nat) : List (BitVec 8) := (joinB a b).take i ++ List.replicate (32 - i) 0
theorem joinZ_length (a b : List (BitVec 8)) (la : a.length = 32) (lb : b.length = 32) (i : Nat) (h : i ≤ 32) : (joinZ a b i).length = 32 := by
  simp [joinZ, joinB, la, lb]; omega
theorem joinZ_set (a b : List (BitVec 8)) (la : a.length = 32) (lb : b.length = 32) (i : Nat) (h : i < 32) : (joinZ a b i).set i (a.getD i 0 ^^^ b.getD i 0) = joinZ a b (i + 1) := by
  have hl := joinB_length a b (by rw [la, lb])
  unfold joinZ
  rw [joinB_next a b (by rw [la, lb]) i (by omega), List.set_append_right _ _ (by rw [List.length_take, hl]; omega), List.length_take, hl, Nat.min_eq_left (by omega), Nat.sub_self, show 32 - i = (32 - (i + 1)) + 1 by omega, List.replicate_succ, List.set_cons_zero, List.append_assoc]
  rfl
theorem joinZ_all (a b : List (BitVec 8)) (la : a.length = 32) (lb : b.length = 32) : joinZ a b 32 = joinB a b := by
  unfold joinZ
  rw [List.take_of_length_le (by rw [joinB_length a b (by rw [la, lb]), la]; omega)]
  simp
structure RJInv (C D : Array Value) (L : List (BitVec 8)) (B : Nat) (X : Array Value) (w wr : World) : Prop where
  c : At wr B C 25
  d : At wr (B + 1) D 25
  r : At wr (B + 1 + 1) X 25
  k : At wr (B + 1 + 1 + 1) (u8s L).toArray 25
  b : Below w.heap.size w wr
set_option maxRecDepth 100000 in
set_option maxHeartbeats 1000000 in
theorem rjoin_any (a b : List (BitVec 8)) (la : a.length = 32) (lb : b.length = 32) (w : World) :
    Calls Tryd.prog 27 #[.agg (u8s a).toArray, .agg (u8s b).toArray] w fun e w' => e = .returned (.agg (jnOf a b)) ∧ Below w.heap.size w w' := by
  obtain ⟨X, hX⟩ : ∃ X, X = Z32 := ⟨_, rfl⟩
  have hx := zero32
  rw [← hX] at hx
  have hXs : X.size = 32 := by rw [hX]; simp [Z32, u8s]
  obtain ⟨C, hC⟩ : ∃ C, C = (u8s a).toArray := ⟨_, rfl⟩
  obtain ⟨D, hD⟩ : ∃ D, D = (u8s b).toArray := ⟨_, rfl⟩
  rw [← hC, ← hD]
  have hI : RJInv C D (joinZ a b 0) w.heap.size X w ((((w.alloc (.cells C 25)).alloc (.cells D 25)).alloc (.cells X 25)).alloc (.cells X 25)) := by
    refine ⟨(((at_new w C _).alloc _).alloc _).alloc _, ?_, ?_, ?_, ((((Below.refl _ _).alloc (Nat.le_refl _) _).alloc (by simp) _).alloc (by simp; omega) _).alloc (by simp; omega) _⟩
    · have h := ((at_new (w.alloc (.cells C 25)) D 25).alloc (.cells X 25)).alloc (.cells X 25)
      simpa using h
    · have h := (at_new ((w.alloc (.cells C 25)).alloc (.cells D 25)) X 25).alloc (.cells X 25)
      simpa using h
    · have h := at_new (((w.alloc (.cells C 25)).alloc (.cells D 25)).alloc (.cells X 25)) X 25
      have e : (u8s (joinZ a b 0)).toArray = X := by rw [hX]; simp [joinZ, Z32]
      rw [e]
      simpa using h
  have HI := Lib.hid hI; have HC := Lib.hid hC; have HD := Lib.hid hD; have XS := Lib.hid hXs; have LA := Lib.hid la; have LB := Lib.hid lb
  clear hI hC hD hX hXs la lb
  go_enter Tryd.func27, Tryd.ntmps27
  go_wp2_with fail
  generalize (((w.alloc (.cells C 25)).alloc (.cells D 25)).alloc (.cells X 25)).alloc (.cells X 25) = w4 at *
  go_loopw [6] (fun i wr => ∃ j : Nat, j ≤ 32 ∧ i = .int .i64 j ∧ RJInv C D (joinZ a b j) w.heap.size X w wr) (fun i _ => 32 - (intOf i).toNat)
  case atStart => exact ⟨0, by omega, rfl, HI.out⟩
  case round =>
    clear HI
    obtain ⟨j, hj, rfl, hI⟩ := hrel
    by_cases hlt : j < 32
    · have hja : j < a.length := by rw [LA.out]; exact hlt
      have hjb : j < b.length := by rw [LB.out]; exact hlt
      obtain ⟨x, hxx⟩ : ∃ x, x = a.getD j 0 := ⟨_, rfl⟩
      obtain ⟨y, hyy⟩ : ∃ y, y = b.getD j 0 := ⟨_, rfl⟩
      have hset : (u8s (joinZ a b j)).toArray.setIfInBounds j (.int .u8 (B8 (x ^^^ y))) = (u8s (joinZ a b (j + 1))).toArray := by
        rw [← joinZ_set a b LA.out LB.out j hlt, ← hxx, ← hyy]; exact u8s_set _ _ _
      have cj : wr.cell? ⟨w.heap.size, j, none⟩ = some (.int .u8 (B8 x)) := by
        rw [hI.c.cell, HC.out, List.getElem?_toArray, u8s_get _ _ hja, hxx]; rfl
      have dj : wr.cell? ⟨w.heap.size + 1, j, none⟩ = some (.int .u8 (B8 y)) := by
        rw [hI.d.cell, HD.out, List.getElem?_toArray, u8s_get _ _ hjb, hyy]; rfl
      have hEs : j < (u8s (joinZ a b j)).toArray.size := by simp [u8s, joinZ_length a b LA.out LB.out j hj]; exact hlt
      obtain ⟨E, hE⟩ : ∃ E, E = (u8s (joinZ a b j)).toArray := ⟨_, rfl⟩
      have hk := hI.k
      rw [← hE] at hk hset hEs
      have KK := Lib.hid hk; have ST := Lib.hid hset; have ES := Lib.hid hEs; have II := Lib.hid hI; have CJ := Lib.hid cj; have DJ := Lib.hid dj
      have hlt' : (j : Int) < 32 := by omega
      clear hk hset hEs hI hE hxx hyy hja hjb cj dj
      go_wp2_with fail
      refine wp_region_plan_in (fun w' => w'.cell? ⟨w.heap.size, j, none⟩ = some (.int .u8 (B8 x)) ∧ w'.cell? ⟨w.heap.size + 1, j, none⟩ = some (.int .u8 (B8 y))) (.take 0 (.take 1 (.take 2 (.take 3 (.take 4 (.take 5 (.take 6 (.take 7 (.take 8 (.sole 9 .done)))))))))) (by kernel_rfl) (by kernel_rfl) (by kernel_rfl) ⟨CJ.out, DJ.out⟩ ?_
      (first | (refine plan_move _ _ (by rfl) (by rfl) (.inl (by rfl)) (by first | (with_reducible exact Mem.ev_const _ _) | (with_reducible exact Mem.ev_zero _ _ _) | (with_reducible (apply Eq.trans (Mem.ev_tmp _ _ _)); simp only [List.getD_cons_succ, List.getD_cons_zero] <;> rfl)) ?_) | (refine plan_move _ _ (by rfl) (by rfl) (.inr (by rfl)) (by first | (with_reducible exact Mem.ev_const _ _) | (with_reducible exact Mem.ev_zero _ _ _) | (with_reducible (apply Eq.trans (Mem.ev_tmp _ _ _)); simp only [List.getD_cons_succ, List.getD_cons_zero] <;> rfl)) ?_) | (refine plan_pick_t _ _ _ _ (by rfl) (by rfl) (by rfl) (by first | (with_reducible exact Mem.ev_const _ _) | (with_reducible exact Mem.ev_zero _ _ _) | (with_reducible (apply Eq.trans (Mem.ev_tmp _ _ _)); simp only [List.getD_cons_succ, List.getD_cons_zero] <;> rfl)) (by first | (with_reducible exact Mem.ev_const _ _) | (with_reducible exact Mem.ev_zero _ _ _) | (with_reducible (apply Eq.trans (Mem.ev_tmp _ _ _)); simp only [List.getD_cons_succ, List.getD_cons_zero] <;> rfl)) ?_) | (refine plan_pick_f _ _ _ _ (by rfl) (by rfl) (by rfl) (by first | (with_reducible exact Mem.ev_const _ _) | (with_reducible exact Mem.ev_zero _ _ _) | (with_reducible (apply Eq.trans (Mem.ev_tmp _ _ _)); simp only [List.getD_cons_succ, List.getD_cons_zero] <;> rfl)) (by first | (with_reducible exact Mem.ev_const _ _) | (with_reducible exact Mem.ev_zero _ _ _) | (with_reducible (apply Eq.trans (Mem.ev_tmp _ _ _)); simp only [List.getD_cons_succ, List.getD_cons_zero] <;> rfl)) ?_))
      (simp only [Act.put, List.setIfInBounds_toArray, List.set_cons_zero, List.set_cons_succ])
      (first | (refine plan_move _ _ (by rfl) (by rfl) (.inl (by rfl)) (by first | (with_reducible exact Mem.ev_const _ _) | (with_reducible exact Mem.ev_zero _ _ _) | (with_reducible (apply Eq.trans (Mem.ev_tmp _ _ _)); simp only [List.getD_cons_succ, List.getD_cons_zero] <;> rfl)) ?_) | (refine plan_move _ _ (by rfl) (by rfl) (.inr (by rfl)) (by first | (with_reducible exact Mem.ev_const _ _) | (with_reducible exact Mem.ev_zero _ _ _) | (with_reducible (apply Eq.trans (Mem.ev_tmp _ _ _)); simp only [List.getD_cons_succ, List.getD_cons_zero] <;> rfl)) ?_) | (refine plan_pick_t _ _ _ _ (by rfl) (by rfl) (by rfl) (by first | (with_reducible exact Mem.ev_const _ _) | (with_reducible exact Mem.ev_zero _ _ _) | (with_reducible (apply Eq.trans (Mem.ev_tmp _ _ _)); simp only [List.getD_cons_succ, List.getD_cons_zero] <;> rfl)) (by first | (with_reducible exact Mem.ev_const _ _) | (with_reducible exact Mem.ev_zero _ _ _) | (with_reducible (apply Eq.trans (Mem.ev_tmp _ _ _)); simp only [List.getD_cons_succ, List.getD_cons_zero] <;> rfl)) ?_) | (refine plan_pick_f _ _ _ _ (by rfl) (by rfl) (by rfl) (by first | (with_reducible exact Mem.ev_const _ _) | (with_reducible exact Mem.ev_zero _ _ _) | (with_reducible (apply Eq.trans (Mem.ev_tmp _ _ _)); simp only [List.getD_cons_succ, List.getD_cons_zero] <;> rfl)) (by first | (with_reducible exact Mem.ev_const _ _) | (with_reducible exact Mem.ev_zero _ _ _) | (with_reducible (apply Eq.trans (Mem.ev_tmp _ _ _)); simp only [List.getD_cons_succ, List.getD_cons_zero] <;> rfl)) ?_))
      (simp only [Act.put, List.setIfInBounds_toArray, List.set_cons_zero, List.set_cons_succ])
      refine plan_index_arr1 25 5 32 _ _ w.heap.size j (by rfl) (by rfl) (by rfl) (by first | (with_reducible exact Mem.ev_const _ _) | (with_reducible exact Mem.ev_zero _ _ _) | (with_reducible (apply Eq.trans (Mem.ev_tmp _ _ _)); simp only [List.getD_cons_succ, List.getD_cons_zero] <;> rfl)) (by first | (with_reducible exact Mem.ev_const _ _) | (with_reducible exact Mem.ev_zero _ _ _) | (with_reducible (apply Eq.trans (Mem.ev_tmp _ _ _)); simp only [List.getD_cons_succ, List.getD_cons_zero] <;> rfl)) hlt Tryd.underlying25 infoB ?_
      (simp only [Act.put, List.setIfInBounds_toArray, List.set_cons_zero, List.set_cons_succ])
      refine plan_cell 5 _ _ _ _ (by rfl) (by rfl) (by rfl) (by first | (with_reducible exact Mem.ev_const _ _) | (with_reducible exact Mem.ev_zero _ _ _) | (with_reducible (apply Eq.trans (Mem.ev_tmp _ _ _)); simp only [List.getD_cons_succ, List.getD_cons_zero] <;> rfl)) (fun w' hw' => hw'.1) Tryd.underlying5 (by rfl) ?_
      (simp only [Act.put, List.setIfInBounds_toArray, List.set_cons_zero, List.set_cons_succ])
      (first | (refine plan_move _ _ (by rfl) (by rfl) (.inl (by rfl)) (by first | (with_reducible exact Mem.ev_const _ _) | (with_reducible exact Mem.ev_zero _ _ _) | (with_reducible (apply Eq.trans (Mem.ev_tmp _ _ _)); simp only [List.getD_cons_succ, List.getD_cons_zero] <;> rfl)) ?_) | (refine plan_move _ _ (by rfl) (by rfl) (.inr (by rfl)) (by first | (with_reducible exact Mem.ev_const _ _) | (with_reducible exact Mem.ev_zero _ _ _) | (with_reducible (apply Eq.trans (Mem.ev_tmp _ _ _)); simp only [List.getD_cons_succ, List.getD_cons_zero] <;> rfl)) ?_) | (refine plan_pick_t _ _ _ _ (by rfl) (by rfl) (by rfl) (by first | (with_reducible exact Mem.ev_const _ _) | (with_reducible exact Mem.ev_zero _ _ _) | (with_reducible (apply Eq.trans (Mem.ev_tmp _ _ _)); simp only [List.getD_cons_succ, List.getD_cons_zero] <;> rfl)) (by first | (with_reducible exact Mem.ev_const _ _) | (with_reducible exact Mem.ev_zero _ _ _) | (with_reducible (apply Eq.trans (Mem.ev_tmp _ _ _)); simp only [List.getD_cons_succ, List.getD_cons_zero] <;> rfl)) ?_) | (refine plan_pick_f _ _ _ _ (by rfl) (by rfl) (by rfl) (by first | (with_reducible exact Mem.ev_const _ _) | (with_reducible exact Mem.ev_zero _ _ _) | (with_reducible (apply Eq.trans (Mem.ev_tmp _ _ _)); simp only [List.getD_cons_succ, List.getD_cons_zero] <;> rfl)) (by first | (with_reducible exact Mem.ev_const _ _) | (with_reducible exact Mem.ev_zero _ _ _) | (with_reducible (apply Eq.trans (Mem.ev_tmp _ _ _)); simp only [List.getD_cons_succ, List.getD_cons_zero] <;> rfl)) ?_))
      (simp only [Act.put, List.setIfInBounds_toArray, List.set_cons_zero, List.set_cons_succ])
      refine plan_index_arr1 25 5 32 _ _ (w.heap.size + 1) j (by rfl) (by rfl) (by rfl) (by first | (with_reducible exact Mem.ev_const _ _) | (with_reducible exact Mem.ev_zero _ _ _) | (with_reducible (apply Eq.trans (Mem.ev_tmp _ _ _)); simp only [List.getD_cons_succ, List.getD_cons_zero] <;> rfl)) (by first | (with_reducible exact Mem.ev_const _ _) | (with_reducible exact Mem.ev_zero _ _ _) | (with_reducible (apply Eq.trans (Mem.ev_tmp _ _ _)); simp only [List.getD_cons_succ, List.getD_cons_zero] <;> rfl)) hlt Tryd.underlying25 infoB ?_
      (simp only [Act.put, List.setIfInBounds_toArray, List.set_cons_zero, List.set_cons_succ])
      refine plan_cell 5 _ _ _ _ (by rfl) (by rfl) (by rfl) (by first | (with_reducible exact Mem.ev_const _ _) | (with_reducible exact Mem.ev_zero _ _ _) | (with_reducible (apply Eq.trans (Mem.ev_tmp _ _ _)); simp only [List.getD_cons_succ, List.getD_cons_zero] <;> rfl)) (fun w' hw' => hw'.2) Tryd.underlying5 (by rfl) ?_
      (simp only [Act.put, List.setIfInBounds_toArray, List.set_cons_zero, List.set_cons_succ])
      refine plan_bin _ _ _ _ _ _ _ _ (by rfl) (by rfl) (by rfl) (by first | (with_reducible exact Mem.ev_const _ _) | (with_reducible exact Mem.ev_zero _ _ _) | (with_reducible (apply Eq.trans (Mem.ev_tmp _ _ _)); simp only [List.getD_cons_succ, List.getD_cons_zero] <;> rfl)) (by first | (with_reducible exact Mem.ev_const _ _) | (with_reducible exact Mem.ev_zero _ _ _) | (with_reducible (apply Eq.trans (Mem.ev_tmp _ _ _)); simp only [List.getD_cons_succ, List.getD_cons_zero] <;> rfl)) (fun wx => o_xorb _ _ _ _ _ _ wx) ?_
      (simp only [Act.put, List.setIfInBounds_toArray, List.set_cons_zero, List.set_cons_succ])
      refine plan_index_arr1 25 5 32 _ _ (w.heap.size + 1 + 1 + 1) j (by rfl) (by rfl) (by rfl) (by first | (with_reducible exact Mem.ev_const _ _) | (with_reducible exact Mem.ev_zero _ _ _) | (with_reducible (apply Eq.trans (Mem.ev_tmp _ _ _)); simp only [List.getD_cons_succ, List.getD_cons_zero] <;> rfl)) (by first | (with_reducible exact Mem.ev_const _ _) | (with_reducible exact Mem.ev_zero _ _ _) | (with_reducible (apply Eq.trans (Mem.ev_tmp _ _ _)); simp only [List.getD_cons_succ, List.getD_cons_zero] <;> rfl)) hlt Tryd.underlying25 infoB ?_
      (simp only [Act.put, List.setIfInBounds_toArray, List.set_cons_zero, List.set_cons_succ])
      have c2 : (wr.drew.setCell ⟨w.heap.size + 1 + 1 + 1, j, none⟩ (.int .u8 (B8 (x ^^^ y)))).cell? ⟨w.heap.size, j, none⟩ = some (.int .u8 (B8 x)) := by
        rw [World.cell?_of_block (w := wr.drew) (heap_setCell_other wr.drew _ _ _ (by simp only; omega))]; exact CJ.out
      have d2 : (wr.drew.setCell ⟨w.heap.size + 1 + 1 + 1, j, none⟩ (.int .u8 (B8 (x ^^^ y)))).cell? ⟨w.heap.size + 1, j, none⟩ = some (.int .u8 (B8 y)) := by
        rw [World.cell?_of_block (w := wr.drew) (heap_setCell_other wr.drew _ _ _ (by simp only; omega))]; exact DJ.out
      refine plan_store_one 5 _ _ (w.heap.size + 1 + 1 + 1) j (.int .u8 (B8 (x ^^^ y))) E 25 (by rfl) (by rfl) (by rfl) (by rfl) (by first | (with_reducible exact Mem.ev_const _ _) | (with_reducible exact Mem.ev_zero _ _ _) | (with_reducible (apply Eq.trans (Mem.ev_tmp _ _ _)); simp only [List.getD_cons_succ, List.getD_cons_zero] <;> rfl)) (by first | (with_reducible exact Mem.ev_const _ _) | (with_reducible exact Mem.ev_zero _ _ _) | (with_reducible (apply Eq.trans (Mem.ev_tmp _ _ _)); simp only [List.getD_cons_succ, List.getD_cons_zero] <;> rfl)) (by rfl) infoB KK.out ES.out ⟨c2, d2⟩ ?_
      refine plan_nil ?_
      have I2 : Hid (RJInv C D (joinZ a b (j + 1)) w.heap.size X w (wr.drew.setCell ⟨w.heap.size + 1 + 1 + 1, j, none⟩ (.int .u8 (B8 (x ^^^ y))))) :=
        ⟨(show At wr.drew _ _ _ from II.out.c).set_other _ _ (by simp only; omega), (show At wr.drew _ _ _ from II.out.d).set_other _ _ (by simp only; omega), (show At wr.drew _ _ _ from II.out.r).set_other _ _ (by simp only; omega), by rw [← ST.out]; exact (show At wr.drew _ _ _ from KK.out).set j _, II.out.b.drew.setCell (by simp only; omega) _⟩
      clear c2 d2
      generalize wr.drew.setCell _ _ = w5 at *
      go_wp2_with fail
      go_roundw
      case rel => exact ⟨j + 1, by omega, by go_num, I2.out⟩
      case measure => simp [intOf]; omega
    · have hj32 : j = 32 := by omega
      have hall : joinZ a b j = joinB a b := by rw [hj32]; exact joinZ_all a b LA.out LB.out
      rw [hall] at hI
      have hge : ¬ (j : Int) < 32 := by omega
      obtain ⟨M, hM⟩ : ∃ M, M = jnOf a b := ⟨_, rfl⟩
      have hk := hI.k
      rw [show (u8s (joinB a b)).toArray = M from hM.symm] at hk
      have hMs : M.size = 32 := by rw [hM]; simp [jnOf, u8s, joinB_length a b (by rw [LA.out, LB.out]), LA.out]
      have hMo : M.all (·.oneCell') = true := by rw [hM]; exact u8s_one _
      have HM := Lib.hid hM; have MS := Lib.hid hMs; have MO := Lib.hid hMo; have KK := Lib.hid hk; have RR := Lib.hid hI.r; have BB := Lib.hid hI.b
      clear hM hMs hMo hk hI hall hj32 hlt hj
      go_wp2_with (first | (refine wpList_load_all (by rfl) 25 _ (by rfl) (w.heap.size + 1 + 1 + 1) (by rfl) _ Tryd.underlying25 (by rfl) M _ KK.out (by rw [MS.out]; exact info32) ?_) | (refine wpList_store_all (by rfl) 25 _ _ (by rfl) (by rfl) (w.heap.size + 1 + 1) M (by rfl) (by rfl) (by rw [MS.out]; exact info32) _ _ RR.out (by rw [MS.out, XS.out]) MO.out ?_))
      try simp only [Exit.inBlock, Exit.then]
      refine ret_row (by rfl) (w.heap.size + 1 + 1) 25 M _ (by rfl) (RR.out.row M) Tryd.underlying25 (by rfl) (by rw [MS.out]; exact info32) ?_
      exact ⟨by rw [HM.out], below_row BB.out (by omega) M⟩
end Sha
end Go.Proofs.YtngegegomkclbaaDoor
