/- The document's turning of bytes: its walk. -/
import Derived.Test.YtikfhabcjjoloaaDoorCipRStream
import Derived.Test.YtikfhabcjjoloaaDoorCipTurned
namespace Go.Proofs.YtikfhabcjjoloaaDoor
namespace Mem
open Go.RowKit
/-- One element of an own slice set. -/
theorem OwnV.set {w : World} {B : Nat} {e : TypeId} {v : Value} {xs : List Value} (h : OwnV w B e v xs) (i : Nat) (u : Value) (hi : i < xs.length) :
    ∃ g cap C, v = .slice (some ⟨g, 0, none⟩) xs.length cap ∧ B ≤ g ∧ At w g C e ∧ i < C.size ∧ ∀ w', At w' g (C.setIfInBounds i u) e → OwnV w' B e v (xs.set i u) := by
  obtain ⟨_, h | ⟨g, cap, cur, rfl, hg, hh, hn, hc, hs, ht⟩⟩ := h
  · obtain ⟨_, h0⟩ := h
    omega
  · refine ⟨g, cap, cur, rfl, hg, hh, by rw [hs]; omega, fun w' hw' => ⟨by simp, .inr ⟨g, cap, cur.setIfInBounds i u, by rw [List.length_set], hg, hw', by rw [List.length_set]; exact hn, hc, by rw [Array.size_setIfInBounds]; exact hs, ?_⟩⟩⟩
    rw [List.length_set, Array.toList_setIfInBounds, List.take_set, ht]
end Mem
namespace Sha
open Go.RowKit Mem
structure RTInv (L : List (BitVec 8)) (v : Value) (hs : Nat) (w wr : World) : Prop where
  o : OwnB wr hs v L
  b : Below hs w wr
set_option maxRecDepth 100000 in
set_option maxHeartbeats 2000000 in
theorem rturned_any (key nonce : List (BitVec 8)) (n : BitVec 32) (l : List (BitVec 8)) (v : Value) (lk : key.length = 32) (ln : nonce.length = 12) (hz : l.length ≤ 1048576) (w : World) (hv : Sl w v l) :
    Calls Tryd.prog 15 #[.agg (u8s key).toArray, .agg (u8s nonce).toArray, .int .u32 (V n), v] w (RSEnd w (cturn l (cstream key nonce n l.length))) := by
  have hst := fun wx => rstream_good key nonce n l.length lk ln hz wx
  obtain ⟨s, hs⟩ : ∃ s, s = cstream key nonce n l.length := ⟨_, rfl⟩
  have ls : s.length = l.length := by rw [hs]; exact cstream_length _ _ _ _
  rw [← hs] at hst ⊢
  rw [cturn_joinB l s ls.symm]
  have hv0 := hv
  obtain ⟨a0, cap, rfl, _, _⟩ := hv
  have jl := joinTo_length l s ls.symm
  have jz := joinTo_zero l s
  have ja := joinTo_all l s ls.symm
  have js := fun j hj => joinTo_set l s ls.symm j hj
  obtain ⟨m, hm⟩ : ∃ m, m = l.length := ⟨_, rfl⟩
  rw [← hm] at hst jl ja js ls hz hv0 ⊢
  have hmin : min (m : Int) 1048576 = (m : Int) := by omega
  have hmle : (m : Int) ≤ 1048576 := by omega
  have hmlt : ¬ (1048576 : Int) < (m : Int) := by omega
  obtain ⟨C, hC⟩ : ∃ C, C = (u8s key).toArray := ⟨_, rfl⟩
  obtain ⟨D, hD⟩ : ∃ D, D = (u8s nonce).toArray := ⟨_, rfl⟩
  have hCs : C.size = 32 := by rw [hC]; simp [u8s, lk]
  have hDs : D.size = 12 := by rw [hD]; simp [u8s, ln]
  rw [← hC, ← hD] at hst
  rw [← hC, ← hD]
  have aC : At ((w.alloc (.cells C 22)).alloc (.cells D 23)) w.heap.size C 22 := (at_new w C _).alloc _
  have aD : At ((w.alloc (.cells C 22)).alloc (.cells D 23)) (w.heap.size + 1) D 23 := by
    have h := at_new (w.alloc (.cells C 22)) D 23
    simpa using h
  have aB : Below w.heap.size w ((w.alloc (.cells C 22)).alloc (.cells D 23)) := ((Below.refl _ _).alloc (Nat.le_refl _) _).alloc (by simp) _
  have ST := Lib.hid hst; have CS := Lib.hid hCs; have DS := Lib.hid hDs; have AC := Lib.hid aC; have AD := Lib.hid aD; have AB := Lib.hid aB; have HV := Lib.hid hv0
  have JL := Lib.hid jl; have JZ := Lib.hid jz; have JA := Lib.hid ja; have JS := Lib.hid js; have LS := Lib.hid ls; have HM := Lib.hid hm
  clear hst hCs hDs aC aD aB hC hD lk ln hv0 jl jz ja js ls hm hs
  go_enter Tryd.func15, Tryd.ntmps15
  go_wp2_with (first
    | (refine wpList_load_all (by rfl) 22 _ (by rfl) w.heap.size (by rfl) _ Tryd.underlying22 (by rfl) C _ AC.out (by rw [CS.out]; exact info32b) ?_)
    | (refine wpList_load_all (by rfl) 23 _ (by rfl) (w.heap.size + 1) (by rfl) _ Tryd.underlying23 (by rfl) D _ AD.out (by rw [DS.out]; exact info12) ?_))
  refine (ST.out _).mono ?_
  rintro e w4 ⟨vs, rfl, hs4, hb4⟩
  have B4 := Lib.hid (AB.out.trans (hb4.mono AB.out.size)); have HV4 := Lib.hid (HV.out.below (AB.out.trans (hb4.mono AB.out.size)))
  have HS4 := hs4
  obtain ⟨a2, c2, rfl, _, _⟩ := hs4
  rw [LS.out] at HS4 ⊢
  have HS4' := Lib.hid HS4
  clear hb4 HS4 AC AD AB HV ST
  go_wp2_with (first | (at_builtin; refine wpList_append_bytes (by rfl) _ _ (by rfl) w4.heap.size (.slice none 0 0) (.slice a0 m cap) [] l (by rfl) (OwnB.nil _ _) (by rfl) HV4.out (by rw [List.length_nil, ← HM.out]; omega) (Nat.le_refl _) ?_; intro v5 w5 ho5 _ hb5; have O5 : Hid (OwnB w5 w4.heap.size v5 (joinTo l s 0)) := (by rw [JZ.out]; exact ho5); have B5 := Lib.hid hb5; clear ho5 hb5))
  have I5 : Hid (RTInv (joinTo l s 0) v5 w4.heap.size w4 w5) := ⟨O5.out, B5.out⟩
  obtain ⟨hs4, hhs⟩ : ∃ h, h = w4.heap.size := ⟨_, rfl⟩
  have HB4 : Hid (w.heap.size ≤ hs4) := by rw [hhs]; exact B4.out.size
  have HSZ := Lib.hid hhs
  rw [← hhs] at I5
  clear O5 B5 hhs
  go_loopw [11] (fun i wr => ∃ j : Nat, j ≤ m ∧ i = .int .i64 j ∧ RTInv (joinTo l s j) v5 hs4 w4 wr) (fun i _ => m - (intOf i).toNat)
  case atStart => exact ⟨0, by omega, rfl, I5.out⟩
  case round =>
    clear I5
    obtain ⟨j, hj, rfl, hI⟩ := hrel
    by_cases hlt : j < m
    · obtain ⟨x, hxx⟩ : ∃ x, x = l.getD j 0 := ⟨_, rfl⟩
      obtain ⟨y, hyy⟩ : ∃ y, y = s.getD j 0 := ⟨_, rfl⟩
      have hv4 := HV4.out
      have hs5 := HS4'.out
      rw [HM.out] at hv4
      obtain ⟨b1, o1, hb1, cx⟩ := sl_at (i := j) hv4 (by rw [← HM.out]; exact hlt)
      rw [← LS.out] at hs5
      obtain ⟨b2, o2, hb2, cy⟩ := sl_at (i := j) hs5 (by rw [LS.out]; exact hlt)
      rw [hb1, hb2]
      rw [← hxx] at cx
      rw [← hyy] at cy
      have l1 : b1 < hs4 := by rw [HSZ.out]; exact block_lt_of_cell cx
      have l2 : b2 < hs4 := by rw [HSZ.out]; exact block_lt_of_cell cy
      have hset : (u8s (joinTo l s j)).set (0 + j) (.int .u8 (B8 (x ^^^ y))) = u8s (joinTo l s (j + 1)) := by
        rw [← JS.out j hlt, Nat.zero_add, ← hxx, ← hyy]; simp [u8s, List.map_set]; rfl
      obtain ⟨g, co, E, hv5, hg, hE, hEs, hnew⟩ := OwnV.set (ownB_V hI.o) (0 + j) (.int .u8 (B8 (x ^^^ y))) (by rw [u8s_length, JL.out]; omega)
      rw [hset] at hnew
      rw [u8s_length, JL.out] at hv5
      rw [hv5] at hnew ⊢
      have KK := Lib.hid hE; have ES := Lib.hid hEs; have NW := Lib.hid hnew; have BB := Lib.hid hI.b; have C1 := Lib.hid cx; have C2 := Lib.hid cy; have L1 := Lib.hid l1; have L2 := Lib.hid l2; have HG := Lib.hid hg; have HV5 := Lib.hid hv5
      have hlt' : (j : Int) < (m : Int) := by omega
      clear hI hE hEs hnew cx cy l1 l2 hg hset hxx hyy hv4 hs5 hb1 hb2 hv5
      go_wp2_with fail
      refine wp_region_plan_in (fun w' => Below hs4 w4 w') ((.take 0 (.take 1 (.take 2 (.take 3 (.take 4 (.take 5 (.take 6 (.take 7 (.take 8 (.take 9 (.take 10 (.take 11 (.sole 12 .done)))))))))))))) (by kernel_rfl) (by kernel_rfl) (by kernel_rfl) BB.out.drew ?_
      (first | (refine plan_move _ _ (by rfl) (by rfl) (.inl (by rfl)) (by first | (with_reducible exact Mem.ev_const _ _) | (with_reducible exact Mem.ev_zero _ _ _) | (with_reducible (apply Eq.trans (Mem.ev_tmp _ _ _)); simp only [List.getD_cons_succ, List.getD_cons_zero] <;> rfl)) ?_) | (refine plan_move _ _ (by rfl) (by rfl) (.inr (by rfl)) (by first | (with_reducible exact Mem.ev_const _ _) | (with_reducible exact Mem.ev_zero _ _ _) | (with_reducible (apply Eq.trans (Mem.ev_tmp _ _ _)); simp only [List.getD_cons_succ, List.getD_cons_zero] <;> rfl)) ?_) | (refine plan_pick_t _ _ _ _ (by rfl) (by rfl) (by rfl) (by first | (with_reducible exact Mem.ev_const _ _) | (with_reducible exact Mem.ev_zero _ _ _) | (with_reducible (apply Eq.trans (Mem.ev_tmp _ _ _)); simp only [List.getD_cons_succ, List.getD_cons_zero] <;> rfl)) (by first | (with_reducible exact Mem.ev_const _ _) | (with_reducible exact Mem.ev_zero _ _ _) | (with_reducible (apply Eq.trans (Mem.ev_tmp _ _ _)); simp only [List.getD_cons_succ, List.getD_cons_zero] <;> rfl)) ?_) | (refine plan_pick_f _ _ _ _ (by rfl) (by rfl) (by rfl) (by first | (with_reducible exact Mem.ev_const _ _) | (with_reducible exact Mem.ev_zero _ _ _) | (with_reducible (apply Eq.trans (Mem.ev_tmp _ _ _)); simp only [List.getD_cons_succ, List.getD_cons_zero] <;> rfl)) (by first | (with_reducible exact Mem.ev_const _ _) | (with_reducible exact Mem.ev_zero _ _ _) | (with_reducible (apply Eq.trans (Mem.ev_tmp _ _ _)); simp only [List.getD_cons_succ, List.getD_cons_zero] <;> rfl)) ?_))
      (simp only [Act.put, List.setIfInBounds_toArray, List.set_cons_zero, List.set_cons_succ])
      (first | (refine plan_move _ _ (by rfl) (by rfl) (.inl (by rfl)) (by first | (with_reducible exact Mem.ev_const _ _) | (with_reducible exact Mem.ev_zero _ _ _) | (with_reducible (apply Eq.trans (Mem.ev_tmp _ _ _)); simp only [List.getD_cons_succ, List.getD_cons_zero] <;> rfl)) ?_) | (refine plan_move _ _ (by rfl) (by rfl) (.inr (by rfl)) (by first | (with_reducible exact Mem.ev_const _ _) | (with_reducible exact Mem.ev_zero _ _ _) | (with_reducible (apply Eq.trans (Mem.ev_tmp _ _ _)); simp only [List.getD_cons_succ, List.getD_cons_zero] <;> rfl)) ?_) | (refine plan_pick_t _ _ _ _ (by rfl) (by rfl) (by rfl) (by first | (with_reducible exact Mem.ev_const _ _) | (with_reducible exact Mem.ev_zero _ _ _) | (with_reducible (apply Eq.trans (Mem.ev_tmp _ _ _)); simp only [List.getD_cons_succ, List.getD_cons_zero] <;> rfl)) (by first | (with_reducible exact Mem.ev_const _ _) | (with_reducible exact Mem.ev_zero _ _ _) | (with_reducible (apply Eq.trans (Mem.ev_tmp _ _ _)); simp only [List.getD_cons_succ, List.getD_cons_zero] <;> rfl)) ?_) | (refine plan_pick_f _ _ _ _ (by rfl) (by rfl) (by rfl) (by first | (with_reducible exact Mem.ev_const _ _) | (with_reducible exact Mem.ev_zero _ _ _) | (with_reducible (apply Eq.trans (Mem.ev_tmp _ _ _)); simp only [List.getD_cons_succ, List.getD_cons_zero] <;> rfl)) (by first | (with_reducible exact Mem.ev_const _ _) | (with_reducible exact Mem.ev_zero _ _ _) | (with_reducible (apply Eq.trans (Mem.ev_tmp _ _ _)); simp only [List.getD_cons_succ, List.getD_cons_zero] <;> rfl)) ?_))
      (simp only [Act.put, List.setIfInBounds_toArray, List.set_cons_zero, List.set_cons_succ])
      (first | (refine plan_move _ _ (by rfl) (by rfl) (.inl (by rfl)) (by first | (with_reducible exact Mem.ev_const _ _) | (with_reducible exact Mem.ev_zero _ _ _) | (with_reducible (apply Eq.trans (Mem.ev_tmp _ _ _)); simp only [List.getD_cons_succ, List.getD_cons_zero] <;> rfl)) ?_) | (refine plan_move _ _ (by rfl) (by rfl) (.inr (by rfl)) (by first | (with_reducible exact Mem.ev_const _ _) | (with_reducible exact Mem.ev_zero _ _ _) | (with_reducible (apply Eq.trans (Mem.ev_tmp _ _ _)); simp only [List.getD_cons_succ, List.getD_cons_zero] <;> rfl)) ?_) | (refine plan_pick_t _ _ _ _ (by rfl) (by rfl) (by rfl) (by first | (with_reducible exact Mem.ev_const _ _) | (with_reducible exact Mem.ev_zero _ _ _) | (with_reducible (apply Eq.trans (Mem.ev_tmp _ _ _)); simp only [List.getD_cons_succ, List.getD_cons_zero] <;> rfl)) (by first | (with_reducible exact Mem.ev_const _ _) | (with_reducible exact Mem.ev_zero _ _ _) | (with_reducible (apply Eq.trans (Mem.ev_tmp _ _ _)); simp only [List.getD_cons_succ, List.getD_cons_zero] <;> rfl)) ?_) | (refine plan_pick_f _ _ _ _ (by rfl) (by rfl) (by rfl) (by first | (with_reducible exact Mem.ev_const _ _) | (with_reducible exact Mem.ev_zero _ _ _) | (with_reducible (apply Eq.trans (Mem.ev_tmp _ _ _)); simp only [List.getD_cons_succ, List.getD_cons_zero] <;> rfl)) (by first | (with_reducible exact Mem.ev_const _ _) | (with_reducible exact Mem.ev_zero _ _ _) | (with_reducible (apply Eq.trans (Mem.ev_tmp _ _ _)); simp only [List.getD_cons_succ, List.getD_cons_zero] <;> rfl)) ?_))
      (simp only [Act.put, List.setIfInBounds_toArray, List.set_cons_zero, List.set_cons_succ])
      (first | (refine plan_move _ _ (by rfl) (by rfl) (.inl (by rfl)) (by first | (with_reducible exact Mem.ev_const _ _) | (with_reducible exact Mem.ev_zero _ _ _) | (with_reducible (apply Eq.trans (Mem.ev_tmp _ _ _)); simp only [List.getD_cons_succ, List.getD_cons_zero] <;> rfl)) ?_) | (refine plan_move _ _ (by rfl) (by rfl) (.inr (by rfl)) (by first | (with_reducible exact Mem.ev_const _ _) | (with_reducible exact Mem.ev_zero _ _ _) | (with_reducible (apply Eq.trans (Mem.ev_tmp _ _ _)); simp only [List.getD_cons_succ, List.getD_cons_zero] <;> rfl)) ?_) | (refine plan_pick_t _ _ _ _ (by rfl) (by rfl) (by rfl) (by first | (with_reducible exact Mem.ev_const _ _) | (with_reducible exact Mem.ev_zero _ _ _) | (with_reducible (apply Eq.trans (Mem.ev_tmp _ _ _)); simp only [List.getD_cons_succ, List.getD_cons_zero] <;> rfl)) (by first | (with_reducible exact Mem.ev_const _ _) | (with_reducible exact Mem.ev_zero _ _ _) | (with_reducible (apply Eq.trans (Mem.ev_tmp _ _ _)); simp only [List.getD_cons_succ, List.getD_cons_zero] <;> rfl)) ?_) | (refine plan_pick_f _ _ _ _ (by rfl) (by rfl) (by rfl) (by first | (with_reducible exact Mem.ev_const _ _) | (with_reducible exact Mem.ev_zero _ _ _) | (with_reducible (apply Eq.trans (Mem.ev_tmp _ _ _)); simp only [List.getD_cons_succ, List.getD_cons_zero] <;> rfl)) (by first | (with_reducible exact Mem.ev_const _ _) | (with_reducible exact Mem.ev_zero _ _ _) | (with_reducible (apply Eq.trans (Mem.ev_tmp _ _ _)); simp only [List.getD_cons_succ, List.getD_cons_zero] <;> rfl)) ?_))
      (simp only [Act.put, List.setIfInBounds_toArray, List.set_cons_zero, List.set_cons_succ])
      refine plan_index 34 5 _ _ b1 o1 m cap j (by rfl) (by rfl) (by rfl) (by first | (with_reducible exact Mem.ev_const _ _) | (with_reducible exact Mem.ev_zero _ _ _) | (with_reducible (apply Eq.trans (Mem.ev_tmp _ _ _)); simp only [List.getD_cons_succ, List.getD_cons_zero] <;> rfl)) (by first | (with_reducible exact Mem.ev_const _ _) | (with_reducible exact Mem.ev_zero _ _ _) | (with_reducible (apply Eq.trans (Mem.ev_tmp _ _ _)); simp only [List.getD_cons_succ, List.getD_cons_zero] <;> rfl)) (by omega) Tryd.underlying34 (by kernel_rfl) ?_
      (simp only [Act.put, List.setIfInBounds_toArray, List.set_cons_zero, List.set_cons_succ])
      refine plan_cell 5 _ _ _ _ (by rfl) (by rfl) (by rfl) (by first | (with_reducible exact Mem.ev_const _ _) | (with_reducible exact Mem.ev_zero _ _ _) | (with_reducible (apply Eq.trans (Mem.ev_tmp _ _ _)); simp only [List.getD_cons_succ, List.getD_cons_zero] <;> rfl)) (fun w' hw' => (hw'.cell (p := ⟨b1, o1 + j, none⟩) L1.out).trans C1.out) Tryd.underlying5 (by rfl) ?_
      (simp only [Act.put, List.setIfInBounds_toArray, List.set_cons_zero, List.set_cons_succ])
      (first | (refine plan_move _ _ (by rfl) (by rfl) (.inl (by rfl)) (by first | (with_reducible exact Mem.ev_const _ _) | (with_reducible exact Mem.ev_zero _ _ _) | (with_reducible (apply Eq.trans (Mem.ev_tmp _ _ _)); simp only [List.getD_cons_succ, List.getD_cons_zero] <;> rfl)) ?_) | (refine plan_move _ _ (by rfl) (by rfl) (.inr (by rfl)) (by first | (with_reducible exact Mem.ev_const _ _) | (with_reducible exact Mem.ev_zero _ _ _) | (with_reducible (apply Eq.trans (Mem.ev_tmp _ _ _)); simp only [List.getD_cons_succ, List.getD_cons_zero] <;> rfl)) ?_) | (refine plan_pick_t _ _ _ _ (by rfl) (by rfl) (by rfl) (by first | (with_reducible exact Mem.ev_const _ _) | (with_reducible exact Mem.ev_zero _ _ _) | (with_reducible (apply Eq.trans (Mem.ev_tmp _ _ _)); simp only [List.getD_cons_succ, List.getD_cons_zero] <;> rfl)) (by first | (with_reducible exact Mem.ev_const _ _) | (with_reducible exact Mem.ev_zero _ _ _) | (with_reducible (apply Eq.trans (Mem.ev_tmp _ _ _)); simp only [List.getD_cons_succ, List.getD_cons_zero] <;> rfl)) ?_) | (refine plan_pick_f _ _ _ _ (by rfl) (by rfl) (by rfl) (by first | (with_reducible exact Mem.ev_const _ _) | (with_reducible exact Mem.ev_zero _ _ _) | (with_reducible (apply Eq.trans (Mem.ev_tmp _ _ _)); simp only [List.getD_cons_succ, List.getD_cons_zero] <;> rfl)) (by first | (with_reducible exact Mem.ev_const _ _) | (with_reducible exact Mem.ev_zero _ _ _) | (with_reducible (apply Eq.trans (Mem.ev_tmp _ _ _)); simp only [List.getD_cons_succ, List.getD_cons_zero] <;> rfl)) ?_))
      (simp only [Act.put, List.setIfInBounds_toArray, List.set_cons_zero, List.set_cons_succ])
      (first | (refine plan_move _ _ (by rfl) (by rfl) (.inl (by rfl)) (by first | (with_reducible exact Mem.ev_const _ _) | (with_reducible exact Mem.ev_zero _ _ _) | (with_reducible (apply Eq.trans (Mem.ev_tmp _ _ _)); simp only [List.getD_cons_succ, List.getD_cons_zero] <;> rfl)) ?_) | (refine plan_move _ _ (by rfl) (by rfl) (.inr (by rfl)) (by first | (with_reducible exact Mem.ev_const _ _) | (with_reducible exact Mem.ev_zero _ _ _) | (with_reducible (apply Eq.trans (Mem.ev_tmp _ _ _)); simp only [List.getD_cons_succ, List.getD_cons_zero] <;> rfl)) ?_) | (refine plan_pick_t _ _ _ _ (by rfl) (by rfl) (by rfl) (by first | (with_reducible exact Mem.ev_const _ _) | (with_reducible exact Mem.ev_zero _ _ _) | (with_reducible (apply Eq.trans (Mem.ev_tmp _ _ _)); simp only [List.getD_cons_succ, List.getD_cons_zero] <;> rfl)) (by first | (with_reducible exact Mem.ev_const _ _) | (with_reducible exact Mem.ev_zero _ _ _) | (with_reducible (apply Eq.trans (Mem.ev_tmp _ _ _)); simp only [List.getD_cons_succ, List.getD_cons_zero] <;> rfl)) ?_) | (refine plan_pick_f _ _ _ _ (by rfl) (by rfl) (by rfl) (by first | (with_reducible exact Mem.ev_const _ _) | (with_reducible exact Mem.ev_zero _ _ _) | (with_reducible (apply Eq.trans (Mem.ev_tmp _ _ _)); simp only [List.getD_cons_succ, List.getD_cons_zero] <;> rfl)) (by first | (with_reducible exact Mem.ev_const _ _) | (with_reducible exact Mem.ev_zero _ _ _) | (with_reducible (apply Eq.trans (Mem.ev_tmp _ _ _)); simp only [List.getD_cons_succ, List.getD_cons_zero] <;> rfl)) ?_))
      (simp only [Act.put, List.setIfInBounds_toArray, List.set_cons_zero, List.set_cons_succ])
      refine plan_index 34 5 _ _ b2 o2 m c2 j (by rfl) (by rfl) (by rfl) (by first | (with_reducible exact Mem.ev_const _ _) | (with_reducible exact Mem.ev_zero _ _ _) | (with_reducible (apply Eq.trans (Mem.ev_tmp _ _ _)); simp only [List.getD_cons_succ, List.getD_cons_zero] <;> rfl)) (by first | (with_reducible exact Mem.ev_const _ _) | (with_reducible exact Mem.ev_zero _ _ _) | (with_reducible (apply Eq.trans (Mem.ev_tmp _ _ _)); simp only [List.getD_cons_succ, List.getD_cons_zero] <;> rfl)) (by omega) Tryd.underlying34 (by kernel_rfl) ?_
      (simp only [Act.put, List.setIfInBounds_toArray, List.set_cons_zero, List.set_cons_succ])
      refine plan_cell 5 _ _ _ _ (by rfl) (by rfl) (by rfl) (by first | (with_reducible exact Mem.ev_const _ _) | (with_reducible exact Mem.ev_zero _ _ _) | (with_reducible (apply Eq.trans (Mem.ev_tmp _ _ _)); simp only [List.getD_cons_succ, List.getD_cons_zero] <;> rfl)) (fun w' hw' => (hw'.cell (p := ⟨b2, o2 + j, none⟩) L2.out).trans C2.out) Tryd.underlying5 (by rfl) ?_
      (simp only [Act.put, List.setIfInBounds_toArray, List.set_cons_zero, List.set_cons_succ])
      refine plan_bin _ _ _ _ _ _ _ _ (by rfl) (by rfl) (by rfl) (by first | (with_reducible exact Mem.ev_const _ _) | (with_reducible exact Mem.ev_zero _ _ _) | (with_reducible (apply Eq.trans (Mem.ev_tmp _ _ _)); simp only [List.getD_cons_succ, List.getD_cons_zero] <;> rfl)) (by first | (with_reducible exact Mem.ev_const _ _) | (with_reducible exact Mem.ev_zero _ _ _) | (with_reducible (apply Eq.trans (Mem.ev_tmp _ _ _)); simp only [List.getD_cons_succ, List.getD_cons_zero] <;> rfl)) (fun wx => o_xorb _ _ _ _ _ _ wx) ?_
      (simp only [Act.put, List.setIfInBounds_toArray, List.set_cons_zero, List.set_cons_succ])
      refine plan_index 34 5 _ _ g 0 m co j (by rfl) (by rfl) (by rfl) (by first | (with_reducible exact Mem.ev_const _ _) | (with_reducible exact Mem.ev_zero _ _ _) | (with_reducible (apply Eq.trans (Mem.ev_tmp _ _ _)); simp only [List.getD_cons_succ, List.getD_cons_zero] <;> rfl)) (by first | (with_reducible exact Mem.ev_const _ _) | (with_reducible exact Mem.ev_zero _ _ _) | (with_reducible (apply Eq.trans (Mem.ev_tmp _ _ _)); simp only [List.getD_cons_succ, List.getD_cons_zero] <;> rfl)) (by omega) Tryd.underlying34 (by kernel_rfl) ?_
      (simp only [Act.put, List.setIfInBounds_toArray, List.set_cons_zero, List.set_cons_succ])
      refine plan_store_one 5 _ _ g (0 + j) (.int .u8 (B8 (x ^^^ y))) E 5 (by rfl) (by rfl) (by rfl) (by rfl) (by first | (with_reducible exact Mem.ev_const _ _) | (with_reducible exact Mem.ev_zero _ _ _) | (with_reducible (apply Eq.trans (Mem.ev_tmp _ _ _)); simp only [List.getD_cons_succ, List.getD_cons_zero] <;> rfl)) (by first | (with_reducible exact Mem.ev_const _ _) | (with_reducible exact Mem.ev_zero _ _ _) | (with_reducible (apply Eq.trans (Mem.ev_tmp _ _ _)); simp only [List.getD_cons_succ, List.getD_cons_zero] <;> rfl)) (by rfl) infoB KK.out ES.out (BB.out.drew.setCell HG.out _) ?_
      refine plan_nil ?_
      have o7 : OwnB (wr.drew.setCell ⟨g, 0 + j, none⟩ (.int .u8 (B8 (x ^^^ y)))) hs4 v5 (joinTo l s (j + 1)) := by
        rw [HV5.out]; exact ownV_B (NW.out _ (At.set (w := wr.drew) KK.out _ _))
      have I7 : Hid (RTInv (joinTo l s (j + 1)) v5 hs4 w4 (wr.drew.setCell ⟨g, 0 + j, none⟩ (.int .u8 (B8 (x ^^^ y))))) := ⟨o7, BB.out.drew.setCell HG.out _⟩
      clear o7
      generalize wr.drew.setCell ⟨g, 0 + j, none⟩ (.int .u8 (B8 (x ^^^ y))) = w7 at *
      go_wp2_with fail
      go_roundw
      case rel => exact ⟨j + 1, by omega, by go_num, by have h := I7.out; rw [HV5.out] at h; exact h⟩
      case measure => simp [intOf]; omega
    · have hjm : j = m := by omega
      have hge : ¬ (j : Int) < (m : Int) := by omega
      rw [hjm, JA.out] at hI
      have II := Lib.hid hI
      clear hI hjm hlt hj
      go_wp2_with fail
      go_ret
      exact ⟨_, rfl, II.out.o.sl, B4.out.trans (II.out.b.mono HB4.out)⟩
end Sha
end Go.Proofs.YtikfhabcjjoloaaDoor
