/- The program's shape: Block, Item, Parent. -/
import Derived.Test.YtbboljmemomcnaaShpPLevel
namespace Go.Proofs.Ytbboljmemomcnaa
namespace Sha
open Go.RowKit Mem
set_option maxRecDepth 100000
theorem b_in (f z m : Int) (h : f ≤ z ∧ z < f + m) : decide (f ≤ z ∧ z < f + m) = true := decide_eq_true h
theorem b_out (f z m : Int) (h : ¬ (f ≤ z ∧ z < f + m)) : decide (f ≤ z ∧ z < f + m) = false := decide_eq_false h
set_option maxHeartbeats 1000000 in
theorem pblock_any (p : Nat) (z k : Int) (w : World) (h1 : p ≤ 216) : Calls Try.prog 18 #[.agg (psC p), .int .i64 z, .int .i64 k] w (VEnd (.int .i64 (BZ p z k)) w) := by
  have hbig := itn_le259 p h1
  have hB : BZ p z k = if (0 ≤ z ∧ z < (itn p : Int)) ∧ 0 ≤ k ∧ k ≤ 1 then 2 + 2 * z + k else -1 := rfl
  obtain ⟨n, hn⟩ : ∃ n, n = itn p := ⟨_, rfl⟩
  obtain ⟨R, hR⟩ : ∃ R, R = BZ p z k := ⟨_, rfl⟩
  have it := fun w => pitems_any p w h1
  rw [← hn] at it hbig hB
  rw [← hR] at hB ⊢
  have WI := Lib.hid (fun w => within_any z 0 (n : Int) w (by omega) (by omega) (by omega))
  have WK := Lib.hid (fun w => within_any k 0 2 w (by omega) (by omega) (by omega))
  have HIF := Lib.hid hB
  clear hn hR hB
  have ha := at_new w (psC p) 23
  have hb : Below w.heap.size w (w.alloc (.cells (psC p) 23)) := (Below.refl _ _).alloc (Nat.le_refl _) _
  have ms : (psC p).size = 1 := rfl
  have c0 : (w.alloc (.cells (psC p) 23)).cell? ⟨w.heap.size, 0, none⟩ = some (.int .i64 (p : Int)) := ((at_new w (psC p) _).cell 0).trans rfl
  obtain ⟨M, hM⟩ : ∃ M, M = psC p := ⟨_, rfl⟩
  rw [← hM] at it ha hb ms c0 ⊢
  obtain ⟨w1, hw1⟩ : ∃ w1, w1 = w.alloc (.cells M 23) := ⟨_, rfl⟩
  rw [← hw1] at ha hb c0
  have HB := Lib.hid hb; have MS := Lib.hid ms; have AX := Lib.hid ha; have BS := Lib.hid hb.size
  have IT := Lib.hid it
  clear it hb ms hM ha 
  go_enter Try.func18, Try.ntmps18
  go_upto_region 1 with fail
  rw [← hw1]
  clear hw1
  clear c0
  go_wp2_with (refine wpList_load_all (by rfl) 23 _ (by rfl) w.heap.size (by rfl) _ Try.underlying23 (by rfl) M _ AX.out (by rw [MS.out]; exact infoPS) ?_)
  refine (IT.out _).mono ?_
  rintro e w2 ⟨rfl, hb2⟩
  have B2 := Lib.hid hb2
  clear hb2
  go_wp2_with fail
  refine (WI.out _).mono ?_
  rintro e w3 ⟨rfl, rfl⟩
  by_cases hz : 0 ≤ z ∧ z < 0 + (n : Int)
  · rw [b_in 0 z n hz]
    go_wp2_with fail
    refine (WK.out _).mono ?_
    rintro e w3 ⟨rfl, rfl⟩
    by_cases hk : 0 ≤ k ∧ k < 0 + 2
    · rw [b_in 0 k 2 hk]
      have hB := HIF.out
      rw [if_pos ⟨⟨by omega, by omega⟩, by omega, by omega⟩] at hB
      have HR := Lib.hid hB
      clear hB
      have z1 : 0 ≤ z := by omega
      have z2 : z ≤ 259 := by omega
      have k1 : 0 ≤ k := by omega
      have k2 : k ≤ 1 := by omega
      clear hz hk
      go_wp2_with fail
      go_ret
      exact ⟨by rw [HR.out]; rfl, HB.out.trans (B2.out.mono BS.out)⟩
    · rw [b_out 0 k 2 hk]
      have hB := HIF.out
      rw [if_neg (fun h => hk ⟨by omega, by omega⟩)] at hB
      have HR := Lib.hid hB
      clear hB hk hz
      go_wp2_with fail
      go_ret
      exact ⟨by rw [HR.out]; rfl, HB.out.trans (B2.out.mono BS.out)⟩
  · rw [b_out 0 z n hz]
    have hB := HIF.out
    rw [if_neg (fun h => hz ⟨by omega, by omega⟩)] at hB
    have HR := Lib.hid hB
    clear hB hz
    go_wp2_with fail
    go_ret
    exact ⟨by rw [HR.out]; rfl, HB.out.trans (B2.out.mono BS.out)⟩
set_option maxHeartbeats 1000000 in
theorem pitem_any (p : Nat) (b : Int) (w : World) (h1 : p ≤ 216) : Calls Try.prog 22 #[.agg (psC p), .int .i64 b] w (TEnd (IZ p b) w) := by
  have hbig := itn_le259 p h1
  have hI : IZ p b = if 2 ≤ b ∧ b < 2 + 2 * (itn p : Int) then ((b - 2) / 2, (b - 2) % 2, true) else (0, 0, false) := rfl
  obtain ⟨n, hn⟩ : ∃ n, n = itn p := ⟨_, rfl⟩
  obtain ⟨R, hR⟩ : ∃ R, R = IZ p b := ⟨_, rfl⟩
  have it := fun w => pitems_any p w h1
  rw [← hn] at it hbig hI
  rw [← hR] at hI ⊢
  have WI := Lib.hid (fun w => within_any b 2 (2 * (n : Int)) w (by omega) (by omega) (by omega))
  have HIF := Lib.hid hI
  clear hn hR hI
  have ha := at_new w (psC p) 23
  have hb : Below w.heap.size w (w.alloc (.cells (psC p) 23)) := (Below.refl _ _).alloc (Nat.le_refl _) _
  have ms : (psC p).size = 1 := rfl
  have c0 : (w.alloc (.cells (psC p) 23)).cell? ⟨w.heap.size, 0, none⟩ = some (.int .i64 (p : Int)) := ((at_new w (psC p) _).cell 0).trans rfl
  obtain ⟨M, hM⟩ : ∃ M, M = psC p := ⟨_, rfl⟩
  rw [← hM] at it ha hb ms c0 ⊢
  obtain ⟨w1, hw1⟩ : ∃ w1, w1 = w.alloc (.cells M 23) := ⟨_, rfl⟩
  rw [← hw1] at ha hb c0
  have HB := Lib.hid hb; have MS := Lib.hid ms; have AX := Lib.hid ha; have BS := Lib.hid hb.size
  have IT := Lib.hid it
  clear it hb ms hM ha 
  go_enter Try.func22, Try.ntmps22
  go_upto_region 1 with fail
  rw [← hw1]
  clear hw1
  clear c0
  go_wp2_with (refine wpList_load_all (by rfl) 23 _ (by rfl) w.heap.size (by rfl) _ Try.underlying23 (by rfl) M _ AX.out (by rw [MS.out]; exact infoPS) ?_)
  refine (IT.out _).mono ?_
  rintro e w2 ⟨rfl, hb2⟩
  have B2 := Lib.hid hb2
  clear hb2
  go_wp2_with fail
  refine (WI.out _).mono ?_
  rintro e w3 ⟨rfl, rfl⟩
  by_cases hb : 2 ≤ b ∧ b < 2 + 2 * (n : Int)
  · rw [b_in 2 b _ hb]
    have hI := HIF.out
    rw [if_pos hb] at hI
    have HR := Lib.hid hI
    clear hI
    have z1 : 2 ≤ b := hb.1
    have z2 : b ≤ 700 := by omega
    clear hb
    go_wp2_with fail
    go_ret3
    exact ⟨by rw [HR.out]; rfl, HB.out.trans (B2.out.mono BS.out)⟩
  · rw [b_out 2 b _ hb]
    have hI := HIF.out
    rw [if_neg hb] at hI
    have HR := Lib.hid hI
    clear hI hb
    go_wp2_with fail
    go_ret3
    exact ⟨by rw [HR.out]; rfl, HB.out.trans (B2.out.mono BS.out)⟩
/-- Any shape's levels. -/
def LaEnd (p : Nat) (w : World) (e : Ending) (w' : World) : Prop := ∃ v, e = .returned v ∧ Below w.heap.size w w' ∧ (1 ≤ p → ∃ g C, v = .slice (some ⟨g, 0, none⟩) (topn p + 1) (topn p + 1) ∧ LvR w' g p C)
theorem plevels_all (p : Nat) (w : World) (h1 : p ≤ 216) : Calls Try.prog 29 #[.agg (psC p)] w (LaEnd p w) := by
  rcases Nat.eq_zero_or_pos p with h | h
  · subst h
    refine (plevels_0 w).mono ?_
    rintro e w' ⟨rfl, hb⟩
    exact ⟨_, rfl, hb, fun h => by omega⟩
  · refine (plevels_any p w h h1).mono ?_
    rintro e w' ⟨g, C, rfl, hr, hb⟩
    exact ⟨_, rfl, hb, fun _ => ⟨g, C, rfl, hr⟩⟩
theorem lvl_item (p : Nat) (z : Int) : (0 ≤ z ∧ z < (itn p : Int)) ∨ (¬ (0 ≤ z ∧ z < (itn p : Int)) ∧ lvlP p z = -1) := by
  by_cases h : 0 ≤ z ∧ z < (itn p : Int)
  · exact .inl h
  · exact .inr ⟨h, if_neg h⟩
set_option maxHeartbeats 1000000 in
theorem pparent_out (p : Nat) (z : Int) (w : World) (h1 : p ≤ 216) (h : ¬ (0 ≤ z ∧ z < (itn p : Int))) : Calls Try.prog 20 #[.agg (psC p), .int .i64 z] w (TEnd (PZ p z) w) := by
  have hP : PZ p z = (0, 0, false) := if_neg (by omega)
  have hl : lvlP p z = -1 := if_neg h
  rw [hP]
  have le := fun w => plevel_any p z w h1
  rw [hl] at le
  have lv := fun w => plevels_all p w h1
  clear hP hl h
  have ha := at_new w (psC p) 23
  have hb : Below w.heap.size w (w.alloc (.cells (psC p) 23)) := (Below.refl _ _).alloc (Nat.le_refl _) _
  have ms : (psC p).size = 1 := rfl
  have c0 : (w.alloc (.cells (psC p) 23)).cell? ⟨w.heap.size, 0, none⟩ = some (.int .i64 (p : Int)) := ((at_new w (psC p) _).cell 0).trans rfl
  obtain ⟨M, hM⟩ : ∃ M, M = psC p := ⟨_, rfl⟩
  rw [← hM] at lv le ha hb ms c0 ⊢
  obtain ⟨w1, hw1⟩ : ∃ w1, w1 = w.alloc (.cells M 23) := ⟨_, rfl⟩
  rw [← hw1] at ha hb c0
  have HB := Lib.hid hb; have MS := Lib.hid ms; have AX := Lib.hid ha; have BS := Lib.hid hb.size
  have LV := Lib.hid lv
  have LE := Lib.hid le
  clear lv le hb ms hM ha 
  go_enter Try.func20, Try.ntmps20
  go_upto_region 1 with fail
  rw [← hw1]
  clear hw1
  clear c0
  refine wp_region_plan_in (fun x' => Below w1.heap.size w1 x') (.take 0 (.take 2 (.take 3 (.sole 1 (.sole 4 (.take 5 (.take 6 .done))))))) (by kernel_rfl) (by kernel_rfl) (by kernel_rfl) (Below.refl _ _).drew ?_
  refine plan_row 23 _ w.heap.size _ M 23 (by rfl) (by rfl) (by rfl) (by first | (with_reducible exact Mem.ev_const _ _) | (with_reducible exact Mem.ev_zero _ _ _) | (with_reducible (apply Eq.trans (Mem.ev_tmp _ _ _)); simp only [List.getD_cons_succ, List.getD_cons_zero] <;> rfl)) (fun w' hw' => AX.out.below hw' AX.out.lt) Try.underlying23 (by rfl) (by rw [MS.out]; exact infoPS) ?_
  (simp only [Act.put, List.setIfInBounds_toArray, List.set_cons_zero, List.set_cons_succ])
  refine plan_row 23 _ w.heap.size _ M 23 (by rfl) (by rfl) (by rfl) (by first | (with_reducible exact Mem.ev_const _ _) | (with_reducible exact Mem.ev_zero _ _ _) | (with_reducible (apply Eq.trans (Mem.ev_tmp _ _ _)); simp only [List.getD_cons_succ, List.getD_cons_zero] <;> rfl)) (fun w' hw' => AX.out.below hw' AX.out.lt) Try.underlying23 (by rfl) (by rw [MS.out]; exact infoPS) ?_
  (simp only [Act.put, List.setIfInBounds_toArray, List.set_cons_zero, List.set_cons_succ])
  (first | (refine plan_move _ _ (by rfl) (by rfl) (.inl (by rfl)) (by first | (with_reducible exact Mem.ev_const _ _) | (with_reducible exact Mem.ev_zero _ _ _) | (with_reducible (apply Eq.trans (Mem.ev_tmp _ _ _)); simp only [List.getD_cons_succ, List.getD_cons_zero] <;> rfl)) ?_) | (refine plan_move _ _ (by rfl) (by rfl) (.inr (by rfl)) (by first | (with_reducible exact Mem.ev_const _ _) | (with_reducible exact Mem.ev_zero _ _ _) | (with_reducible (apply Eq.trans (Mem.ev_tmp _ _ _)); simp only [List.getD_cons_succ, List.getD_cons_zero] <;> rfl)) ?_) | (refine plan_pick_t _ _ _ _ (by rfl) (by rfl) (by rfl) (by first | (with_reducible exact Mem.ev_const _ _) | (with_reducible exact Mem.ev_zero _ _ _) | (with_reducible (apply Eq.trans (Mem.ev_tmp _ _ _)); simp only [List.getD_cons_succ, List.getD_cons_zero] <;> rfl)) (by first | (with_reducible exact Mem.ev_const _ _) | (with_reducible exact Mem.ev_zero _ _ _) | (with_reducible (apply Eq.trans (Mem.ev_tmp _ _ _)); simp only [List.getD_cons_succ, List.getD_cons_zero] <;> rfl)) ?_) | (refine plan_pick_f _ _ _ _ (by rfl) (by rfl) (by rfl) (by first | (with_reducible exact Mem.ev_const _ _) | (with_reducible exact Mem.ev_zero _ _ _) | (with_reducible (apply Eq.trans (Mem.ev_tmp _ _ _)); simp only [List.getD_cons_succ, List.getD_cons_zero] <;> rfl)) (by first | (with_reducible exact Mem.ev_const _ _) | (with_reducible exact Mem.ev_zero _ _ _) | (with_reducible (apply Eq.trans (Mem.ev_tmp _ _ _)); simp only [List.getD_cons_succ, List.getD_cons_zero] <;> rfl)) ?_))
  (simp only [Act.put, List.setIfInBounds_toArray, List.set_cons_zero, List.set_cons_succ])
  refine plan_call 29 _ _ _ (by kernel_rfl) (by rfl) (by rfl) (by rfl) (by first | exact Mem.ev_none _ | (simp only [List.map_toArray, List.map_cons, List.map_nil, Mem.ev_tmp, List.getD_cons_succ, List.getD_cons_zero] <;> rfl)) ?_
  refine (LV.out _).mono ?_
  rintro e w2 ⟨v2, rfl, hb2, _⟩
  have D2 : Hid (Below w1.heap.size w1 w2) := Lib.hid (Below.trans (Below.refl _ _).drew hb2)
  clear hb2
  refine ⟨_, rfl, D2.out, ?_⟩
  (simp only [Act.put, List.setIfInBounds_toArray, List.set_cons_zero, List.set_cons_succ])
  refine plan_call 14 _ _ _ (by kernel_rfl) (by rfl) (by rfl) (by rfl) (by first | exact Mem.ev_none _ | (simp only [List.map_toArray, List.map_cons, List.map_nil, Mem.ev_tmp, List.getD_cons_succ, List.getD_cons_zero] <;> rfl)) ?_
  refine (LE.out _).mono ?_
  rintro e w3 ⟨rfl, hb3⟩
  have D3 : Hid (Below w1.heap.size w1 w3) := Lib.hid (D2.out.trans (hb3.mono D2.out.size))
  clear hb3
  refine ⟨_, rfl, D3.out, ?_⟩
  (simp only [Act.put, List.setIfInBounds_toArray, List.set_cons_zero, List.set_cons_succ])
  (first | (refine plan_move _ _ (by rfl) (by rfl) (.inl (by rfl)) (by first | (with_reducible exact Mem.ev_const _ _) | (with_reducible exact Mem.ev_zero _ _ _) | (with_reducible (apply Eq.trans (Mem.ev_tmp _ _ _)); simp only [List.getD_cons_succ, List.getD_cons_zero] <;> rfl)) ?_) | (refine plan_move _ _ (by rfl) (by rfl) (.inr (by rfl)) (by first | (with_reducible exact Mem.ev_const _ _) | (with_reducible exact Mem.ev_zero _ _ _) | (with_reducible (apply Eq.trans (Mem.ev_tmp _ _ _)); simp only [List.getD_cons_succ, List.getD_cons_zero] <;> rfl)) ?_) | (refine plan_pick_t _ _ _ _ (by rfl) (by rfl) (by rfl) (by first | (with_reducible exact Mem.ev_const _ _) | (with_reducible exact Mem.ev_zero _ _ _) | (with_reducible (apply Eq.trans (Mem.ev_tmp _ _ _)); simp only [List.getD_cons_succ, List.getD_cons_zero] <;> rfl)) (by first | (with_reducible exact Mem.ev_const _ _) | (with_reducible exact Mem.ev_zero _ _ _) | (with_reducible (apply Eq.trans (Mem.ev_tmp _ _ _)); simp only [List.getD_cons_succ, List.getD_cons_zero] <;> rfl)) ?_) | (refine plan_pick_f _ _ _ _ (by rfl) (by rfl) (by rfl) (by first | (with_reducible exact Mem.ev_const _ _) | (with_reducible exact Mem.ev_zero _ _ _) | (with_reducible (apply Eq.trans (Mem.ev_tmp _ _ _)); simp only [List.getD_cons_succ, List.getD_cons_zero] <;> rfl)) (by first | (with_reducible exact Mem.ev_const _ _) | (with_reducible exact Mem.ev_zero _ _ _) | (with_reducible (apply Eq.trans (Mem.ev_tmp _ _ _)); simp only [List.getD_cons_succ, List.getD_cons_zero] <;> rfl)) ?_))
  (simp only [Act.put, List.setIfInBounds_toArray, List.set_cons_zero, List.set_cons_succ])
  (first | (refine plan_move _ _ (by rfl) (by rfl) (.inl (by rfl)) (by first | (with_reducible exact Mem.ev_const _ _) | (with_reducible exact Mem.ev_zero _ _ _) | (with_reducible (apply Eq.trans (Mem.ev_tmp _ _ _)); simp only [List.getD_cons_succ, List.getD_cons_zero] <;> rfl)) ?_) | (refine plan_move _ _ (by rfl) (by rfl) (.inr (by rfl)) (by first | (with_reducible exact Mem.ev_const _ _) | (with_reducible exact Mem.ev_zero _ _ _) | (with_reducible (apply Eq.trans (Mem.ev_tmp _ _ _)); simp only [List.getD_cons_succ, List.getD_cons_zero] <;> rfl)) ?_) | (refine plan_pick_t _ _ _ _ (by rfl) (by rfl) (by rfl) (by first | (with_reducible exact Mem.ev_const _ _) | (with_reducible exact Mem.ev_zero _ _ _) | (with_reducible (apply Eq.trans (Mem.ev_tmp _ _ _)); simp only [List.getD_cons_succ, List.getD_cons_zero] <;> rfl)) (by first | (with_reducible exact Mem.ev_const _ _) | (with_reducible exact Mem.ev_zero _ _ _) | (with_reducible (apply Eq.trans (Mem.ev_tmp _ _ _)); simp only [List.getD_cons_succ, List.getD_cons_zero] <;> rfl)) ?_) | (refine plan_pick_f _ _ _ _ (by rfl) (by rfl) (by rfl) (by first | (with_reducible exact Mem.ev_const _ _) | (with_reducible exact Mem.ev_zero _ _ _) | (with_reducible (apply Eq.trans (Mem.ev_tmp _ _ _)); simp only [List.getD_cons_succ, List.getD_cons_zero] <;> rfl)) (by first | (with_reducible exact Mem.ev_const _ _) | (with_reducible exact Mem.ev_zero _ _ _) | (with_reducible (apply Eq.trans (Mem.ev_tmp _ _ _)); simp only [List.getD_cons_succ, List.getD_cons_zero] <;> rfl)) ?_))
  (simp only [Act.put, List.setIfInBounds_toArray, List.set_cons_zero, List.set_cons_succ])
  refine plan_nil ?_
  go_wp2_with fail
  go_ret3
  exact ⟨rfl, HB.out.trans (D3.out.mono BS.out)⟩
set_option maxHeartbeats 2000000 in
theorem pparent_in (p i : Nat) (w : World) (h0 : 1 ≤ p) (h1 : p ≤ 216) (h : i < itn p) : Calls Try.prog 20 #[.agg (psC p), .int .i64 (i : Int)] w (TEnd (PZ p (i : Int)) w) := by
  have hl : lvlP p (i : Int) = ((lev p i : Nat) : Int) := by unfold lvlP; rw [if_pos ⟨by omega, by omega⟩, Int.toNat_natCast]
  have htop := lev_top p i h0 h1
  have hlo := lev_lo p i
  have h4 := itn_le p
  have hhi := lev_hi p i (by omega)
  have hbig := itn_le259 p h1
  have ht := top_le p
  have hPZ : PZ p (i : Int) = if 0 ≤ (i : Int) ∧ (i : Int) + 1 < (itn p : Int) then (((stn p (lev p i + 1) + (i - stn p (lev p i)) / 6 : Nat) : Int), (((i - stn p (lev p i)) % 6 : Nat) : Int), true) else (0, 0, false) := by unfold PZ; rw [Int.toNat_natCast]; rfl
  have hbd := fun k hk => stn_le p k hk h1
  have hle : ∀ k, k < topn p + 1 → k ≤ topn p := fun k hk => by omega
  have hlt : lev p i ≤ topn p := by
    rcases Nat.lt_or_ge (topn p) (lev p i) with a | a
    · have := stn_mono p (topn p + 1) (lev p i) a (by have := lev_le p i; omega)
      have e : itn p = stn p (topn p + 1) := rfl
      omega
    · exact a
  have le := fun w => plevel_any p (i : Int) w h1
  rw [hl] at le
  have lv := fun w => plevels_any p w h0 h1
  unfold LvEnd at lv
  obtain ⟨R, hR⟩ : ∃ R, R = PZ p (i : Int) := ⟨_, rfl⟩
  rw [← hR] at hPZ ⊢
  obtain ⟨a, ha0⟩ : ∃ a, a = lev p i := ⟨_, rfl⟩
  rw [← ha0] at le htop hlo hPZ hlt hhi
  obtain ⟨f, hf⟩ : ∃ f, f = stn p a := ⟨_, rfl⟩
  obtain ⟨f2, hf2⟩ : ∃ f2, f2 = stn p (a + 1) := ⟨_, rfl⟩
  rw [← hf] at hlo hPZ
  rw [← hf2] at hPZ hhi
  have hb1 := (hbd a (by omega)).1
  have hb2' : f2 ≤ 600 := by
    rw [hf2]
    by_cases a3 : a + 1 ≤ 3
    · have := (hbd (a + 1) a3).1; omega
    · have : a = 3 := by omega
      subst this
      have := stn_lvn p 3 (by omega); have := hbd 3 (by omega); omega
  rw [← hf] at hb1
  have hcell : ∀ wx g C, LvR wx g p C → wx.cell? ⟨g, a * 2, none⟩ = some (.int .i64 (f : Int)) := fun wx g C hr => by rw [hf]; exact hr.cell0 hlt
  have hcell2 : a + 1 ≤ topn p → ∀ wx g C, LvR wx g p C → wx.cell? ⟨g, (a + 1) * 2, none⟩ = some (.int .i64 (f2 : Int)) := fun h wx g C hr => by rw [hf2]; exact hr.cell0 h
  obtain ⟨t, htt⟩ : ∃ t, t = topn p := ⟨_, rfl⟩
  rw [← htt] at lv htop hlt ht hcell2
  have HC1 := Lib.hid hcell; have HC2 := Lib.hid hcell2
  have HPZ := Lib.hid hPZ
  have htop2 : (i + 1 < itn p) ↔ a < t := ⟨fun x => (htop.mp x).2, fun x => htop.mpr ⟨h, x⟩⟩
  have HT := Lib.hid htop2
  clear hl htop h4 hPZ hbd hle hcell hcell2 hR ha0 hf hf2 htt htop2
  have ha := at_new w (psC p) 23
  have hb : Below w.heap.size w (w.alloc (.cells (psC p) 23)) := (Below.refl _ _).alloc (Nat.le_refl _) _
  have ms : (psC p).size = 1 := rfl
  have c0 : (w.alloc (.cells (psC p) 23)).cell? ⟨w.heap.size, 0, none⟩ = some (.int .i64 (p : Int)) := ((at_new w (psC p) _).cell 0).trans rfl
  obtain ⟨M, hM⟩ : ∃ M, M = psC p := ⟨_, rfl⟩
  rw [← hM] at lv le ha hb ms c0 ⊢
  obtain ⟨w1, hw1⟩ : ∃ w1, w1 = w.alloc (.cells M 23) := ⟨_, rfl⟩
  rw [← hw1] at ha hb c0
  have HB := Lib.hid hb; have MS := Lib.hid ms; have AX := Lib.hid ha; have BS := Lib.hid hb.size
  have LV := Lib.hid lv
  have LE := Lib.hid le
  clear lv le hb ms hM ha 
  go_enter Try.func20, Try.ntmps20
  go_upto_region 1 with fail
  rw [← hw1]
  clear hw1
  clear c0
  refine wp_region_plan_in (fun x' => Below w1.heap.size w1 x') (.take 0 (.take 2 (.take 3 (.sole 1 (.sole 4 (.take 5 (.take 6 .done))))))) (by kernel_rfl) (by kernel_rfl) (by kernel_rfl) (Below.refl _ _).drew ?_
  refine plan_row 23 _ w.heap.size _ M 23 (by rfl) (by rfl) (by rfl) (by first | (with_reducible exact Mem.ev_const _ _) | (with_reducible exact Mem.ev_zero _ _ _) | (with_reducible (apply Eq.trans (Mem.ev_tmp _ _ _)); simp only [List.getD_cons_succ, List.getD_cons_zero] <;> rfl)) (fun w' hw' => AX.out.below hw' AX.out.lt) Try.underlying23 (by rfl) (by rw [MS.out]; exact infoPS) ?_
  (simp only [Act.put, List.setIfInBounds_toArray, List.set_cons_zero, List.set_cons_succ])
  refine plan_row 23 _ w.heap.size _ M 23 (by rfl) (by rfl) (by rfl) (by first | (with_reducible exact Mem.ev_const _ _) | (with_reducible exact Mem.ev_zero _ _ _) | (with_reducible (apply Eq.trans (Mem.ev_tmp _ _ _)); simp only [List.getD_cons_succ, List.getD_cons_zero] <;> rfl)) (fun w' hw' => AX.out.below hw' AX.out.lt) Try.underlying23 (by rfl) (by rw [MS.out]; exact infoPS) ?_
  (simp only [Act.put, List.setIfInBounds_toArray, List.set_cons_zero, List.set_cons_succ])
  (first | (refine plan_move _ _ (by rfl) (by rfl) (.inl (by rfl)) (by first | (with_reducible exact Mem.ev_const _ _) | (with_reducible exact Mem.ev_zero _ _ _) | (with_reducible (apply Eq.trans (Mem.ev_tmp _ _ _)); simp only [List.getD_cons_succ, List.getD_cons_zero] <;> rfl)) ?_) | (refine plan_move _ _ (by rfl) (by rfl) (.inr (by rfl)) (by first | (with_reducible exact Mem.ev_const _ _) | (with_reducible exact Mem.ev_zero _ _ _) | (with_reducible (apply Eq.trans (Mem.ev_tmp _ _ _)); simp only [List.getD_cons_succ, List.getD_cons_zero] <;> rfl)) ?_) | (refine plan_pick_t _ _ _ _ (by rfl) (by rfl) (by rfl) (by first | (with_reducible exact Mem.ev_const _ _) | (with_reducible exact Mem.ev_zero _ _ _) | (with_reducible (apply Eq.trans (Mem.ev_tmp _ _ _)); simp only [List.getD_cons_succ, List.getD_cons_zero] <;> rfl)) (by first | (with_reducible exact Mem.ev_const _ _) | (with_reducible exact Mem.ev_zero _ _ _) | (with_reducible (apply Eq.trans (Mem.ev_tmp _ _ _)); simp only [List.getD_cons_succ, List.getD_cons_zero] <;> rfl)) ?_) | (refine plan_pick_f _ _ _ _ (by rfl) (by rfl) (by rfl) (by first | (with_reducible exact Mem.ev_const _ _) | (with_reducible exact Mem.ev_zero _ _ _) | (with_reducible (apply Eq.trans (Mem.ev_tmp _ _ _)); simp only [List.getD_cons_succ, List.getD_cons_zero] <;> rfl)) (by first | (with_reducible exact Mem.ev_const _ _) | (with_reducible exact Mem.ev_zero _ _ _) | (with_reducible (apply Eq.trans (Mem.ev_tmp _ _ _)); simp only [List.getD_cons_succ, List.getD_cons_zero] <;> rfl)) ?_))
  (simp only [Act.put, List.setIfInBounds_toArray, List.set_cons_zero, List.set_cons_succ])
  refine plan_call 29 _ _ _ (by kernel_rfl) (by rfl) (by rfl) (by rfl) (by first | exact Mem.ev_none _ | (simp only [List.map_toArray, List.map_cons, List.map_nil, Mem.ev_tmp, List.getD_cons_succ, List.getD_cons_zero] <;> rfl)) ?_
  refine (LV.out _).mono ?_
  rintro e w2 ⟨g, C, rfl, hr, hb2⟩
  have D2 : Hid (Below w1.heap.size w1 w2) := Lib.hid (Below.trans (Below.refl _ _).drew hb2)
  have RL := Lib.hid hr
  clear hb2 hr
  refine ⟨_, rfl, D2.out, ?_⟩
  (simp only [Act.put, List.setIfInBounds_toArray, List.set_cons_zero, List.set_cons_succ])
  refine plan_call 14 _ _ _ (by kernel_rfl) (by rfl) (by rfl) (by rfl) (by first | exact Mem.ev_none _ | (simp only [List.map_toArray, List.map_cons, List.map_nil, Mem.ev_tmp, List.getD_cons_succ, List.getD_cons_zero] <;> rfl)) ?_
  refine (LE.out _).mono ?_
  rintro e w3 ⟨rfl, hb3⟩
  have D3 : Hid (Below w1.heap.size w1 w3) := Lib.hid (D2.out.trans (hb3.mono D2.out.size))
  have RL3 := Lib.hid (RL.out.below hb3)
  clear hb3 RL
  refine ⟨_, rfl, D3.out, ?_⟩
  (simp only [Act.put, List.setIfInBounds_toArray, List.set_cons_zero, List.set_cons_succ])
  (first | (refine plan_move _ _ (by rfl) (by rfl) (.inl (by rfl)) (by first | (with_reducible exact Mem.ev_const _ _) | (with_reducible exact Mem.ev_zero _ _ _) | (with_reducible (apply Eq.trans (Mem.ev_tmp _ _ _)); simp only [List.getD_cons_succ, List.getD_cons_zero] <;> rfl)) ?_) | (refine plan_move _ _ (by rfl) (by rfl) (.inr (by rfl)) (by first | (with_reducible exact Mem.ev_const _ _) | (with_reducible exact Mem.ev_zero _ _ _) | (with_reducible (apply Eq.trans (Mem.ev_tmp _ _ _)); simp only [List.getD_cons_succ, List.getD_cons_zero] <;> rfl)) ?_) | (refine plan_pick_t _ _ _ _ (by rfl) (by rfl) (by rfl) (by first | (with_reducible exact Mem.ev_const _ _) | (with_reducible exact Mem.ev_zero _ _ _) | (with_reducible (apply Eq.trans (Mem.ev_tmp _ _ _)); simp only [List.getD_cons_succ, List.getD_cons_zero] <;> rfl)) (by first | (with_reducible exact Mem.ev_const _ _) | (with_reducible exact Mem.ev_zero _ _ _) | (with_reducible (apply Eq.trans (Mem.ev_tmp _ _ _)); simp only [List.getD_cons_succ, List.getD_cons_zero] <;> rfl)) ?_) | (refine plan_pick_f _ _ _ _ (by rfl) (by rfl) (by rfl) (by first | (with_reducible exact Mem.ev_const _ _) | (with_reducible exact Mem.ev_zero _ _ _) | (with_reducible (apply Eq.trans (Mem.ev_tmp _ _ _)); simp only [List.getD_cons_succ, List.getD_cons_zero] <;> rfl)) (by first | (with_reducible exact Mem.ev_const _ _) | (with_reducible exact Mem.ev_zero _ _ _) | (with_reducible (apply Eq.trans (Mem.ev_tmp _ _ _)); simp only [List.getD_cons_succ, List.getD_cons_zero] <;> rfl)) ?_))
  (simp only [Act.put, List.setIfInBounds_toArray, List.set_cons_zero, List.set_cons_succ])
  (first | (refine plan_move _ _ (by rfl) (by rfl) (.inl (by rfl)) (by first | (with_reducible exact Mem.ev_const _ _) | (with_reducible exact Mem.ev_zero _ _ _) | (with_reducible (apply Eq.trans (Mem.ev_tmp _ _ _)); simp only [List.getD_cons_succ, List.getD_cons_zero] <;> rfl)) ?_) | (refine plan_move _ _ (by rfl) (by rfl) (.inr (by rfl)) (by first | (with_reducible exact Mem.ev_const _ _) | (with_reducible exact Mem.ev_zero _ _ _) | (with_reducible (apply Eq.trans (Mem.ev_tmp _ _ _)); simp only [List.getD_cons_succ, List.getD_cons_zero] <;> rfl)) ?_) | (refine plan_pick_t _ _ _ _ (by rfl) (by rfl) (by rfl) (by first | (with_reducible exact Mem.ev_const _ _) | (with_reducible exact Mem.ev_zero _ _ _) | (with_reducible (apply Eq.trans (Mem.ev_tmp _ _ _)); simp only [List.getD_cons_succ, List.getD_cons_zero] <;> rfl)) (by first | (with_reducible exact Mem.ev_const _ _) | (with_reducible exact Mem.ev_zero _ _ _) | (with_reducible (apply Eq.trans (Mem.ev_tmp _ _ _)); simp only [List.getD_cons_succ, List.getD_cons_zero] <;> rfl)) ?_) | (refine plan_pick_f _ _ _ _ (by rfl) (by rfl) (by rfl) (by first | (with_reducible exact Mem.ev_const _ _) | (with_reducible exact Mem.ev_zero _ _ _) | (with_reducible (apply Eq.trans (Mem.ev_tmp _ _ _)); simp only [List.getD_cons_succ, List.getD_cons_zero] <;> rfl)) (by first | (with_reducible exact Mem.ev_const _ _) | (with_reducible exact Mem.ev_zero _ _ _) | (with_reducible (apply Eq.trans (Mem.ev_tmp _ _ _)); simp only [List.getD_cons_succ, List.getD_cons_zero] <;> rfl)) ?_))
  (simp only [Act.put, List.setIfInBounds_toArray, List.set_cons_zero, List.set_cons_succ])
  refine plan_nil ?_
  by_cases hat : a < t
  · have c1 := HC1.out _ _ _ RL3.out
    have c2 := HC2.out hat _ _ _ RL3.out
    have HR := HPZ.out
    rw [if_pos ⟨by omega, by have := HT.out.mpr hat; omega⟩] at HR
    have HRR := Lib.hid HR
    have a1 : ¬ (a : Int) = -1 := by omega
    have a2 : ¬ (a : Int) = (t : Int) := by omega
    have a3 : a < t + 1 := by omega
    have a4 : a + 1 < t + 1 := by omega
    have a5 : (a : Int) < (t : Int) + 1 := by omega
    have a6 : (a : Int) + 1 < (t : Int) + 1 := by omega
    have e6 : ((i : Int) - (f : Int)) / 6 = (((i - f) / 6 : Nat) : Int) := by omega
    have e7 : ((i : Int) - (f : Int)) % 6 = (((i - f) % 6 : Nat) : Int) := by omega
    have E6 := Lib.hid e6; have E7 := Lib.hid e7
    clear HR e6 e7 HPZ HC1 HC2 HT
    go_upto_region 2 with fail
    go_cut [23] (fun x wx => x = .bool false ∧ w3 = wx)
    case first =>
      have b1 : ((a : Int) == -1) = false := beq_eq_false_iff_ne.mpr a1
      have b2 : ((a : Int) == (t : Int)) = false := beq_eq_false_iff_ne.mpr a2
      have B1 := Lib.hid b1; have B2' := Lib.hid b2
      clear c1 c2 b1 b2
      go_wp2_with fail
      go_meet
      exact ⟨by simp only [B1.out, B2'.out, Bool.or_self], rfl⟩
    obtain ⟨rfl, hwx⟩ := hcut
    subst hwx
    go_wp2_with fail
    go_ret3
    exact ⟨by rw [HRR.out, Int.natCast_add, ← E6.out, ← E7.out]; rfl, HB.out.trans (D3.out.mono BS.out)⟩
  · have HR := HPZ.out
    rw [if_neg (fun hh => hat (HT.out.mp (by omega)))] at HR
    have HRR := Lib.hid HR
    have a1 : ¬ (a : Int) = -1 := by omega
    have a2 : a = t := by omega
    subst a2
    clear HR HPZ HC1 HC2 HT
    go_wp2_with fail
    go_ret3
    exact ⟨by rw [HRR.out]; rfl, HB.out.trans (D3.out.mono BS.out)⟩
theorem pparent_any (p : Nat) (z : Int) (w : World) (h1 : p ≤ 216) : Calls Try.prog 20 #[.agg (psC p), .int .i64 z] w (TEnd (PZ p z) w) := by
  by_cases h : 0 ≤ z ∧ z < (itn p : Int)
  · obtain ⟨i, rfl⟩ : ∃ i : Nat, z = (i : Int) := ⟨z.toNat, by omega⟩
    have h0 : 1 ≤ p := by
      rcases Nat.eq_zero_or_pos p with e | e
      · subst e; rw [itn_0] at h; omega
      · exact e
    exact pparent_in p i w h0 h1 (by omega)
  · exact pparent_out p z w h1 h
end Sha
end Go.Proofs.Ytbboljmemomcnaa
