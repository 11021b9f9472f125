/- The program's shape: Blocks, Levels, Root, Level. -/
import Derived.Test.YtbboljmemomcnaaShpPItems
namespace Go.Proofs.Ytbboljmemomcnaa
namespace Sha
open Go.RowKit Mem
set_option maxRecDepth 100000
theorem pblocks_0 (w : World) : Calls Try.prog 11 #[.agg (psC 0)] w (VEnd (.int .i64 0) w) := by
  have ha := at_new w (psC 0) 23
  have hb : Below w.heap.size w (w.alloc (.cells (psC 0) 23)) := (Below.refl _ _).alloc (Nat.le_refl _) _
  have ms : (psC 0).size = 1 := rfl
  have c0 : (w.alloc (.cells (psC 0) 23)).cell? ⟨w.heap.size, 0, none⟩ = some (.int .i64 (0 : Int)) := ((at_new w (psC 0) _).cell 0).trans rfl
  obtain ⟨M, hM⟩ : ∃ M, M = psC 0 := ⟨_, rfl⟩
  rw [← hM] at ha hb ms c0 ⊢
  obtain ⟨w1, hw1⟩ : ∃ w1, w1 = w.alloc (.cells M 23) := ⟨_, rfl⟩
  rw [← hw1] at ha hb c0
  have HB := Lib.hid hb; have MS := Lib.hid ms; have AX := Lib.hid ha; have BS := Lib.hid hb.size
  clear hb ms hM ha 
  go_enter Try.func11, Try.ntmps11
  go_upto_region 1 with fail
  rw [← hw1]
  clear hw1
  go_wp2_with fail
  go_ret
  exact ⟨rfl, HB.out⟩
theorem pblocks_pos (p : Nat) (w : World) (h0 : 1 ≤ p) (h1 : p ≤ 216) : Calls Try.prog 11 #[.agg (psC p)] w (VEnd (.int .i64 (2 + 2 * (itn p : Nat))) w) := by
  have hbig := (itn_big p h0 h1).2
  obtain ⟨n, hn⟩ : ∃ n, n = itn p := ⟨_, rfl⟩
  have it := fun w => pitems_any p w h1
  rw [← hn] at it hbig ⊢
  clear hn
  have p0 : ¬ (p : Int) = 0 := by omega
  have ha := at_new w (psC p) 23
  have hb : Below w.heap.size w (w.alloc (.cells (psC p) 23)) := (Below.refl _ _).alloc (Nat.le_refl _) _
  have ms : (psC p).size = 1 := rfl
  have c0 : (w.alloc (.cells (psC p) 23)).cell? ⟨w.heap.size, 0, none⟩ = some (.int .i64 (p : Int)) := ((at_new w (psC p) _).cell 0).trans rfl
  obtain ⟨M, hM⟩ : ∃ M, M = psC p := ⟨_, rfl⟩
  rw [← hM] at it ha hb ms c0 ⊢
  obtain ⟨w1, hw1⟩ : ∃ w1, w1 = w.alloc (.cells M 23) := ⟨_, rfl⟩
  rw [← hw1] at ha hb c0
  have HB := Lib.hid hb; have MS := Lib.hid ms; have AX := Lib.hid ha; have BS := Lib.hid hb.size
  have IT := Lib.hid it
  clear it hb ms hM ha 
  go_enter Try.func11, Try.ntmps11
  go_upto_region 1 with fail
  rw [← hw1]
  clear hw1
  go_wp2_with (refine wpList_load_all (by rfl) 23 _ (by rfl) w.heap.size (by rfl) _ Try.underlying23 (by rfl) M _ AX.out (by rw [MS.out]; exact infoPS) ?_)
  refine (IT.out _).mono ?_
  rintro e w2 ⟨rfl, hb2⟩
  have B2 := Lib.hid hb2
  clear hb2 c0
  go_wp2_with fail
  go_ret
  exact ⟨rfl, HB.out.trans (B2.out.mono BS.out)⟩
theorem pblocks_any (p : Nat) (w : World) (h1 : p ≤ 216) : Calls Try.prog 11 #[.agg (psC p)] w (VEnd (.int .i64 (blksP p)) w) := by
  unfold blksP
  rcases Nat.eq_zero_or_pos p with h | h
  · subst h; rw [if_pos rfl]; exact pblocks_0 w
  · rw [if_neg (by omega)]; exact pblocks_pos p w h h1
theorem plevelsn_0 (w : World) : Calls Try.prog 12 #[.agg (psC 0)] w (VEnd (.int .i64 0) w) := by
  have lv := fun w => plevels_0 w
  have ha := at_new w (psC 0) 23
  have hb : Below w.heap.size w (w.alloc (.cells (psC 0) 23)) := (Below.refl _ _).alloc (Nat.le_refl _) _
  have ms : (psC 0).size = 1 := rfl
  have c0 : (w.alloc (.cells (psC 0) 23)).cell? ⟨w.heap.size, 0, none⟩ = some (.int .i64 (0 : Int)) := ((at_new w (psC 0) _).cell 0).trans rfl
  obtain ⟨M, hM⟩ : ∃ M, M = psC 0 := ⟨_, rfl⟩
  rw [← hM] at lv ha hb ms c0 ⊢
  obtain ⟨w1, hw1⟩ : ∃ w1, w1 = w.alloc (.cells M 23) := ⟨_, rfl⟩
  rw [← hw1] at ha hb c0
  have HB := Lib.hid hb; have MS := Lib.hid ms; have AX := Lib.hid ha; have BS := Lib.hid hb.size
  have LV := Lib.hid lv
  clear hb ms hM ha lv
  go_enter Try.func12, Try.ntmps12
  go_upto_region 1 with fail
  rw [← hw1]
  clear hw1
  go_wp2_with (refine wpList_load_all (by rfl) 23 _ (by rfl) w.heap.size (by rfl) _ Try.underlying23 (by rfl) M _ AX.out (by rw [MS.out]; exact infoPS) ?_)
  refine (LV.out _).mono ?_
  rintro e w2 ⟨rfl, hb2⟩
  have B2 := Lib.hid hb2
  clear hb2 c0
  go_wp2_with fail
  go_ret
  exact ⟨rfl, HB.out.trans (B2.out.mono BS.out)⟩
theorem plevelsn_pos (p : Nat) (w : World) (h0 : 1 ≤ p) (h1 : p ≤ 216) : Calls Try.prog 12 #[.agg (psC p)] w (VEnd (.int .i64 ((topn p : Nat) + 1)) w) := by
  have lv := fun w => plevels_any p w h0 h1
  have ha := at_new w (psC p) 23
  have hb : Below w.heap.size w (w.alloc (.cells (psC p) 23)) := (Below.refl _ _).alloc (Nat.le_refl _) _
  have ms : (psC p).size = 1 := rfl
  have c0 : (w.alloc (.cells (psC p) 23)).cell? ⟨w.heap.size, 0, none⟩ = some (.int .i64 (p : Int)) := ((at_new w (psC p) _).cell 0).trans rfl
  obtain ⟨M, hM⟩ : ∃ M, M = psC p := ⟨_, rfl⟩
  rw [← hM] at lv ha hb ms c0 ⊢
  obtain ⟨w1, hw1⟩ : ∃ w1, w1 = w.alloc (.cells M 23) := ⟨_, rfl⟩
  rw [← hw1] at ha hb c0
  have HB := Lib.hid hb; have MS := Lib.hid ms; have AX := Lib.hid ha; have BS := Lib.hid hb.size
  have LV := Lib.hid lv
  clear hb ms hM ha lv
  go_enter Try.func12, Try.ntmps12
  go_upto_region 1 with fail
  rw [← hw1]
  clear hw1
  go_wp2_with (refine wpList_load_all (by rfl) 23 _ (by rfl) w.heap.size (by rfl) _ Try.underlying23 (by rfl) M _ AX.out (by rw [MS.out]; exact infoPS) ?_)
  refine (LV.out _).mono ?_
  rintro e w2 ⟨g, C, rfl, _, hb2⟩
  have B2 := Lib.hid hb2
  clear hb2 c0
  go_wp2_with fail
  go_ret
  exact ⟨by rfl, HB.out.trans (B2.out.mono BS.out)⟩
theorem plevelsn_any (p : Nat) (w : World) (h1 : p ≤ 216) : Calls Try.prog 12 #[.agg (psC p)] w (VEnd (.int .i64 (lvsP p)) w) := by
  unfold lvsP
  rcases Nat.eq_zero_or_pos p with h | h
  · subst h; rw [if_pos rfl]; exact plevelsn_0 w
  · rw [if_neg (by omega)]; exact plevelsn_pos p w h h1
theorem itn_le259 (p : Nat) (h1 : p ≤ 216) : itn p ≤ 259 := by
  rcases Nat.eq_zero_or_pos p with h | h
  · subst h; decide
  · exact (itn_big p h h1).2
theorem proot_any (p : Nat) (w : World) (h1 : p ≤ 216) : Calls Try.prog 13 #[.agg (psC p)] w (VEnd (.int .i64 ((itn p : Int) - 1)) w) := by
  have hbig := itn_le259 p h1
  obtain ⟨n, hn⟩ : ∃ n, n = itn p := ⟨_, rfl⟩
  have it := fun w => pitems_any p w h1
  rw [← hn] at it hbig ⊢
  clear hn
  have ha := at_new w (psC p) 23
  have hb : Below w.heap.size w (w.alloc (.cells (psC p) 23)) := (Below.refl _ _).alloc (Nat.le_refl _) _
  have ms : (psC p).size = 1 := rfl
  have c0 : (w.alloc (.cells (psC p) 23)).cell? ⟨w.heap.size, 0, none⟩ = some (.int .i64 (p : Int)) := ((at_new w (psC p) _).cell 0).trans rfl
  obtain ⟨M, hM⟩ : ∃ M, M = psC p := ⟨_, rfl⟩
  rw [← hM] at it ha hb ms c0 ⊢
  obtain ⟨w1, hw1⟩ : ∃ w1, w1 = w.alloc (.cells M 23) := ⟨_, rfl⟩
  rw [← hw1] at ha hb c0
  have HB := Lib.hid hb; have MS := Lib.hid ms; have AX := Lib.hid ha; have BS := Lib.hid hb.size
  have IT := Lib.hid it
  clear it hb ms hM ha 
  go_enter Try.func13, Try.ntmps13
  go_upto_region 1 with fail
  rw [← hw1]
  clear hw1
  go_wp2_with (refine wpList_load_all (by rfl) 23 _ (by rfl) w.heap.size (by rfl) _ Try.underlying23 (by rfl) M _ AX.out (by rw [MS.out]; exact infoPS) ?_)
  refine (IT.out _).mono ?_
  rintro e w2 ⟨rfl, hb2⟩
  have B2 := Lib.hid hb2
  clear hb2 c0
  go_wp2_with fail
  go_ret
  exact ⟨rfl, HB.out.trans (B2.out.mono BS.out)⟩
theorem plevel_0 (z : Int) (w : World) : Calls Try.prog 14 #[.agg (psC 0), .int .i64 z] w (VEnd (.int .i64 (-1)) w) := by
  have lv := fun w => plevels_0 w
  have ha := at_new w (psC 0) 23
  have hb : Below w.heap.size w (w.alloc (.cells (psC 0) 23)) := (Below.refl _ _).alloc (Nat.le_refl _) _
  have ms : (psC 0).size = 1 := rfl
  have c0 : (w.alloc (.cells (psC 0) 23)).cell? ⟨w.heap.size, 0, none⟩ = some (.int .i64 (0 : Int)) := ((at_new w (psC 0) _).cell 0).trans rfl
  obtain ⟨M, hM⟩ : ∃ M, M = psC 0 := ⟨_, rfl⟩
  rw [← hM] at lv ha hb ms c0 ⊢
  obtain ⟨w1, hw1⟩ : ∃ w1, w1 = w.alloc (.cells M 23) := ⟨_, rfl⟩
  rw [← hw1] at ha hb c0
  have HB := Lib.hid hb; have MS := Lib.hid ms; have AX := Lib.hid ha; have BS := Lib.hid hb.size
  have LV := Lib.hid lv
  clear hb ms hM ha lv
  go_enter Try.func14, Try.ntmps14
  go_upto_region 1 with fail
  rw [← hw1]
  clear hw1
  clear c0
  go_wp2_with (refine wpList_load_all (by rfl) 23 _ (by rfl) w.heap.size (by rfl) _ Try.underlying23 (by rfl) M _ AX.out (by rw [MS.out]; exact infoPS) ?_)
  refine (LV.out _).mono ?_
  rintro e w2 ⟨rfl, hb2⟩
  have B2 := Lib.hid hb2
  clear hb2
  go_wp2_with fail
  go_loopw [10] (fun v wr => v = .int .i64 0 ∧ wr = w2) (fun _ _ => 0)
  case atStart => exact ⟨rfl, rfl⟩
  case round =>
    obtain ⟨rfl, rfl⟩ := hrel
    go_wp2_with fail
    go_ret
    exact ⟨rfl, HB.out.trans (B2.out.mono BS.out)⟩
/-- What Level tells: the level within which the number lies. -/
theorem lvl_in (p k : Nat) (z : Int) (_h0 : 1 ≤ p) (_h1 : p ≤ 216) (hk : k < topn p + 1) (h : (stn p k : Int) ≤ z ∧ z < (stn p k : Int) + (lvn p k : Int)) : lvlP p z = (k : Int) := by
  have t := top_le p
  have s := stn_lvn p k (by omega)
  have m := stn_mono p (k + 1) (topn p + 1) (by omega) (by omega)
  have e : itn p = stn p (topn p + 1) := rfl
  obtain ⟨i, rfl⟩ : ∃ i : Nat, z = (i : Int) := ⟨z.toNat, by omega⟩
  have hl := lev_eq p i k (by omega) (by omega) (by omega)
  unfold lvlP
  rw [if_pos ⟨by omega, by omega⟩, Int.toNat_natCast, hl]
theorem lvl_out (p : Nat) (z : Int) (h : ∀ k, k < topn p + 1 → ¬ ((stn p k : Int) ≤ z ∧ z < (stn p k : Int) + (lvn p k : Int))) : lvlP p z = -1 := by
  unfold lvlP
  refine if_neg (fun hc => ?_)
  obtain ⟨i, rfl⟩ : ∃ i : Nat, z = (i : Int) := ⟨z.toNat, by omega⟩
  have h4 := itn_le p
  have lo := lev_lo p i
  have hi := lev_hi p i (by omega)
  have l3 := lev_le p i
  have s := stn_lvn p (lev p i) l3
  have t := top_le p
  have e : itn p = stn p (topn p + 1) := rfl
  have hlt : lev p i < topn p + 1 := by
    rcases Nat.lt_or_ge (lev p i) (topn p + 1) with a | a
    · exact a
    · have := stn_mono p (topn p + 1) (lev p i) a (by omega)
      omega
  exact h (lev p i) hlt ⟨by omega, by omega⟩
set_option maxHeartbeats 1000000 in
theorem plevel_pos (p : Nat) (z : Int) (w : World) (h0 : 1 ≤ p) (h1 : p ≤ 216) : Calls Try.prog 14 #[.agg (psC p), .int .i64 z] w (VEnd (.int .i64 (lvlP p z)) w) := by
  have hin := fun k hk h => lvl_in p k z h0 h1 hk h
  have hout := lvl_out p z
  obtain ⟨R, hR⟩ : ∃ R, R = lvlP p z := ⟨_, rfl⟩
  rw [← hR] at hin hout ⊢
  have ht := top_le p
  have hbd := fun k hk => stn_le p k hk h1
  have lv := fun w => plevels_any p w h0 h1
  unfold LvEnd at lv
  obtain ⟨t, htt⟩ : ∃ t, t = topn p := ⟨_, rfl⟩
  have hle : ∀ k, k < t + 1 → k ≤ topn p := fun k hk => by omega
  rw [← htt] at ht lv hin hout
  have LE := Lib.hid hle; have BD := Lib.hid hbd; have IN := Lib.hid hin; have OUT := Lib.hid hout
  clear hle hbd htt hin hout hR
  have ha := at_new w (psC p) 23
  have hb : Below w.heap.size w (w.alloc (.cells (psC p) 23)) := (Below.refl _ _).alloc (Nat.le_refl _) _
  have ms : (psC p).size = 1 := rfl
  have c0 : (w.alloc (.cells (psC p) 23)).cell? ⟨w.heap.size, 0, none⟩ = some (.int .i64 (p : Int)) := ((at_new w (psC p) _).cell 0).trans rfl
  obtain ⟨M, hM⟩ : ∃ M, M = psC p := ⟨_, rfl⟩
  rw [← hM] at lv ha hb ms c0 ⊢
  obtain ⟨w1, hw1⟩ : ∃ w1, w1 = w.alloc (.cells M 23) := ⟨_, rfl⟩
  rw [← hw1] at ha hb c0
  have HB := Lib.hid hb; have MS := Lib.hid ms; have AX := Lib.hid ha; have BS := Lib.hid hb.size
  have LV := Lib.hid lv
  clear lv hb ms hM ha 
  go_enter Try.func14, Try.ntmps14
  go_upto_region 1 with fail
  rw [← hw1]
  clear hw1
  clear c0
  go_wp2_with (refine wpList_load_all (by rfl) 23 _ (by rfl) w.heap.size (by rfl) _ Try.underlying23 (by rfl) M _ AX.out (by rw [MS.out]; exact infoPS) ?_)
  refine (LV.out _).mono ?_
  rintro e w2 ⟨g, C, rfl, hr, hb2⟩
  have B2 := Lib.hid hb2; have R2 := Lib.hid hr
  clear hb2 hr
  go_wp2_with fail
  go_loopw [10] (fun v wr => ∃ k : Nat, k ≤ t + 1 ∧ v = .int .i64 (k : Int) ∧ (∀ j, j < k → ¬ ((stn p j : Int) ≤ z ∧ z < (stn p j : Int) + (lvn p j : Int))) ∧ Below w2.heap.size w2 wr) (fun v _ => t + 1 - (intOf v).toNat)
  case atStart => exact ⟨0, by omega, rfl, fun j hj => by omega, Below.refl _ _⟩
  case round =>
    obtain ⟨k, hk, rfl, hno, hbw⟩ := hrel
    have NO := Lib.hid hno
    clear hno
    by_cases hlt : k < t + 1
    · have hlt' : (k : Int) < (t : Int) + 1 := by omega
      have hlt2 : (k : Int) < ((t + 1 : Nat) : Int) := by omega
      have RW := Lib.hid (R2.out.below hbw)
      have hd := BD.out k (by omega)
      have hext := RW.out.ext (LE.out k hlt)
      have hin := IN.out k hlt
      have hns : ¬ ((stn p k : Int) ≤ z ∧ z < (stn p k : Int) + (lvn p k : Int)) → ∀ j, j < k + 1 → ¬ ((stn p j : Int) ≤ z ∧ z < (stn p j : Int) + (lvn p j : Int)) := fun h j hj => by
        rcases Nat.lt_or_ge j k with a | a
        · exact NO.out j a
        · rw [show j = k by omega]; exact h
      obtain ⟨f, hf⟩ : ∃ f, f = stn p k := ⟨_, rfl⟩
      obtain ⟨m, hm⟩ : ∃ m, m = lvn p k := ⟨_, rfl⟩
      rw [← hf, ← hm] at hd hext hin hns
      have c1 : (wr.alloc (.cells #[.int .i64 (f : Int), .int .i64 (m : Int)] 47)).cell? ⟨wr.heap.size, 1, none⟩ = some (.int .i64 (m : Int)) := ((at_new wr _ _).cell 1).trans rfl
      have c0 : (wr.alloc (.cells #[.int .i64 (f : Int), .int .i64 (m : Int)] 47)).cell? ⟨wr.heap.size, 0, none⟩ = some (.int .i64 (f : Int)) := ((at_new wr _ _).cell 0).trans rfl
      have hx := zeroLv
      have B4 : Hid (Below w2.heap.size w2 (wr.alloc (.cells #[.int .i64 (f : Int), .int .i64 (m : Int)] 47))) := Lib.hid (hbw.alloc hbw.size _)
      have EX := Lib.hid hext; have IK := Lib.hid hin; have NS := Lib.hid hns
      have hsz : k * 2 + 2 ≤ C.size := by rw [RW.out.size]; omega
      have SZ := Lib.hid hsz
      have WI := Lib.hid (fun w => within_any z (f : Int) (m : Int) w (by omega) (by omega) (by omega))
      clear hext hf hm hbw hsz hin hns
      go_wp2_with (first
        | (refine wpList_load_is (by rfl) 47 _ (by rfl) g (k * 2) 2 (by rfl) _ Try.underlying47 (by rfl) infoLv C 47 RW.out.row SZ.out #[.int .i64 (f : Int), .int .i64 (m : Int)] EX.out ?_)
        | (refine wpList_store_new (by rfl) 47 _ _ (by rfl) (by rfl) #[.int .i64 (f : Int), .int .i64 (m : Int)] _ _ (by rfl) (by rfl) infoLv (by rfl) (two_one _ _) ?_))
      refine (WI.out _).mono ?_
      rintro e w5 ⟨rfl, rfl⟩
      clear c0 c1 hx
      generalize (wr.alloc (.cells #[.int .i64 (f : Int), .int .i64 (m : Int)] 47)) = w5 at *
      by_cases hw : (f : Int) ≤ z ∧ z < (f : Int) + (m : Int)
      · rw [decide_eq_true hw]
        have HR := Lib.hid (IK.out hw)
        clear hw
        go_wp2_with fail
        go_ret
        exact ⟨by rw [HR.out]; rfl, HB.out.trans ((B2.out.trans (B4.out.mono B2.out.size)).mono BS.out)⟩
      · rw [decide_eq_false hw]
        have NK := Lib.hid (NS.out hw)
        clear hw
        go_wp2_with fail
        go_roundw
        case rel => exact ⟨k + 1, by omega, by go_num, NK.out, B4.out⟩
        case measure => simp [intOf]; omega
    · have hke : k = t + 1 := by omega
      have hge : ¬ (k : Int) < (t : Int) + 1 := by omega
      subst hke
      have BW := Lib.hid hbw; have HR := Lib.hid (OUT.out NO.out)
      clear hbw
      go_wp2_with fail
      go_ret
      exact ⟨by rw [HR.out]; rfl, HB.out.trans ((B2.out.trans (BW.out.mono B2.out.size)).mono BS.out)⟩
theorem plevel_any (p : Nat) (z : Int) (w : World) (h1 : p ≤ 216) : Calls Try.prog 14 #[.agg (psC p), .int .i64 z] w (VEnd (.int .i64 (lvlP p z)) w) := by
  rcases Nat.eq_zero_or_pos p with h | h
  · subst h
    have e : lvlP 0 z = -1 := by unfold lvlP; rw [itn_0]; exact if_neg (by omega)
    rw [e]; exact plevel_0 z w
  · exact plevel_pos p z w h h1
end Sha
end Go.Proofs.Ytbboljmemomcnaa
