/- The program's shape: Items, Blocks, Levels, Root, Level. -/
import Derived.Test.YtbboljmemomcnaaShpPLev
namespace Go.Proofs.Ytbboljmemomcnaa
namespace Sha
open Go.RowKit Mem
set_option maxRecDepth 100000
theorem zeroLv (w : World) : (zeroValue 47).run Try.prog w = .ok (.agg #[.int .i64 0, .int .i64 0]) w := by kernel_rfl
theorem pitems_0 (w : World) : Calls Try.prog 10 #[.agg (psC 0)] w (VEnd (.int .i64 0) w) := by
  have lv := fun w => plevels_0 w
  have ha := at_new w (psC 0) 23
  have hb : Below w.heap.size w (w.alloc (.cells (psC 0) 23)) := (Below.refl _ _).alloc (Nat.le_refl _) _
  have ms : (psC 0).size = 1 := rfl
  obtain ⟨M, hM⟩ : ∃ M, M = psC 0 := ⟨_, rfl⟩
  rw [← hM] at lv ha hb ms ⊢
  obtain ⟨w1, hw1⟩ : ∃ w1, w1 = w.alloc (.cells M 23) := ⟨_, rfl⟩
  rw [← hw1] at ha hb
  have HB := Lib.hid hb; have MS := Lib.hid ms; have LV := Lib.hid lv; have AX := Lib.hid ha; have BS := Lib.hid hb.size
  clear hb ms hM lv ha
  go_enter Try.func10, Try.ntmps10
  go_upto_region 1 with fail
  rw [← hw1]
  clear hw1
  go_wp2_with (refine wpList_load_all (by rfl) 23 _ (by rfl) w.heap.size (by rfl) _ Try.underlying23 (by rfl) M _ AX.out (by rw [MS.out]; exact infoPS) ?_)
  refine (LV.out _).mono ?_
  rintro e w2 ⟨rfl, hb2⟩
  have B2 := Lib.hid hb2
  clear hb2
  go_wp2_with fail
  go_loopw [3, 9] (fun s v wr => s = .int .i64 0 ∧ v = .int .i64 0 ∧ wr = w2) (fun _ _ _ => 0)
  case atStart => exact ⟨rfl, rfl, rfl⟩
  case round =>
    obtain ⟨rfl, rfl, rfl⟩ := hrel
    go_wp2_with fail
    go_ret
    exact ⟨rfl, HB.out.trans (B2.out.mono BS.out)⟩
set_option maxHeartbeats 1000000 in
theorem pitems_pos (p : Nat) (w : World) (h0 : 1 ≤ p) (h1 : p ≤ 216) : Calls Try.prog 10 #[.agg (psC p)] w (VEnd (.int .i64 (itn p : Nat)) w) := by
  have lv := fun w => plevels_any p w h0 h1
  have ha := at_new w (psC p) 23
  have hb : Below w.heap.size w (w.alloc (.cells (psC p) 23)) := (Below.refl _ _).alloc (Nat.le_refl _) _
  have ms : (psC p).size = 1 := rfl
  obtain ⟨M, hM⟩ : ∃ M, M = psC p := ⟨_, rfl⟩
  rw [← hM] at lv ha hb ms ⊢
  obtain ⟨w1, hw1⟩ : ∃ w1, w1 = w.alloc (.cells M 23) := ⟨_, rfl⟩
  rw [← hw1] at ha hb
  have ht := top_le p
  have hst := fun k hk => stn_lvn p k hk
  have hbd := fun k hk => stn_le p k hk h1
  have hit : itn p = stn p (topn p + 1) := rfl
  obtain ⟨t, htt⟩ : ∃ t, t = topn p := ⟨_, rfl⟩
  have hle : ∀ k, k < t + 1 → k ≤ topn p := fun k hk => by omega
  unfold LvEnd at lv
  rw [← htt] at ht hit lv
  rw [hit]
  have HB := Lib.hid hb; have MS := Lib.hid ms; have LV := Lib.hid lv; have AX := Lib.hid ha; have BS := Lib.hid hb.size; have ST := Lib.hid hst; have BD := Lib.hid hbd; have LE := Lib.hid hle
  clear hb ms hM lv ha hst hbd hit hle htt
  go_enter Try.func10, Try.ntmps10
  go_upto_region 1 with fail
  rw [← hw1]
  clear hw1
  go_wp2_with (refine wpList_load_all (by rfl) 23 _ (by rfl) w.heap.size (by rfl) _ Try.underlying23 (by rfl) M _ AX.out (by rw [MS.out]; exact infoPS) ?_)
  refine (LV.out _).mono ?_
  rintro e w2 ⟨g, C, rfl, hr, hb2⟩
  have B2 := Lib.hid hb2; have R2 := Lib.hid hr
  clear hb2 hr
  go_wp2_with fail
  go_loopw [3, 9] (fun s v wr => ∃ k : Nat, k ≤ t + 1 ∧ s = .int .i64 (stn p k : Nat) ∧ v = .int .i64 (k : Int) ∧ Below w2.heap.size w2 wr) (fun _ v _ => t + 1 - (intOf v).toNat)
  case atStart => exact ⟨0, by omega, rfl, rfl, Below.refl _ _⟩
  case round =>
    obtain ⟨k, hk, rfl, rfl, hbw⟩ := hrel
    by_cases hlt : k < t + 1
    · have hlt' : (k : Int) < (t : Int) + 1 := by omega
      have hlt2 : (k : Int) < ((t + 1 : Nat) : Int) := by omega
      have RW := Lib.hid (R2.out.below hbw)
      have hs := ST.out k (by omega)
      have hd := BD.out k (by omega)
      have hext := RW.out.ext (LE.out k hlt)
      obtain ⟨f, hf⟩ : ∃ f, f = stn p k := ⟨_, rfl⟩
      obtain ⟨m, hm⟩ : ∃ m, m = lvn p k := ⟨_, rfl⟩
      rw [← hf, ← hm] at hs hd hext
      rw [← hf]
      have c1 : (wr.alloc (.cells #[.int .i64 (f : Int), .int .i64 (m : Int)] 47)).cell? ⟨wr.heap.size, 1, none⟩ = some (.int .i64 (m : Int)) := ((at_new wr _ _).cell 1).trans rfl
      have hx := zeroLv
      have B4 : Hid (Below w2.heap.size w2 (wr.alloc (.cells #[.int .i64 (f : Int), .int .i64 (m : Int)] 47))) := Lib.hid (hbw.alloc hbw.size _)
      have EX := Lib.hid hext; have HS := Lib.hid hs
      have hsz : k * 2 + 2 ≤ C.size := by rw [RW.out.size]; omega
      have SZ := Lib.hid hsz
      clear hext hs hf hm hbw hsz
      go_wp2_with (first
        | (refine wpList_load_is (by rfl) 47 _ (by rfl) g (k * 2) 2 (by rfl) _ Try.underlying47 (by rfl) infoLv C 47 RW.out.row SZ.out #[.int .i64 (f : Int), .int .i64 (m : Int)] EX.out ?_)
        | (refine wpList_store_new (by rfl) 47 _ _ (by rfl) (by rfl) #[.int .i64 (f : Int), .int .i64 (m : Int)] _ _ (by rfl) (by rfl) infoLv (by rfl) (two_one _ _) ?_))
      go_roundw
      case rel => exact ⟨k + 1, by omega, by rw [HS.out]; go_num, by go_num, B4.out⟩
      case measure => simp [intOf]; omega
    · have hke : k = t + 1 := by omega
      have hge : ¬ (k : Int) < (t : Int) + 1 := by omega
      subst hke
      have BW := Lib.hid hbw
      clear hbw
      go_wp2_with fail
      go_ret
      exact ⟨rfl, HB.out.trans ((B2.out.trans (BW.out.mono B2.out.size)).mono BS.out)⟩
theorem itn_0 : itn 0 = 0 := rfl
theorem pitems_any (p : Nat) (w : World) (h1 : p ≤ 216) : Calls Try.prog 10 #[.agg (psC p)] w (VEnd (.int .i64 (itn p : Nat)) w) := by
  rcases Nat.eq_zero_or_pos p with h | h
  · subst h; exact pitems_0 w
  · exact pitems_pos p w h h1
end Sha
end Go.Proofs.Ytbboljmemomcnaa
