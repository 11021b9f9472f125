/- Package dev: New, Tamper, Restore refused, Put refused: walks. -/
import Derived.Test.YtkgpcgkikenljaaDevPNote
namespace Go.Proofs.Ytkgpcgkikenljaa
namespace Sha
open Go.RowKit Mem
set_option maxHeartbeats 1000000 in
theorem pnew_bad (n : Int) (w : World) (hn : n < 1 ∨ 1024 < n) : Calls Try.prog 7 #[.int .i64 n] w (Told w (.tuple #[.pointer none, .int .i64 1])) := by
  by_cases h1 : n < 1
  · clear hn
    go_enter Try.func7, Try.ntmps7
    go_wp2_with fail
    go_ret2
    exact ⟨rfl, Below.refl _ _⟩
  · have h2 : 1024 < n := by omega
    clear hn
    go_enter Try.func7, Try.ntmps7
    go_wp2_with fail
    go_ret2
    exact ⟨rfl, Below.refl _ _⟩
theorem pst_new {w w4 : World} {bb n : Nat} (hr : At w4 bb (u8s (List.replicate (n * 256) 0)).toArray 5) (_hw : w.heap.size ≤ bb) :
    PSt (fun k => k = bb ∨ k = w4.heap.size) w4.heap.size (w4.alloc (.cells (pRow bb n (.slice none 0 0) (.slice none 0 0) (.slice none 0 0)) 62)) (stNew n) := by
  have hlt := hr.lt
  refine ⟨fun _ => False, bb, _, _, _, .inr rfl, fun k hk => ?_, at_new w4 _ _, ⟨.inl rfl, by omega, hr.alloc _, by simp [stNew], fun k hk => by simp [Value.ownBlock] at hk, fun k hk => by simp [Value.ownBlock] at hk, fun k hk => by simp [Value.ownBlock] at hk, fun k hk => hk.elim,
    ⟨[], trivial, ownsRow_nil0 _ _ _ _⟩, ⟨[], trivial, ownsRow_nil0 _ _ _ _⟩, ownsRow_nil0 _ _ _ _⟩⟩
  rw [World.size_alloc]; rcases hk with rfl | rfl <;> omega
set_option maxRecDepth 100000 in
set_option maxHeartbeats 1000000 in
theorem pnew_good (n : Nat) (w : World) (h1 : 1 ≤ n) (h2 : n ≤ 1024) : Calls Try.prog 7 #[.int .i64 (n : Int)] w fun e w' => ∃ b F, e = .returned (.tuple #[rq b, .int .i64 0]) ∧ PSt F b w' (stNew n) ∧ (∀ k, F k → w.heap.size ≤ k) ∧ Below w.heap.size w w' := by
  obtain ⟨i8, hi8, hz8, hs8, hb8⟩ := info_parts infoU8
  have g1 : ¬ (n : Int) < 1 := by omega
  have g2 : ¬ (1024 : Int) < (n : Int) := by omega
  obtain ⟨T, hT⟩ : ∃ T, T = n * 256 := ⟨_, rfl⟩
  have hTi : (n : Int) * 256 = (T : Int) := by omega
  have hT6 : T ≤ 262144 := by omega
  have I8 := Lib.hid hi8; have Z8 := Lib.hid hz8; have S8 := Lib.hid hs8; have B8' := Lib.hid hb8; have TI := Lib.hid hTi; have HT := Lib.hid hT
  clear hi8 hz8 hs8 hb8 hT hTi
  go_enter Try.func7, Try.ntmps7
  go_wp2_with (refine wpList_make_full _ (by rfl) _ _ 27 (by rfl) w.heap.size 5 i8 (.int .u8 0) 1 Try.underlying27 I8.out Z8.out S8.out .i64 .i64 ((n : Int) * 256) ((n : Int) * 256) T (by rfl) (by rfl) TI.out TI.out (by rw [B8'.out]; omega) (by simp [maxLen]; omega) (Nat.le_refl _) ?_; intro w4 ho4 hg4; have R4 : Hid (At w4 w.heap.size (u8s (List.replicate T 0)).toArray 5) := (by have h := own_full ho4; rw [made_zeros] at h; exact h); have B4 : Hid (Below w.heap.size w w4) := (Below.refl _ _).grown hg4 (Nat.le_refl _) (fun _ h => by cases h); clear ho4)
  go_ret2
  have h := pst_new (w := w) (w4 := w4) (bb := w.heap.size) (n := n) (by rw [← HT.out]; exact R4.out) (Nat.le_refl _)
  unfold pRow pBl at h
  rw [← HT.out] at h
  exact ⟨w4.heap.size, rfl, _, h, fun k hk => by have h5 := B4.out.size; rcases hk with rfl | rfl <;> omega, B4.out.alloc B4.out.size _⟩
end Sha
end Go.Proofs.Ytkgpcgkikenljaa
