/- The document's turning left, quarter round and its way back: their walks. -/
import Derived.Test.YtikfhabcjjoloaaDoorCipMath
import Derived.Test.YtikfhabcjjoloaaDoorSl
namespace Go.Proofs.YtikfhabcjjoloaaDoor
namespace Sha
open Go.RowKit Mem
set_option maxRecDepth 100000 in
set_option maxHeartbeats 400000 in
theorem left_any (x : BitVec 32) (n : Nat) (w : World) (hn : n < 32) :
    Calls Tryd.prog 27 #[.int .u32 (V x), .int .i64 (n : Int)] w fun e w' => e = .returned (.int .u32 (V (x.rotateLeft n))) ∧ w = w' := by
  go_enter Tryd.func27, Tryd.ntmps27
  go_wp2_with fail
  go_loop [0, 5] (fun v i => ∃ k : Nat, k ≤ n ∧ i = .int .i64 k ∧ v = .int .u32 (V (x.rotateLeft k))) (fun _ i => n - (intOf i).toNat)
  case atStart => exact ⟨0, by omega, rfl, by rw [rotl_zero]⟩
  case round =>
    obtain ⟨k, hk, rfl, rfl⟩ := hrel
    obtain ⟨y, hy⟩ : ∃ y, y = x.rotateLeft k := ⟨_, rfl⟩
    by_cases hlt : k < n
    · have hs := lf_val x k (by omega)
      rw [← hy] at hs ⊢
      have v0 := V_lo y
      have v1 := V_hi y
      have hlt' : (k : Int) < (n : Int) := by omega
      have HS := Lib.hid hs
      clear hs hy
      go_wp2
      go_round
      case rel => exact ⟨k + 1, by omega, by go_num, by rw [← HS.out]; congr 1; first | omega | (rw [Int.tdiv_eq_ediv_of_nonneg v0]; omega)⟩
      case measure => simp [intOf]; omega
    · have hkn : k = n := by omega
      rw [← hy]
      have HY : Hid (y = x.rotateLeft n) := by rw [hy, hkn]; exact (rfl : x.rotateLeft n = x.rotateLeft n)
      have hge : ¬ (k : Int) < (n : Int) := by omega
      clear hy hkn hlt
      go_wp2
      go_ret
      exact ⟨by rw [← HY.out]; rfl, rfl⟩
end Sha
end Go.Proofs.YtikfhabcjjoloaaDoor
