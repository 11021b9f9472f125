/- The walks of the digest's small functions: turning a word, a state's length, the length of its tail, a new state, a round constant. -/
import Derived.Test.YtngegegomkclbaaDoorChecked
import Derived.Test.YtngegegomkclbaaDoorShaMath
import Derived.WalkSpells
import Derived.WalkLawsBesides
import Derived.Lib.Hide
import Derived.Deep.QuietTactic
import Derived.BigQuiet
import Derived.Deep.MidRow
import Derived.Deep.DeepFit
namespace Go.Proofs.YtngegegomkclbaaDoor
namespace Sha
open Go.RowKit

theorem rotl_val (x : BitVec 32) (k : Nat) (hk : k < 32) :
    bits BinOp.or IntKind.u32 (V x * 2 ^ k % 4294967296) (V x / 2 ^ (32 - k)) = V (x.rotateLeft k) := by
  have e1 : V x * 2 ^ k % 4294967296 = V (x <<< k) := by
    unfold V
    rw [BitVec.toNat_shiftLeft, Nat.shiftLeft_eq]
    show _ = ((x.toNat * 2 ^ k % 4294967296 : Nat) : Int)
    rw [Int.natCast_emod, Int.natCast_mul, Int.natCast_pow]; rfl
  have e2 : V x / 2 ^ (32 - k) = V (x >>> (32 - k)) := by
    unfold V
    rw [BitVec.toNat_ushiftRight, Nat.shiftRight_eq_div_pow, Int.natCast_ediv, Int.natCast_pow]; rfl
  rw [e1, e2, r_or, BitVec.rotateLeft_def, Nat.mod_eq_of_lt hk]
set_option maxHeartbeats 400000 in
theorem rotl_any (x : BitVec 32) (n : Int) (k : Nat) (w : World) (hk : bits BinOp.and IntKind.u64 (IntKind.u64.wrap n) 31 = (k : Int)) (hk' : k < 32) :
    Calls Tryd.prog 42 #[.int .u32 (V x), .int .i64 n] w fun e w' => e = .returned (.int .u32 (V (x.rotateLeft k))) ∧ w = w' := by
  have hv0 := V_lo x
  have hv1 := V_hi x
  go_enter Tryd.func42, Tryd.ntmps42
  go_wp2
  go_ret
  exact ⟨congrArg (fun q => Ending.returned (.int .u32 q)) (rotl_val x k hk'), rfl⟩
set_option maxHeartbeats 400000 in
theorem tailSize_any (C : Array Value) (n : Nat) (w : World) (h1 : C[72]? = some (.int .u64 n)) :
    Calls Tryd.prog 51 #[.agg C] w fun e w' => e = .returned (.int .i64 (n % 64 : Nat)) ∧ Below w.heap.size w w' := by
  have h2 : n % 64 < 64 := Nat.mod_lt _ (by decide)
  go_enter Tryd.func51, Tryd.ntmps51
  go_wp2
  go_ret
  exact ⟨rfl, (Below.refl _ _).alloc (Nat.le_refl _) _⟩
set_option maxHeartbeats 400000 in
theorem const_none (n : Int) (w : World) (h1 : -9223372036854775808 ≤ n) (h2 : n ≤ 9223372036854775807) (h : n < 0 ∨ 64 ≤ n) :
    Calls Tryd.prog 29 #[.int .i64 n] w fun e w' => e = .returned (.int .u32 0) ∧ w = w' := by
  rcases h with h | h
  · go_enter Tryd.func29, Tryd.ntmps29
    go_wp2
    go_ret
    exact ⟨rfl, rfl⟩
  · have h' : ¬ n < 0 := by omega
    go_enter Tryd.func29, Tryd.ntmps29
    go_wp2
    go_ret
    exact ⟨rfl, rfl⟩
set_option maxHeartbeats 400000 in
theorem const_at (n : Nat) (w : World) (x : BitVec 32) (h : n < 64) (hc : w.cell? ⟨0, n, none⟩ = some (.int .u32 (V x))) :
    Calls Tryd.prog 29 #[.int .i64 n] w fun e w' => e = .returned (.int .u32 (V x)) ∧ w = w' := by
  have h' : ¬ (n : Int) < 0 := by omega
  have h'' : ¬ (64 : Int) ≤ n := by omega
  go_enter Tryd.func29, Tryd.ntmps29
  go_wp2
  go_ret
  exact ⟨rfl, rfl⟩
set_option maxHeartbeats 400000 in
theorem turn_any (x : BitVec 32) (n : Int) (r : Nat) (w : World) (hr : (n % 32).toNat = r) (_h0 : -9223372036854775808 ≤ n) (_h1 : n ≤ 9223372036854775807) :
    Calls Tryd.prog 28 #[.int .u32 (V x), .int .i64 n] w fun e w' => e = .returned (.int .u32 (V (x.rotateRight r))) ∧ w = w' := by
  have ht : n.tmod 32 = n % 32 ∨ (n.tmod 32 = n % 32 - 32 ∧ n % 32 ≠ 0) := by
    rw [Int.tmod_eq_emod]
    split
    · left; omega
    · rename_i h
      right
      refine ⟨by simp, fun e => h (Or.inr (Int.dvd_of_emod_eq_zero e))⟩
  have hm : -32 < n.tmod 32 ∧ n.tmod 32 < 32 := by omega
  have hk : (-n.tmod 32 % 32).toNat = (32 - r) % 32 := by omega
  have hr32 : r < 32 := by omega
  have hw : wrap64 (-n.tmod 32) = -n.tmod 32 := IntWalk.wrap64_in _ (by omega)
  have c : Calls Tryd.prog 42 #[.int .u32 (V x), .int .i64 (wrap64 (-n.tmod 32))] w fun e w' => e = .returned (.int .u32 (V (x.rotateRight r))) ∧ w = w' := by
    rw [hw, ← rotr_rotl x r hr32, ← hk]
    exact rotl_any x _ _ w (and31 _) (by omega)
  clear ht hm hk hw
  have HR := Lib.hid hr; clear hr
  have C := Lib.hid c; clear c
  go_enter Tryd.func28, Tryd.ntmps28
  go_wp2_with (go_at_call 42; refine C.out.mono ?_; rintro e w' ⟨rfl, rfl⟩)
  go_ret
  exact ⟨rfl, rfl⟩
end Sha
end Go.Proofs.YtngegegomkclbaaDoor
