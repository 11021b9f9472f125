/- The document's anchor: in, May, low, num: walks. -/
import Derived.Test.YtknaimpnkflfnaaAncConv
import Derived.Test.YtknaimpnkflfnaaFoot
import Derived.Test.YtknaimpnkflfnaaEnds
import Derived.Test.YtknaimpnkflfnaaSlice
import Derived.Test.YtknaimpnkflfnaaPlan3
namespace Go.Proofs.Ytknaimpnkflfnaa
namespace Sha
open Go.RowKit Mem
set_option maxHeartbeats 1000000 in
theorem rin_any (z a b : Int) (w : World) : Calls Try.prog 27 #[.int .i64 z, .int .i64 a, .int .i64 b] w fun e w' => e = .returned (.bool (decide (a ≤ z ∧ z ≤ b))) ∧ w = w' := by
  by_cases h1 : a ≤ z
  · by_cases h2 : z ≤ b
    · have hd : decide (a ≤ z ∧ z ≤ b) = true := decide_eq_true ⟨h1, h2⟩
      rw [hd]
      clear hd
      go_enter Try.func27, Try.ntmps27
      go_wp2_with fail
      go_ret
      exact ⟨rfl, rfl⟩
    · have hd : decide (a ≤ z ∧ z ≤ b) = false := decide_eq_false fun h => h2 h.2
      rw [hd]
      clear hd
      go_enter Try.func27, Try.ntmps27
      go_wp2_with fail
      go_ret
      exact ⟨rfl, rfl⟩
  · have hd : decide (a ≤ z ∧ z ≤ b) = false := decide_eq_false fun h => h1 h.1
    rw [hd]
    clear hd
    go_enter Try.func27, Try.ntmps27
    go_wp2_with fail
    go_ret
    exact ⟨rfl, rfl⟩
theorem o_shru {P : Program} (t t2 : TypeId) (x y : Operand) (a k : Nat) (K : Int) (hK : K = (k : Int)) (_hk : k < 64) (ha : a < 18446744073709551616) (w : World) : (do eqGuard .shr t x y (.int .u64 (a : Int)) (.int .i64 K); binOp .shr t2 (.int .u64 (a : Int)) (.int .i64 K) : Sem Value).run P w = .ok (.int .u64 ((a / 2 ^ k : Nat) : Int)) w := by
  subst hK
  have h0 : a / 2 ^ k < 18446744073709551616 := Nat.lt_of_le_of_lt (Nat.div_le_self _ _) ha
  go_simp
theorem conv_64b (q : Nat) (w : World) : (convert 24 5 (.int .u64 (q : Int))).run Try.prog w = .ok (.int .u8 (B8 (BitVec.ofNat 8 q))) w := by
  have e : B8 (BitVec.ofNat 8 q) = (q : Int) % 256 := by unfold B8; rw [BitVec.toNat_ofNat]; omega
  rw [e]
  go_simp
  exact IntKind.wrap_u8 _
theorem lit8 {w : World} {u : Value} : Rd (w.alloc (.cells #[u] 5)) (.slice (some ⟨w.heap.size, 0, none⟩) 1 1) [u] :=
  ⟨_, _, rfl, fun _ => ⟨_, rfl, fun i v hv => by rw [Addr.add_mid, Nat.zero_add, (at_new w #[u] 5).cell, ← hv]; simp⟩⟩
structure LowInv (m : Nat) (w : World) (j : Nat) (v : Value) (wr : World) : Prop where
  own : OwnB wr w.heap.size v (nbytes m j)
  b : Below w.heap.size w wr
set_option maxRecDepth 100000 in
set_option maxHeartbeats 2000000 in
theorem rlow_any (m k : Nat) (w : World) (hm : m < 18446744073709551616) (hk : k ≤ 8) : Calls Try.prog 25 #[.int .u64 (m : Int), .int .i64 (k : Int)] w (PadEnd w (nbytes m k)) := by
  go_enter Try.func25, Try.ntmps25
  go_wp2_with fail
  go_loopw [5, 6] (fun v i wr => ∃ j : Nat, j ≤ k ∧ i = .int .i64 j ∧ LowInv m w j v wr) (fun _ i _ => k - (intOf i).toNat)
  case atStart => exact ⟨0, by omega, rfl, ⟨OwnB.nil _ _, Below.refl _ _⟩⟩
  case round =>
    obtain ⟨j, hj, rfl, hI⟩ := hrel
    by_cases hlt : j < k
    · have hlt' : (j : Int) < (k : Int) := by omega
      have hsh := fun (t t2 : TypeId) (x y : Operand) (wx : World) => o_shru (P := Try.prog) t t2 x y m (8 * j) (8 * (j : Int)) (by omega) (by omega) hm wx
      have hcv := fun (wx : World) => conv_64b (m / 2 ^ (8 * j)) wx
      have hnb : BitVec.ofNat 8 (m / 2 ^ (8 * j)) = nbyte m j := by unfold nbyte; rw [Nat.pow_mul]
      rw [hnb] at hcv
      obtain ⟨q, hq⟩ : ∃ q, q = m / 2 ^ (8 * j) := ⟨_, rfl⟩
      rw [← hq] at hsh hcv
      have hal : Below wr.heap.size wr (wr.alloc (.cells #[.int .u8 (B8 (nbyte m j))] 5)) := (Below.refl _ _).alloc (Nat.le_refl _) _
      have hB : Below w.heap.size w (wr.alloc (.cells #[.int .u8 (B8 (nbyte m j))] 5)) := hI.b.trans (hal.mono hI.b.size)
      have ho := ownB_V (hI.own.below hal)
      have SHR := Lib.hid hsh; have CV := Lib.hid hcv; have HB := Lib.hid hB; have HO := Lib.hid ho
      have hln : (u8s (nbytes m j)).length = j := by rw [u8s_length, nbytes_length]
      have HLN := Lib.hid hln
      clear hsh hcv hnb hq hal hB ho hI hln
      go_wp2_with (first
        | (refine wpList_bin (by rfl) .shr _ _ _ _ _ _ _ (by rfl) (by rfl) (by rfl) (fun wx => SHR.out _ _ _ _ wx) ?_)
        | (refine wpList_conv (by rfl) _ _ _ _ _ (by rfl) (by rfl) (fun wx => CV.out wx) ?_)
        | (at_builtin; refine wpList_append_rd (by rfl) _ _ 27 (by rfl) (.slice (some ⟨wr.heap.size, 0, none⟩) 1 1) [.int .u8 (B8 (nbyte m j))] (.int .u8 0) 1 elemB8 (by rfl) (by rfl) HO.out (by rfl) (lit8 (w := wr)) (by simp [Value.oneCell']) (by rw [HLN.out]; simp; omega) (by rw [HLN.out]; simp; omega) HB.out.size ?_; intro v5 w5 ho5 _ hb5 _; have I5 : Hid (LowInv m w (j + 1) v5 w5) := ⟨by rw [nbytes_succ]; exact ownV_B (by rw [u8s_snoc]; exact ho5), HB.out.trans hb5⟩; clear ho5 hb5))
      go_roundw
      case rel => exact ⟨j + 1, by omega, by go_num, I5.out⟩
      case measure => simp [intOf]; omega
    · have hge : ¬ (j : Int) < (k : Int) := by omega
      have hjk : j = k := by omega
      subst hjk
      have HI := Lib.hid hI
      clear hI hlt
      go_wp2_with fail
      go_ret
      exact ⟨_, rfl, HI.out.own, HI.out.b⟩
set_option maxRecDepth 100000 in
set_option maxHeartbeats 2000000 in
theorem rnum_any (l : List (BitVec 8)) (v : Value) (w : World) (hv : Sl w v l) (hl : l.length ≤ 8) : Calls Try.prog 33 #[v] w fun e w' => e = .returned (.int .u64 ((leN l : Nat) : Int)) ∧ w = w' := by
  have hv0 := hv
  obtain ⟨a0, cap, rfl, _, _⟩ := hv
  obtain ⟨n, hn⟩ : ∃ n, n = l.length := ⟨_, rfl⟩
  have hst : ∀ i, i < n → leN (l.drop i) = (l.getD i 0).toNat + 256 * leN (l.drop (i + 1)) := fun i hi => leN_drop l i (by omega)
  have h64 : ∀ i, leN (l.drop i) < 18446744073709551616 := fun i => leN_64 _ (by rw [List.length_drop]; omega)
  have hend : leN (l.drop n) = 0 := by rw [List.drop_of_length_le (by omega)]; rfl
  have hat : ∀ i, i < n → ∃ b o, a0 = some ⟨b, o, none⟩ ∧ w.cell? ⟨b, o + i, none⟩ = some (.int .u8 (B8 (l.getD i 0))) := fun i hi => sl_at hv0 (by omega)
  rw [← hn] at hl ⊢
  have ST := Lib.hid hst; have H64 := Lib.hid h64; have HE := Lib.hid hend; have HAT := Lib.hid hat
  clear hst h64 hend hat hv0 hn
  go_enter Try.func33, Try.ntmps33
  go_wp2_with fail
  go_loopw [3, 4] (fun m i wr => ∃ k : Nat, k ≤ n ∧ i = .int .i64 ((k : Int) - 1) ∧ m = .int .u64 ((leN (l.drop k) : Nat) : Int) ∧ wr = w) (fun _ i _ => (intOf i + 1).toNat)
  case atStart => exact ⟨n, Nat.le_refl _, rfl, by rw [HE.out]; rfl, rfl⟩
  case round =>
    obtain ⟨k, hk, rfl, rfl, rfl⟩ := hrel
    cases k with
    | zero =>
      rw [List.drop_zero]
      go_wp2_with fail
      go_ret
      exact ⟨rfl, rfl⟩
    | succ k =>
      have hi : ((k + 1 : Nat) : Int) - 1 = (k : Int) := by omega
      rw [hi]
      obtain ⟨b, o, e1, cx⟩ := HAT.out k (by omega)
      subst e1
      have hs := ST.out k (by omega)
      have hlt := H64.out k
      have hb := (l.getD k 0).isLt
      have hb8 : B8 (l.getD k 0) = ((l.getD k 0).toNat : Int) := rfl
      rw [hb8] at cx
      obtain ⟨x, hx⟩ : ∃ x, x = (l.getD k 0).toNat := ⟨_, rfl⟩
      obtain ⟨y, hy⟩ : ∃ y, y = leN (l.drop (k + 1)) := ⟨_, rfl⟩
      obtain ⟨z, hz⟩ : ∃ z, z = leN (l.drop k) := ⟨_, rfl⟩
      rw [← hx] at cx hs hb
      rw [← hy] at hs ⊢
      rw [← hz] at hs hlt
      have hkn : (k : Int) < (n : Int) := by omega
      have hpos : (0 : Int) ≤ (k : Int) := by omega
      have HZ := Lib.hid hz; have HS := Lib.hid hs
      clear hi hb8 hx hy hz
      go_wp2_with fail
      go_roundw
      case rel => exact ⟨k, by omega, by first | rfl | (congr 1; omega), by rw [← HZ.out, HS.out]; first | rfl | (congr 1; omega) | (congr 1; push_cast; omega), by trivial⟩
      case measure => simp [intOf]
end Sha
end Go.Proofs.Ytknaimpnkflfnaa
