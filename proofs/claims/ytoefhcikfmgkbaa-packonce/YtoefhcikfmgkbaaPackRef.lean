/- The document's numbers and texts put: their walks. -/
import Derived.Test.YtoefhcikfmgkbaaPackMath
import Derived.Test.YtoefhcikfmgkbaaSlice
import Derived.Test.YtoefhcikfmgkbaaEnds
namespace Go.Proofs.Ytoefhcikfmgkbaa
namespace Sha
open Go.RowKit Mem
set_option maxHeartbeats 400000 in
theorem rcut_any (z : Int) (lo hi : Nat) (w : World) (h : lo ≤ hi) : Calls Try.prog 32 #[.int .i64 z, .int .i64 (lo : Int), .int .i64 (hi : Int)] w fun e w' => e = .returned (.int .i64 ((cutN z lo hi : Nat) : Int)) ∧ w = w' := by
  have hv := cutN_val z lo hi h
  have HV := Lib.hid hv
  clear hv
  go_enter Try.func32, Try.ntmps32
  go_wp2
  go_ret
  exact ⟨by rw [HV.out]; first | rfl | (congr 2; omega), rfl⟩
theorem u64q (m : Nat) : ((m : Int).tdiv 256 : Int) = ((m / 256 : Nat) : Int) := by rw [Int.tdiv_eq_ediv_of_nonneg (by omega)]; omega
structure NInv5 (L : List (BitVec 8)) (v : Value) (w wr : World) : Prop where
  o : OwnB wr w.heap.size v L
  b : Below w.heap.size w wr
set_option maxRecDepth 100000 in
set_option maxHeartbeats 1000000 in
theorem rnumput_any (l : List (BitVec 8)) (m : Nat) (size : Int) (v : Value) (w : World) (hm : m < 18446744073709551616) (hl : l.length ≤ 70368744177664) (hv : Sl w v l) :
    Calls Try.prog 15 #[v, .int .u64 (m : Int), .int .i64 size] w (RSEnd w (l ++ nbytes m (cutN size 1 8))) := by
  have hcu := fun wx => rcut_any size 1 8 wx (by decide)
  have c8 := cutN_hi size 1 8
  obtain ⟨K, hK⟩ : ∃ K, K = cutN size 1 8 := ⟨_, rfl⟩
  rw [← hK] at hcu c8 ⊢
  have hv0 := hv
  obtain ⟨a0, cap, rfl, _, _⟩ := hv
  have CU := Lib.hid hcu; have HV := Lib.hid hv0
  clear hcu hv0 hK
  go_enter Try.func15, Try.ntmps15
  go_wp2_with (first | (at_builtin; refine wpList_append_bytes (by rfl) _ _ (by rfl) w.heap.size (.slice none 0 0) (.slice a0 l.length cap) [] l (by rfl) (OwnB.nil _ _) (by rfl) HV.out (by rw [List.length_nil]; omega) (Nat.le_refl _) ?_; intro v5 w5 ho5 _ hb5; have I5 : Hid (NInv5 (l ++ nbytes m 0) v5 w w5) := (by rw [show l ++ nbytes m 0 = [] ++ l by simp [nbytes]]; exact ⟨ho5, hb5⟩); clear ho5 hb5))
  go_loopw [1, 7, 8] (fun vn vo i wr => ∃ j : Nat, j ≤ K ∧ i = .int .i64 j ∧ vn = .int .u64 ((m / 256 ^ j : Nat) : Int) ∧ NInv5 (l ++ nbytes m j) vo w wr) (fun _ _ i _ => K - (intOf i).toNat)
  case atStart => exact ⟨0, by omega, rfl, by simp, I5.out⟩
  case round =>
    clear I5
    obtain ⟨j, hj, rfl, rfl, hI⟩ := hrel
    obtain ⟨q, hq⟩ : ∃ q, q = m / 256 ^ j := ⟨_, rfl⟩
    have hq64 : q < 18446744073709551616 := by rw [hq]; exact Nat.lt_of_le_of_lt (Nat.div_le_self _ _) hm
    have hqn : q / 256 = m / 256 ^ (j + 1) := by rw [hq, Nat.pow_succ, Nat.div_div_eq_div_mul]
    have hby : ((nbyte m j).toNat : Int) = (q : Int) % 256 := by unfold nbyte; rw [← hq]; simp
    have hlen : (l ++ nbytes m j).length = l.length + j := by rw [List.length_append, nbytes_length]
    have hnx : u8s (l ++ nbytes m (j + 1)) = u8s (l ++ nbytes m j) ++ [.int .u8 ((nbyte m j).toNat : Int)] := by rw [nbytes_succ, ← List.append_assoc, u8s_snoc]
    rw [← hq]
    go_wp2_with fail
    refine (CU.out _).mono ?_
    rintro e w' ⟨rfl, rfl⟩
    by_cases hlt : j < K
    · have hlt' : (j : Int) < (K : Int) := by omega
      have q0 : (0 : Int) ≤ (q : Int) := by omega
      have OW := Lib.hid (ownB_V hI.o); have BB := Lib.hid hI.b; have NX := Lib.hid hnx; have BY := Lib.hid hby; have QN := Lib.hid hqn; have LN := Lib.hid hlen; have HQ := Lib.hid hq64
      clear hI hnx hby hqn hlen hq hq64
      go_wp2_with (first | (at_builtin; refine wpList_append_lit (by rfl) _ _ 22 (by rfl) (.int .u8 ((q : Int) % 256)) (.int .u8 0) 1 elemB8 (by rfl) (by rfl) OW.out (by rfl) (by rfl) (by rw [u8s_length, LN.out]; omega) (by rw [u8s_length, LN.out]; omega) (BB.out.size) ?_; intro v6 w6 ho6 _ hb6 _; have O6 : Hid (OwnB w6 w.heap.size v6 (l ++ nbytes m (j + 1))) := (by apply ownV_B; rw [NX.out, BY.out]; exact ho6); have B6 := Lib.hid (BB.out.trans hb6); clear ho6 hb6))
      go_roundw
      case rel =>
        have hq := HQ.out
        have e : ((q : Int) / 256) = ((q / 256 : Nat) : Int) := by omega
        exact ⟨j + 1, by omega, by go_num, by rw [← QN.out, e, Mem.u64_in _ (by omega)], O6.out, B6.out⟩
      case measure => simp [intOf]; omega
    · have hjk : j = K := by omega
      have hge : ¬ (j : Int) < (K : Int) := by omega
      rw [hjk] at hI
      have II := Lib.hid hI
      clear hI hjk hlt hj hnx hby hqn hlen hq hq64
      go_wp2_with fail
      go_ret
      exact ⟨_, rfl, II.out.o.sl, II.out.b⟩
set_option maxRecDepth 100000 in
set_option maxHeartbeats 1000000 in
theorem none_any (l : List (BitVec 8)) (v : Value) (w : World) (bl : l.length ≤ 9223372036854775807) (hv : Sl w v l) :
    Calls Try.prog 38 #[v] w fun e w' => e = .returned (.bool (allZ l)) ∧ w = w' := by
  have hv0 := hv
  obtain ⟨a0, cap, rfl, _, _⟩ := hv
  obtain ⟨m, hm⟩ : ∃ m, m = l.length := ⟨_, rfl⟩
  rw [← hm] at bl
  have HV := Lib.hid hv0; have HM := Lib.hid hm
  rw [← hm]
  clear hv0 hm
  go_enter Try.func38, Try.ntmps38
  go_wp2_with fail
  go_loop [3] (fun i => ∃ j : Nat, j ≤ m ∧ i = .int .i64 j ∧ Hid (allZ (l.take j) = true)) (fun i => m - (intOf i).toNat)
  case atStart => exact ⟨0, by omega, rfl, (by show allZ (l.take 0) = true; rfl)⟩
  case round =>
    obtain ⟨j, hj, rfl, hI⟩ := hrel
    by_cases hlt : j < m
    · obtain ⟨b1, o1, rfl, cx⟩ := sl_at (i := j) HV.out (by rw [← HM.out]; exact hlt)
      have hlt' : (j : Int) < (m : Int) := by omega
      have htk : l.take (j + 1) = l.take j ++ [l.getD j 0] := by
        have hjl : j < l.length := by rw [← HM.out]; exact hlt
        rw [List.take_succ_eq_append_getElem hjl]; simp [hjl]
      by_cases hx : l.getD j 0 = 0
      · have hnx : allZ (l.take (j + 1)) = true := by
          rw [htk, hx]; unfold allZ; rw [List.all_append]; have := hI.out; unfold allZ at this; rw [this]; rfl
        rw [hx, B8_zero] at cx
        have NX := Lib.hid hnx
        clear hnx htk hx hI
        go_wp2
        go_round
        case rel => exact ⟨j + 1, by omega, by go_num, NX.out⟩
        case measure => simp [intOf]; omega
      · have hno : allZ l = false := by
          unfold allZ
          rw [Bool.eq_false_iff]
          intro h
          have hjl : j < l.length := by rw [← HM.out]; exact hlt
          have := List.all_eq_true.1 h (l.getD j 0) (by simp [hjl])
          exact hx (by simpa using this)
        obtain ⟨x, hxx⟩ : ∃ x, x = l.getD j 0 := ⟨_, rfl⟩
        rw [← hxx] at cx hx
        have hbn : ¬ B8 x = 0 := fun h => hx (by have h2 := B8_eq x; rw [h] at h2; simpa using h2.symm)
        have hbe : (B8 x != 0) = true := by rw [bne_iff_ne]; exact hbn
        have NO := Lib.hid hno
        clear hno htk hx hI hxx
        go_wp2
        go_ret
        exact ⟨by rw [NO.out]; rfl, rfl⟩
    · have hjm : j = m := by omega
      have hge : ¬ (j : Int) < (m : Int) := by omega
      have hall : Hid (allZ l = true) := by
        have h := hI.out
        rw [hjm, HM.out, List.take_length] at h
        exact h
      clear hjm hlt hj hI
      go_wp2
      go_ret
      exact ⟨by rw [hall.out]; rfl, rfl⟩
end Sha
end Go.Proofs.Ytoefhcikfmgkbaa
