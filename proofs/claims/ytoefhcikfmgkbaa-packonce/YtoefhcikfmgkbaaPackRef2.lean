/- The document's texts put, and bytes filled up: their walks. -/
import Derived.Test.YtoefhcikfmgkbaaPackRef
namespace Go.Proofs.Ytoefhcikfmgkbaa
namespace Sha
open Go.RowKit Mem
set_option maxRecDepth 100000 in
set_option maxHeartbeats 1000000 in
theorem rtextput_bad (vb : Value) (s : List (BitVec 8)) (place : Int) (vs : Value) (w : World) (hs : Sl w vs s) (_hl : s.length ≤ 9223372036854775807) (h : place < 1 ∨ 255 < place ∨ place < (s.length : Int)) :
    Calls Try.prog 10 #[vb, vs, .int .i64 place] w fun e w' => e = .returned (.tuple #[.slice none 0 0, .int .i64 1]) ∧ w = w' := by
  obtain ⟨a0, cap, rfl, _, _⟩ := hs
  generalize s.length = n at *
  by_cases h1 : place < 1
  · go_enter Try.func10, Try.ntmps10
    go_wp2
    go_ret2
    exact ⟨rfl, rfl⟩
  by_cases h2 : (255 : Int) < place
  · go_enter Try.func10, Try.ntmps10
    go_wp2
    go_ret2
    exact ⟨rfl, rfl⟩
  have h3 : place < (n : Int) := by omega
  clear h
  go_enter Try.func10, Try.ntmps10
  go_wp2
  go_ret2
  exact ⟨rfl, rfl⟩
theorem textB_zero (b s : List (BitVec 8)) (place j : Nat) (_hp : j < place - s.length) :
    (b ++ (BitVec.ofNat 8 s.length :: s ++ List.replicate j 0)) ++ [0] = b ++ (BitVec.ofNat 8 s.length :: s ++ List.replicate (j + 1) 0) := by
  rw [List.replicate_succ']; simp
set_option maxRecDepth 100000 in
set_option maxHeartbeats 1000000 in
theorem rtextput_good (b s : List (BitVec 8)) (place : Nat) (vb vs : Value) (w : World) (hb : Sl w vb b) (hs : Sl w vs s) (hl : b.length ≤ 70368744177664) (h1 : 1 ≤ place) (h2 : place ≤ 255) (h3 : s.length ≤ place) :
    Calls Try.prog 10 #[vb, vs, .int .i64 (place : Int)] w (TwoEnd w (b ++ textB s place) 0) := by
  have hs0 := hs
  have hb0 := hb
  obtain ⟨a0, cap, rfl, _, _⟩ := hs
  obtain ⟨a1, cap1, rfl, _, _⟩ := hb
  obtain ⟨n, hn⟩ : ∃ n, n = s.length := ⟨_, rfl⟩
  have hby : ((BitVec.ofNat 8 n).toNat : Int) = (n : Int) := by simp; omega
  rw [← hn] at hs0 h3 ⊢
  have HS := Lib.hid hs0; have HB := Lib.hid hb0; have HN := Lib.hid hn; have BY := Lib.hid hby
  have g1 : ¬ (place : Int) < 1 := by omega
  have g2 : ¬ (255 : Int) < (place : Int) := by omega
  have g3 : ¬ (place : Int) < (n : Int) := by omega
  have g4 : (n : Int) % 256 = (n : Int) := by omega
  clear hs0 hb0 hby hn
  go_enter Try.func10, Try.ntmps10
  go_wp2_with (first
    | (at_builtin; refine wpList_append_bytes (by rfl) _ _ (by rfl) w.heap.size (.slice none 0 0) (.slice a1 b.length cap1) [] b (by rfl) (OwnB.nil _ _) (by rfl) HB.out (by rw [List.length_nil]; omega) (Nat.le_refl _) ?_; intro v5 w5 ho5 _ hb5; have O5 := Lib.hid ho5; have B5 := Lib.hid hb5; have S5 := Lib.hid (HS.out.below hb5); clear ho5 hb5)
    | (at_builtin; refine wpList_append_lit (by rfl) _ _ 22 (by rfl) (.int .u8 (n : Int)) (.int .u8 0) 1 elemB8 (by rfl) (by rfl) (ownB_V O5.out) (by rfl) (by rfl) (by rw [u8s_length]; simp; omega) (by rw [u8s_length]; simp; omega) (B5.out.size) ?_; intro v6 w6 ho6 _ hb6 _; have O6 : Hid (OwnB w6 w.heap.size v6 (b ++ [BitVec.ofNat 8 n])) := (by apply ownV_B; rw [u8s_snoc, BY.out]; exact ho6); have B6 := Lib.hid (B5.out.trans hb6); have S6 := Lib.hid (HS.out.below (B5.out.trans hb6)); clear ho6 hb6)
    | (at_builtin; refine wpList_append_bytes (by rfl) _ _ (by rfl) w.heap.size v6 (.slice a0 n cap) (b ++ [BitVec.ofNat 8 n]) s (by rfl) O6.out (by rfl) (by rw [HN.out]; have h := S6.out; rw [HN.out] at h; exact h) (by have := HN.out; simp; omega) (B6.out.size) ?_; intro v7 w7 ho7 _ hb7; have I7 : Hid (NInv5 (b ++ (BitVec.ofNat 8 s.length :: s ++ List.replicate 0 0)) v7 w w7) := ⟨(by rw [← HN.out]; rw [show b ++ (BitVec.ofNat 8 n :: s ++ List.replicate 0 0) = b ++ [BitVec.ofNat 8 n] ++ s by simp]; exact ho7), B6.out.trans hb7⟩; clear ho7 hb7))
  clear O5 B5 S5 O6 B6 S6 HS HB
  go_loopw [8, 9] (fun vo i wr => ∃ j : Nat, n + j ≤ place ∧ i = .int .i64 ((n + j : Nat) : Int) ∧ NInv5 (b ++ (BitVec.ofNat 8 s.length :: s ++ List.replicate j 0)) vo w wr) (fun _ i _ => place - (intOf i).toNat)
  case atStart => exact ⟨0, by omega, by simp, I7.out⟩
  case round =>
    clear I7
    obtain ⟨j, hj, rfl, hI⟩ := hrel
    obtain ⟨i, hi⟩ : ∃ i, i = n + j := ⟨_, rfl⟩
    rw [← hi] at hj ⊢
    by_cases hlt : i < place
    · have hlt' : (i : Int) < (place : Int) := by omega
      have hnx : u8s (b ++ (BitVec.ofNat 8 s.length :: s ++ List.replicate (j + 1) 0)) = u8s (b ++ (BitVec.ofNat 8 s.length :: s ++ List.replicate j 0)) ++ [.int .u8 0] := by
        rw [← textB_zero b s place j (by have := HN.out; omega), u8s_snoc]; rfl
      have hln : (b ++ (BitVec.ofNat 8 s.length :: s ++ List.replicate j 0)).length = b.length + 1 + i := by have := HN.out; simp; omega
      have OW := Lib.hid (ownB_V hI.o); have BB := Lib.hid hI.b; have NX := Lib.hid hnx; have LN := Lib.hid hln; have HI := Lib.hid hi
      clear hI hnx hln hi
      go_wp2_with (first | (at_builtin; refine wpList_append_lit (by rfl) _ _ 22 (by rfl) (.int .u8 0) (.int .u8 0) 1 elemB8 (by rfl) (by rfl) OW.out (by rfl) (by rfl) (by rw [u8s_length, LN.out]; omega) (by rw [u8s_length, LN.out]; omega) (BB.out.size) ?_; intro v8 w8 ho8 _ hb8 _; have O8 : Hid (OwnB w8 w.heap.size v8 (b ++ (BitVec.ofNat 8 s.length :: s ++ List.replicate (j + 1) 0))) := (by apply ownV_B; rw [NX.out]; exact ho8); have B8 := Lib.hid (BB.out.trans hb8); clear ho8 hb8))
      go_roundw
      case rel => exact ⟨j + 1, by have := HI.out; omega, by rw [show n + (j + 1) = i + 1 by rw [HI.out]; omega]; go_num, O8.out, B8.out⟩
      case measure => simp [intOf]; omega
    · have hge : ¬ (i : Int) < (place : Int) := by omega
      have hend : b ++ (BitVec.ofNat 8 s.length :: s ++ List.replicate j 0) = b ++ textB s place := by
        rw [textB, show j = place - s.length by have := HN.out; omega]
      rw [hend] at hI
      have II := Lib.hid hI
      clear hI hend hlt hj hi
      go_wp2_with fail
      go_ret2
      exact ⟨_, rfl, II.out.o.sl, II.out.b⟩
set_option maxRecDepth 100000 in
set_option maxHeartbeats 1000000 in
theorem rfill_bad (b : List (BitVec 8)) (size : Int) (vb : Value) (w : World) (hb : Sl w vb b) (h : size < (b.length : Int)) :
    Calls Try.prog 12 #[vb, .int .i64 size] w fun e w' => e = .returned (.tuple #[.slice none 0 0, .int .i64 1]) ∧ w = w' := by
  obtain ⟨a0, cap, rfl, _, _⟩ := hb
  generalize b.length = n at *
  go_enter Try.func12, Try.ntmps12
  go_wp2
  go_ret2
  exact ⟨rfl, rfl⟩
def fillB (b : List (BitVec 8)) (size : Nat) : List (BitVec 8) := b ++ List.replicate (size - b.length) 0
set_option maxRecDepth 100000 in
set_option maxHeartbeats 1000000 in
theorem rfill_good (b : List (BitVec 8)) (size : Nat) (vb : Value) (w : World) (hb : Sl w vb b) (h : b.length ≤ size) (hz : size ≤ 70368744177664) :
    Calls Try.prog 12 #[vb, .int .i64 (size : Int)] w (TwoEnd w (fillB b size) 0) := by
  have hb0 := hb
  obtain ⟨a1, cap1, rfl, _, _⟩ := hb
  obtain ⟨n, hn⟩ : ∃ n, n = b.length := ⟨_, rfl⟩
  rw [← hn] at hb0 h ⊢
  have HB := Lib.hid hb0; have HN := Lib.hid hn
  have g3 : ¬ (size : Int) < (n : Int) := by omega
  clear hb0 hn
  go_enter Try.func12, Try.ntmps12
  go_wp2_with (first
    | (at_builtin; refine wpList_append_bytes (by rfl) _ _ (by rfl) w.heap.size (.slice none 0 0) (.slice a1 n cap1) [] b (by rfl) (OwnB.nil _ _) (by rfl) HB.out (by rw [List.length_nil, ← HN.out]; omega) (Nat.le_refl _) ?_; intro v5 w5 ho5 _ hb5; have I7 : Hid (NInv5 (b ++ List.replicate 0 0) v5 w w5) := (by rw [show b ++ List.replicate 0 0 = [] ++ b by simp]; exact ⟨ho5, hb5⟩); clear ho5 hb5))
  go_loopw [6] (fun vo wr => ∃ j : Nat, n + j ≤ size ∧ NInv5 (b ++ List.replicate j 0) vo w wr) (fun vo _ => size - (match vo with | .slice _ l _ => l | _ => 0))
  case atStart => exact ⟨0, by omega, I7.out⟩
  case round =>
    clear I7
    obtain ⟨j, hj, hI⟩ := hrel
    obtain ⟨ao, co, hvo, hco, _⟩ := hI.o.open
    obtain ⟨i, hi⟩ : ∃ i, i = n + j := ⟨_, rfl⟩
    have hli : (b ++ List.replicate j 0).length = i := by have := HN.out; simp; omega
    rw [hli] at hvo hco
    subst hvo
    rw [← hi] at hj
    by_cases hlt : i < size
    · have hlt' : (i : Int) < (size : Int) := by omega
      have hnx : u8s (b ++ List.replicate (j + 1) 0) = u8s (b ++ List.replicate j 0) ++ [.int .u8 0] := by
        rw [List.replicate_succ', ← List.append_assoc, u8s_snoc]; rfl
      have OW := Lib.hid (ownB_V hI.o); have BB := Lib.hid hI.b; have NX := Lib.hid hnx; have LN := Lib.hid hli; have HI := Lib.hid hi
      clear hI hnx hli hi hco
      go_wp2_with (first | (at_builtin; refine wpList_append_lit (by rfl) _ _ 22 (by rfl) (.int .u8 0) (.int .u8 0) 1 elemB8 (by rfl) (by rfl) OW.out (by rfl) (by rfl) (by rw [u8s_length, LN.out]; omega) (by rw [u8s_length, LN.out]; omega) (BB.out.size) ?_; intro v8 w8 ho8 _ hb8 _; have O8 : Hid (OwnB w8 w.heap.size v8 (b ++ List.replicate (j + 1) 0)) := (by apply ownV_B; rw [NX.out]; exact ho8); have B8 := Lib.hid (BB.out.trans hb8); clear ho8 hb8))
      go_roundw
      case rel => exact ⟨j + 1, by have := HI.out; omega, O8.out, B8.out⟩
      case measure =>
        obtain ⟨a5, c5, hv5, _, _⟩ := O8.out.open
        have h1 : (b ++ List.replicate (j + 1) 0).length = i + 1 := by have := HN.out; have := HI.out; simp; omega
        rw [h1] at hv5
        subst hv5
        simp only
        omega
    · have hge : ¬ (i : Int) < (size : Int) := by omega
      have hend : b ++ List.replicate j 0 = fillB b size := by
        rw [fillB, show j = size - b.length by have := HN.out; omega]
      rw [hend] at hI
      have II := Lib.hid hI
      clear hI hend hlt hj hi hli hco
      go_wp2_with fail
      go_ret2
      exact ⟨_, rfl, II.out.o.sl, II.out.b⟩
end Sha
end Go.Proofs.Ytoefhcikfmgkbaa
