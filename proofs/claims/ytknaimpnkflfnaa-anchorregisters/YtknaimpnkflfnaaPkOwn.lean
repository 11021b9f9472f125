/- Package pack's Num and Fill: what they tell lies in a block of its own. -/
import Derived.Test.YtknaimpnkflfnaaPkLow
namespace Go.Proofs.Ytknaimpnkflfnaa
namespace Sha
open Go.RowKit Mem
/-- It returns a slice of its own, just the list L, in a block that fills, and a number. -/
def TwoOwn (w : World) (L : List (BitVec 8)) (n : Int) (e : Ending) (w' : World) : Prop :=
  ∃ g, e = .returned (.tuple #[.slice (some ⟨g, 0, none⟩) L.length L.length, .int .i64 n]) ∧ At w' g (u8s L).toArray 5 ∧ w.heap.size ≤ g ∧ Below w.heap.size w w'
set_option maxRecDepth 100000 in
set_option maxHeartbeats 1000000 in
theorem pnumput_own (b : List (BitVec 8)) (n : Nat) (size : Int) (v : Value) (w : World) (hv : Sl w v b) (hb : b.length ≤ 8000) (hn : n < 18446744073709551616) :
    Calls Try.prog 23 #[v, .int .u64 (n : Int), .int .i64 size] w (SEnd w (b ++ nbytes n (cutN size 1 8))) := by
  have hns := fun wx => numSize_any size wx
  have c1 := cutN_lo size 1 8 (by decide)
  have c8 := cutN_hi size 1 8
  obtain ⟨K, hK⟩ : ∃ K, K = cutN size 1 8 := ⟨_, rfl⟩
  rw [← hK] at hns c1 c8 ⊢
  have hle := lengthen_any b K v w (by omega) hv
  obtain ⟨a0, cap, rfl, _, _⟩ := hv
  obtain ⟨m, hm⟩ : ∃ m, m = b.length := ⟨_, rfl⟩
  have hlen : (b ++ List.replicate K 0).length = m + K := by simp [hm]
  have hlen2 : (b ++ nbytes n K).length = m + K := by simp [hm, nbytes_length]
  have hpn := fun g wx h => putNum_any b n g m K K wx hm hn c1 c8 (Nat.le_refl _) h
  rw [← hm] at hle hb ⊢
  have NS := Lib.hid hns; have LE := Lib.hid hle; have HL := Lib.hid hlen; have HL2 := Lib.hid hlen2; have PN := Lib.hid hpn
  clear hns hle hlen hlen2 hpn hm hK
  go_enter Try.func23, Try.ntmps23
  go_wp2_with fail
  refine (NS.out _).mono ?_
  rintro o w' ⟨rfl, rfl⟩
  go_wp2_with fail
  refine LE.out.mono ?_
  rintro o w2 ⟨g, rfl, ha, hg, hb2⟩
  rw [HL.out]
  have HA := Lib.hid ha; have HG := Lib.hid hg; have HB := Lib.hid hb2
  clear ha hg hb2 LE NS
  go_wp2_with (refine wpList_slice_low (by rfl) 27 _ _ (by rfl) 5 Try.underlying27 infoB (some ⟨g, 0, none⟩) (m + K) (m + K) m (by rfl) (by rfl) (by omega) ?_; intro a1 h1; have e1 := h1 g 0 rfl (by omega); subst e1; clear h1; rw [Nat.add_sub_cancel_left, Nat.zero_add])
  refine (PN.out g w2 HA.out).mono ?_
  rintro o w3 ⟨rfl, ha3, hk3⟩
  have HA3 := Lib.hid ha3; have HB3 := Lib.hid (hk3 _ _ HB.out HG.out)
  clear ha3 hk3
  go_wp2_with fail
  go_ret
  exact ⟨g, by rw [HL2.out]; rfl, HA3.out, HG.out, HB3.out⟩
set_option maxRecDepth 100000 in
set_option maxHeartbeats 1000000 in
theorem pfill_own (b : List (BitVec 8)) (size : Nat) (v : Value) (w : World) (hv : Sl w v b) (hle : b.length ≤ size) (hs : size ≤ 8000) : Calls Try.prog 24 #[v, .int .i64 (size : Int)] w (TwoOwn w (fillB b size) 0) := by
  have hl := lengthen_any b (size - b.length) v w (by omega) hv
  rw [show ((size - b.length : Nat) : Int) = (size : Int) - (b.length : Int) by omega] at hl
  obtain ⟨a0, cap, rfl, _, _⟩ := hv
  obtain ⟨m, hm⟩ : ∃ m, m = b.length := ⟨_, rfl⟩
  unfold fillB
  rw [← hm] at hle hl ⊢
  have g1 : ¬ (size : Int) < (m : Int) := by omega
  have g2 : ¬ (2147483647 : Int) < (size : Int) := by omega
  have LE := Lib.hid hl
  clear hl hm
  go_enter Try.func24, Try.ntmps24
  go_wp2_with fail
  refine LE.out.mono ?_
  rintro o w2 ⟨g, rfl, ha, hg, hb2⟩
  have HA := Lib.hid ha; have HB := Lib.hid hb2; have HG := Lib.hid hg
  clear ha hb2 hg LE
  go_wp2_with fail
  go_ret2
  exact ⟨g, by rw [List.length_append, List.length_replicate]; rfl, HA.out, HG.out, HB.out⟩
theorem own_fulls {w : World} {B g : Nat} {L : List (BitVec 8)} (h : At w g (u8s L).toArray 5) (hB : B ≤ g) (hl : L.length ≤ 100000) : OwnB w B (.slice (some ⟨g, 0, none⟩) L.length L.length) L :=
  ⟨by simp [u8s_length], .inr ⟨g, L.length, (u8s L).toArray, rfl, hB, h, Nat.le_refl _, by simp [maxLen]; omega, by simp [u8s_length], by rw [List.take_of_length_le (by simp [u8s_length])]⟩⟩
theorem num1_any (b : List (BitVec 8)) (n : Nat) (v : Value) (w : World) (hv : Sl w v b) (hb : b.length ≤ 8000) (hn : n < 18446744073709551616) : Calls Try.prog 23 #[v, .int .u64 (n : Int), .int .i64 1] w (SEnd w (b ++ nbytes n 1)) := pnumput_own b n 1 v w hv hb hn
theorem num2_any (b : List (BitVec 8)) (n : Nat) (v : Value) (w : World) (hv : Sl w v b) (hb : b.length ≤ 8000) (hn : n < 18446744073709551616) : Calls Try.prog 23 #[v, .int .u64 (n : Int), .int .i64 2] w (SEnd w (b ++ nbytes n 2)) := pnumput_own b n 2 v w hv hb hn
theorem num4_any (b : List (BitVec 8)) (n : Nat) (v : Value) (w : World) (hv : Sl w v b) (hb : b.length ≤ 8000) (hn : n < 18446744073709551616) : Calls Try.prog 23 #[v, .int .u64 (n : Int), .int .i64 4] w (SEnd w (b ++ nbytes n 4)) := pnumput_own b n 4 v w hv hb hn
theorem num8_any (b : List (BitVec 8)) (n : Nat) (v : Value) (w : World) (hv : Sl w v b) (hb : b.length ≤ 8000) (hn : n < 18446744073709551616) : Calls Try.prog 23 #[v, .int .u64 (n : Int), .int .i64 8] w (SEnd w (b ++ nbytes n 8)) := pnumput_own b n 8 v w hv hb hn
end Sha
end Go.Proofs.Ytknaimpnkflfnaa
