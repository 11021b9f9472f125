/- Package pack: numbers, texts and fillings put: their walks. -/
import Derived.Test.YtoefhcikfmgkbaaPackLow
import Derived.Test.YtoefhcikfmgkbaaPackRef2
namespace Go.Proofs.Ytoefhcikfmgkbaa
namespace Sha
open Go.RowKit Mem
set_option maxRecDepth 100000 in
set_option maxHeartbeats 1000000 in
theorem pnumput_any (b : List (BitVec 8)) (n : Nat) (size : Int) (v : Value) (w : World) (hv : Sl w v b) (hb : b.length ≤ 8000) (hn : n < 18446744073709551616) :
    Calls Try.prog 14 #[v, .int .u64 (n : Int), .int .i64 size] w (RSEnd w (b ++ nbytes n (cutN size 1 8))) := by
  have hns := fun wx => numSize_any size wx
  have c1 := cutN_lo size 1 8 (by decide)
  have c8 := cutN_hi size 1 8
  obtain ⟨K, hK⟩ : ∃ K, K = cutN size 1 8 := ⟨_, rfl⟩
  rw [← hK] at hns c1 c8 ⊢
  have hle := lengthen_any b K v w (by omega) hv
  obtain ⟨a0, cap, rfl, _, _⟩ := hv
  obtain ⟨m, hm⟩ : ∃ m, m = b.length := ⟨_, rfl⟩
  have hlen : (b ++ List.replicate K 0).length = m + K := by simp [hm]
  have hlen2 : (b ++ nbytes n K).length = m + K := by simp [hm, nbytes_length]
  have hpn := fun g wx h => putNum_any b n g m K K wx hm hn c1 c8 (Nat.le_refl _) h
  rw [← hm] at hle hb ⊢
  have NS := Lib.hid hns; have LE := Lib.hid hle; have HL := Lib.hid hlen; have HL2 := Lib.hid hlen2; have PN := Lib.hid hpn
  clear hns hle hlen hlen2 hpn hm hK
  go_enter Try.func14, Try.ntmps14
  go_wp2_with fail
  refine (NS.out _).mono ?_
  rintro o w' ⟨rfl, rfl⟩
  go_wp2_with fail
  refine LE.out.mono ?_
  rintro o w2 ⟨g, rfl, ha, hg, hb2⟩
  rw [HL.out]
  have HA := Lib.hid ha; have HG := Lib.hid hg; have HB := Lib.hid hb2
  clear ha hg hb2 LE NS
  go_wp2_with (refine wpList_slice_low (by rfl) 22 _ _ (by rfl) 5 Try.underlying22 infoB (some ⟨g, 0, none⟩) (m + K) (m + K) m (by rfl) (by rfl) (by omega) ?_; intro a1 h1; have e1 := h1 g 0 rfl (by omega); subst e1; clear h1; rw [Nat.add_sub_cancel_left, Nat.zero_add])
  refine (PN.out g w2 HA.out).mono ?_
  rintro o w3 ⟨rfl, ha3, hk3⟩
  have HA3 := Lib.hid ha3; have HB3 := Lib.hid (hk3 _ _ HB.out HG.out)
  clear ha3 hk3
  go_wp2_with fail
  go_ret
  exact ⟨_, rfl, at_sl HA3.out HL2.out, HB3.out⟩
set_option maxRecDepth 100000 in
set_option maxHeartbeats 1000000 in
theorem ptextbad_any (b s : List (BitVec 8)) (place : Nat) (v u : Value) (w : World) (_hv : Sl w v b) (hu : Sl w u s) (_bs : s.length ≤ 9223372036854775807) (_bp : place ≤ 1000) (hbad : place < 1 ∨ 255 < place ∨ place < s.length) :
    Calls Try.prog 9 #[v, u, .int .i64 (place : Int)] w (TwoEnd w [] 1) := by
  obtain ⟨a1, cap1, rfl, _, _⟩ := hu
  obtain ⟨m, hm⟩ : ∃ m, m = s.length := ⟨_, rfl⟩
  rw [← hm] at _bs hbad ⊢
  clear hm
  by_cases h1 : place < 1
  · have g1 : (place : Int) < 1 := by omega
    clear hbad h1
    go_enter Try.func9, Try.ntmps9
    go_wp2
    go_ret2
    exact ⟨_, rfl, sl_none _, Below.refl _ _⟩
  · have g1 : ¬ (place : Int) < 1 := by omega
    by_cases h2 : 255 < place
    · have g2 : (255 : Int) < (place : Int) := by omega
      clear hbad h1 h2
      go_enter Try.func9, Try.ntmps9
      go_wp2
      go_ret2
      exact ⟨_, rfl, sl_none _, Below.refl _ _⟩
    · have g2 : ¬ (255 : Int) < (place : Int) := by omega
      have g3 : (place : Int) < (m : Int) := by omega
      clear hbad h1 h2
      go_enter Try.func9, Try.ntmps9
      go_wp2
      go_ret2
      exact ⟨_, rfl, sl_none _, Below.refl _ _⟩
theorem text_one (b : List (BitVec 8)) (k m place : Nat) (hm : m = b.length) (hk : k ≤ 255) : (u8s (b ++ List.replicate (1 + place) 0)).toArray.setIfInBounds m (.int .u8 (k : Int)) = (u8s (b ++ BitVec.ofNat 8 k :: List.replicate place 0)).toArray := by
  subst hm
  have e : (k : Int) = ((BitVec.ofNat 8 k).toNat : Int) := by rw [BitVec.toNat_ofNat]; omega
  rw [e, u8s_set]
  congr 2
  rw [Nat.add_comm, List.replicate_succ, List.set_append_right _ _ (by omega), Nat.sub_self]
  rfl
theorem text_two (b s : List (BitVec 8)) (k m place : Nat) (hm : m = b.length) (hk : k = s.length) : Mem.splice (u8s (b ++ BitVec.ofNat 8 k :: List.replicate place 0)).toArray (m + 1) (u8s (s.take k)) = (u8s (b ++ textB s place)).toArray := by
  subst hm
  have e1 : b ++ BitVec.ofNat 8 k :: List.replicate place 0 = (b ++ [BitVec.ofNat 8 k]) ++ List.replicate place 0 := by simp
  have e2 : b ++ textB s place = (b ++ [BitVec.ofNat 8 k]) ++ (s ++ List.replicate (place - k) 0) := by rw [textB, hk]; simp
  rw [e1, e2, hk, List.take_length, ← hk]
  obtain ⟨T, hT⟩ : ∃ T, T = b ++ [BitVec.ofNat 8 k] := ⟨_, rfl⟩
  have h1 : (u8s T).length = b.length + 1 := by rw [u8s_length, hT]; simp
  have e3 : ∀ x y : List (BitVec 8), u8s (x ++ y) = u8s x ++ u8s y := fun x y => by simp [u8s]
  rw [← hT, e3 T, e3 T, e3 s]
  unfold Mem.splice
  congr 1
  show List.take (b.length + 1) (u8s T ++ u8s (List.replicate place 0)) ++ u8s s ++ List.drop (b.length + 1 + (u8s s).length) (u8s T ++ u8s (List.replicate place 0)) = _
  rw [List.take_left' h1, u8s_length, List.drop_append, List.drop_of_length_le (by rw [h1]; omega), h1, List.nil_append, Nat.add_sub_cancel_left, List.append_assoc]
  congr 2
  simp [u8s, hk]
set_option maxRecDepth 100000 in
set_option maxHeartbeats 2000000 in
theorem ptextput_any (b s : List (BitVec 8)) (place : Nat) (v u : Value) (w : World) (hv : Sl w v b) (hu : Sl w u s) (hb : b.length ≤ 8000) (h1 : 1 ≤ place) (h2 : place ≤ 255) (hs : s.length ≤ place) :
    Calls Try.prog 9 #[v, u, .int .i64 (place : Int)] w (TwoEnd w (b ++ textB s place) 0) := by
  have hle := lengthen_any b (1 + place) v w (by omega) hv
  rw [show ((1 + place : Nat) : Int) = 1 + (place : Int) by omega] at hle
  have hu0 := hu
  obtain ⟨a0, cap, rfl, _, _⟩ := hv
  obtain ⟨a1, cap1, rfl, _, _⟩ := hu
  obtain ⟨m, hm⟩ : ∃ m, m = b.length := ⟨_, rfl⟩
  obtain ⟨k, hk⟩ : ∃ k, k = s.length := ⟨_, rfl⟩
  have hlen : (b ++ List.replicate (1 + place) 0).length = m + (1 + place) := by simp [hm]
  have hlen2 : (b ++ textB s place).length = m + (1 + place) := by rw [List.length_append, textB_length _ _ hs]; omega
  have hone := text_one b k m place hm (by omega)
  have htwo := text_two b s k m place hm hk
  have hsz : (u8s (b ++ BitVec.ofNat 8 k :: List.replicate place 0)).toArray.size = m + (1 + place) := by simp [u8s, hm]; omega
  have hsz0 : (u8s (b ++ List.replicate (1 + place) 0)).toArray.size = m + (1 + place) := by simp [u8s, hm]
  rw [← hm] at hle hb ⊢
  rw [← hk] at hu0 hs ⊢
  have g1 : ¬ (place : Int) < 1 := by omega
  have g2 : ¬ (255 : Int) < (place : Int) := by omega
  have g3 : ¬ (place : Int) < (k : Int) := by omega
  have LE := Lib.hid hle; have HL := Lib.hid hlen; have HL2 := Lib.hid hlen2; have ONE := Lib.hid hone; have TWO := Lib.hid htwo; have SU := Lib.hid hu0; have SZ := Lib.hid hsz; have SZ0 := Lib.hid hsz0; have HK := Lib.hid hk
  clear hle hlen hlen2 hone htwo hu0 hsz hsz0 hm hk
  go_enter Try.func9, Try.ntmps9
  go_wp2_with fail
  refine LE.out.mono ?_
  rintro o w2 ⟨g, rfl, ha, hg, hb2⟩
  rw [HL.out]
  have HA := Lib.hid ha; have HG := Lib.hid hg; have HB := Lib.hid hb2
  clear ha hg hb2 LE
  go_wp2_with (first
    | (refine Mem.wpList_store_one (by rfl) 5 _ _ (by rfl) (by rfl) g m (.int .u8 (k : Int)) (by rfl) (by rfl) (by rfl) infoB _ 5 HA.out (by rw [SZ0.out]; omega) ?_; intro w3 ha ho hk; rw [ONE.out] at ha; have A3 := Lib.hid ha; have B3 := Lib.hid (hk _ _ HB.out HG.out); clear ha ho hk HA HB)
    | (refine wpList_slice_low (by rfl) 22 _ _ (by rfl) 5 Try.underlying22 infoB (some ⟨g, 0, none⟩) (m + (1 + place)) (m + (1 + place)) (m + 1) (by rfl) (by rfl) (by omega) ?_; intro a1 h1; have e1 := h1 g 0 rfl (by omega); subst e1; clear h1; rw [show m + (1 + place) - (m + 1) = place by omega, Nat.zero_add])
    | (refine wpList_copy_sl (by rfl) _ _ (by rfl) g (m + 1) place place _ s (by rfl) (by rfl) (SU.out.below B3.out) k (by rw [← HK.out]; exact (Nat.min_eq_left hs).symm) _ 5 A3.out (by rw [SZ.out]; omega) _ TWO.out ?_; intro w5 ha hs5 ho hk; have A5 := Lib.hid ha; have B5 := Lib.hid (hk _ _ B3.out HG.out); clear ha hs5 ho hk A3 B3))
  go_ret2
  exact ⟨_, rfl, at_sl A5.out HL2.out, B5.out⟩
set_option maxRecDepth 100000 in
set_option maxHeartbeats 1000000 in
theorem pfillbad_any (b : List (BitVec 8)) (size : Nat) (v : Value) (w : World) (hv : Sl w v b) (_hb : b.length ≤ 8000) (hlt : size < b.length) : Calls Try.prog 11 #[v, .int .i64 (size : Int)] w (TwoEnd w [] 1) := by
  obtain ⟨a0, cap, rfl, _, _⟩ := hv
  obtain ⟨m, hm⟩ : ∃ m, m = b.length := ⟨_, rfl⟩
  rw [← hm] at _hb hlt ⊢
  have g1 : (size : Int) < (m : Int) := by omega
  clear hm
  go_enter Try.func11, Try.ntmps11
  go_wp2
  go_ret2
  exact ⟨_, rfl, sl_none _, Below.refl _ _⟩
set_option maxRecDepth 100000 in
set_option maxHeartbeats 1000000 in
theorem pfill_any (b : List (BitVec 8)) (size : Nat) (v : Value) (w : World) (hv : Sl w v b) (hle : b.length ≤ size) (hs : size ≤ 8000) : Calls Try.prog 11 #[v, .int .i64 (size : Int)] w (TwoEnd w (fillB b size) 0) := by
  have hl := lengthen_any b (size - b.length) v w (by omega) hv
  rw [show ((size - b.length : Nat) : Int) = (size : Int) - (b.length : Int) by omega] at hl
  obtain ⟨a0, cap, rfl, _, _⟩ := hv
  obtain ⟨m, hm⟩ : ∃ m, m = b.length := ⟨_, rfl⟩
  unfold fillB
  rw [← hm] at hle hl ⊢
  have g1 : ¬ (size : Int) < (m : Int) := by omega
  have g2 : ¬ (2147483647 : Int) < (size : Int) := by omega
  have LE := Lib.hid hl
  clear hl hm
  go_enter Try.func11, Try.ntmps11
  go_wp2_with fail
  refine LE.out.mono ?_
  rintro o w2 ⟨g, rfl, ha, _, hb2⟩
  have HA := Lib.hid ha; have HB := Lib.hid hb2
  clear ha hb2 LE
  go_wp2_with fail
  go_ret2
  exact ⟨_, rfl, at_sl HA.out (by simp), HB.out⟩
end Sha
end Go.Proofs.Ytoefhcikfmgkbaa
