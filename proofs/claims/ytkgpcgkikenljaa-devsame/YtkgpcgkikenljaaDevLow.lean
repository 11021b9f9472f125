/- The laws of layer 6: block, short, same: walks. -/
import Derived.Test.YtkgpcgkikenljaaDevC
import Derived.Test.YtkgpcgkikenljaaSame
namespace Go.Proofs.Ytkgpcgkikenljaa
namespace Sha
open Go.RowKit Mem
theorem block_set (x : BitVec 8) (j : Nat) (h : j < 256) : (u8s (List.replicate j x ++ List.replicate (256 - j) 0)).toArray.setIfInBounds j (.int .u8 (x.toNat : Int)) = (u8s (List.replicate (j + 1) x ++ List.replicate (256 - (j + 1)) 0)).toArray := by
  rw [u8s_set]
  congr 2
  have e : 256 - j = (256 - (j + 1)) + 1 := by omega
  rw [e, List.replicate_succ, List.set_append_right _ _ (by simp), List.length_replicate, Nat.sub_self, List.replicate_succ' (n := j), List.append_assoc]
  rfl
structure BkInv (x : BitVec 8) (w : World) (j : Nat) (wr : World) : Prop where
  row : At wr w.heap.size (u8s (List.replicate j x ++ List.replicate (256 - j) 0)).toArray 5
  b : Below w.heap.size w wr
set_option maxRecDepth 100000 in
set_option maxHeartbeats 1000000 in
theorem block_any (x : BitVec 8) (w : World) : Calls Try.prog 21 #[.int .u8 (B8 x)] w (SEnd w (List.replicate 256 x)) := by
  obtain ⟨i8, hi8, hz8, hs8, hb8⟩ := info_parts infoU8
  have I8 := Lib.hid hi8; have Z8 := Lib.hid hz8; have S8 := Lib.hid hs8; have B8' := Lib.hid hb8
  clear hi8 hz8 hs8 hb8
  go_enter Try.func21, Try.ntmps21
  go_wp2_with (refine wpList_make_full _ (by rfl) _ _ 27 (by rfl) w.heap.size 5 i8 (.int .u8 0) 1 Try.underlying27 I8.out Z8.out S8.out .i64 .i64 256 256 256 (by rfl) (by rfl) rfl rfl (by rw [B8'.out]; omega) (by simp [maxLen]) (Nat.le_refl _) ?_; intro w4 ho4 hg4; have R4 : Hid (BkInv x w 0 w4) := ⟨(by have h := own_full ho4; rw [made_zeros] at h; simpa using h), (Below.refl _ _).grown hg4 (Nat.le_refl _) (fun _ h => by cases h)⟩; clear ho4 hg4)
  go_loopw [8] (fun i wr => ∃ j : Nat, j ≤ 256 ∧ i = .int .i64 j ∧ BkInv x w j wr) (fun i _ => 256 - (intOf i).toNat)
  case atStart => exact ⟨0, by omega, rfl, R4.out⟩
  case round =>
    clear R4
    obtain ⟨j, hj, rfl, hI⟩ := hrel
    by_cases hlt : j < 256
    · have hlt' : (j : Int) < 256 := by omega
      have hsz : (u8s (List.replicate j x ++ List.replicate (256 - j) 0)).toArray.size = 256 := by simp [u8s]; omega
      have hst := block_set x j hlt
      have HR := Lib.hid hI.row; have HB := Lib.hid hI.b; have SZ := Lib.hid hsz; have ST := Lib.hid hst
      clear hI hsz hst
      go_wp2_with (refine Mem.wpList_store_one (by rfl) 5 _ _ (by rfl) (by rfl) w.heap.size j (.int .u8 (B8 x)) (by first | rfl | simp [Act.eval]) (by rfl) (by rfl) infoB _ 5 HR.out (by rw [SZ.out]; exact hlt) ?_; intro w5 ha ho hk; have I5 : Hid (BkInv x w (j + 1) w5) := ⟨by rw [← ST.out]; exact ha, hk _ _ HB.out (Nat.le_refl _)⟩; clear ha ho hk)
      go_roundw
      case rel => exact ⟨j + 1, by omega, by go_num, I5.out⟩
      case measure => simp [intOf]; omega
    · have hj2 : j = 256 := by omega
      have hge : ¬ (j : Int) < 256 := by omega
      have HI := Lib.hid hI
      clear hI hlt hj
      go_wp2_with fail
      go_ret
      have h := HI.out
      rw [hj2] at h
      exact ⟨w.heap.size, by simp, by simpa using h.row, Nat.le_refl _, h.b⟩
end Sha
end Go.Proofs.Ytkgpcgkikenljaa
