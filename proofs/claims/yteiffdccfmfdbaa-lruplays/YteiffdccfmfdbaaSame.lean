/- The document's Same: its walk. -/
import Derived.Test.YteiffdccfmfdbaaSameB
import Derived.Test.YteiffdccfmfdbaaSl
namespace Go.Proofs.Yteiffdccfmfdbaa
namespace Sha
open Go.RowKit Mem
set_option maxRecDepth 100000 in
set_option maxHeartbeats 1000000 in
theorem same_any (l m : List (BitVec 8)) (vl vm : Value) (w : World) (hl : Sl w vl l) (hm : Sl w vm m) (_bl : l.length ≤ 9223372036854775807) (bm : m.length ≤ 9223372036854775807) :
    Calls Try.prog 12 #[vl, vm] w fun e w' => e = .returned (.bool (sameB l m)) ∧ Below w.heap.size w w' := by
  have hl0 := hl
  have hm0 := hm
  obtain ⟨a1, c1, rfl, hc1, _⟩ := hl
  obtain ⟨a2, c2, rfl, hc2, _⟩ := hm
  obtain ⟨n, hn⟩ : ∃ n, n = l.length := ⟨_, rfl⟩
  obtain ⟨k, hk⟩ : ∃ k, k = m.length := ⟨_, rfl⟩
  have HL := Lib.hid hl0; have HM := Lib.hid hm0
  clear hl0 hm0
  by_cases hne : n ≠ k
  · have hs := sameB_len l m (by omega)
    rw [hs]
    rw [← hn, ← hk]
    have hne' : ¬ (n : Int) = (k : Int) := by omega
    rw [← hn] at _bl; rw [← hk] at bm
    clear hs hn hk hc1 hc2 hne HL HM
    go_enter Try.func12, Try.ntmps12
    go_wp2
    go_ret
    exact ⟨rfl, Below.refl _ _⟩
  · have hnk : n = k := by omega
    subst hnk
    rw [← hn] at hc1 _bl
    rw [← hk] at hc2 bm
    have heq : (n : Int) = (n : Int) := rfl
    have HN := Lib.hid hn; have HK := Lib.hid hk
    rw [← hn, ← hk]
    clear hn hk hne heq
    go_enter Try.func12, Try.ntmps12
    go_wp2
    go_loopw [5] (fun i wr => ∃ j : Nat, j ≤ n ∧ i = .int .i64 j ∧ l.take j = m.take j ∧ ∃ q, wr = w.drewN q) (fun i _ => n - (intOf i).toNat)
    case atStart => exact ⟨0, Nat.zero_le _, rfl, rfl, 0, rfl⟩
    case round =>
      obtain ⟨j, hj, rfl, htk, q, rfl⟩ := hrel
      have HT := Lib.hid htk; clear htk
      by_cases hlt : j < n
      · obtain ⟨b1, o1, rfl, cl⟩ := sl_at (i := j) HL.out (by rw [← HN.out]; exact hlt)
        obtain ⟨b2, o2, rfl, cm⟩ := sl_at (i := j) HM.out (by rw [← HK.out]; exact hlt)
        have z0 : (0 : Int) ≤ (j : Int) := by omega
        have zn : (j : Int) < (n : Int) := by omega
        by_cases hxy : l.getD j 0 = m.getD j 0
        · have htn := take_next l m j (by rw [← HN.out]; exact hlt) (by rw [← HK.out]; exact hlt) HT.out hxy
          rw [← hxy] at cm
          obtain ⟨x, hx⟩ : ∃ x, x = l.getD j 0 := ⟨_, rfl⟩
          rw [← hx] at cl cm
          have HTN := Lib.hid htn
          clear hxy hx htn
          go_wp2
          go_quiet (fail)
          go_wp2
          go_roundw
          case rel => exact ⟨j + 1, by omega, by go_num, HTN.out, _, rfl⟩
          case measure => simp [intOf]; omega
        · have hs := sameB_at l m j hxy
          obtain ⟨x, hx⟩ : ∃ x, x = l.getD j 0 := ⟨_, rfl⟩
          obtain ⟨y, hy⟩ : ∃ y, y = m.getD j 0 := ⟨_, rfl⟩
          rw [← hx] at cl hxy
          rw [← hy] at cm hxy
          have hbn : (B8 x != B8 y) = true := by
            rw [bne_iff_ne]; exact fun e => hxy (B8_inj e)
          have hbe : ¬ B8 x = B8 y := fun e => hxy (B8_inj e)
          have HS := Lib.hid hs
          clear hs hx hy hxy
          go_wp2
          go_quiet (fail)
          go_wp2
          go_ret
          exact ⟨by rw [HS.out]; rfl, ⟨rfl, rfl, rfl, Nat.le_refl _, fun _ _ => rfl⟩⟩
      · have hjn : j = n := by omega
        have hge : ¬ (j : Int) < (n : Int) := by omega
        have hs : Hid (sameB l m = true) := by
          have h := HT.out
          rw [hjn, HN.out, List.take_length] at h
          have h2 : l.length = m.length := by rw [← HN.out, ← HK.out]
          rw [h2, List.take_length] at h
          show sameB l m = true
          rw [h]; exact sameB_self m
        clear hjn hlt
        go_wp2
        go_ret
        exact ⟨by rw [hs.out]; rfl, ⟨rfl, rfl, rfl, Nat.le_refl _, fun _ _ => rfl⟩⟩
end Sha
end Go.Proofs.Yteiffdccfmfdbaa
