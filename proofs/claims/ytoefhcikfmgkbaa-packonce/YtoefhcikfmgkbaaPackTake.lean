/- What a text that was read tells: mathematics. -/
import Derived.Test.YtoefhcikfmgkbaaPackMath
namespace Go.Proofs.Ytoefhcikfmgkbaa
namespace Sha
theorem allZ_eq : ∀ (l : List (BitVec 8)), allZ l = true → l = List.replicate l.length 0
  | [], _ => rfl
  | x :: l, h => by
    unfold allZ at h
    rw [List.all_cons, Bool.and_eq_true] at h
    have h1 : x = 0 := by simpa using h.1
    have h2 := allZ_eq l h.2
    rw [h1, List.length_cons, List.replicate_succ, ← h2]
theorem rdText_ok (b : List (BitVec 8)) (e p : Nat) (h : (rdText b e p).e = 0) : e = 0 ∧ textB (rdText b e p).x p ++ (rdText b e p).b = b := by
  unfold rdText at *
  split at h <;> rename_i h1
  · exact absurd h h1
  split at h <;> rename_i h2
  · simp at h
  rw [if_neg h1, if_neg h2]
  have h1' : (rdTake b e (p + 1)).e = 0 := by simpa using h1
  obtain ⟨hl, he, hle⟩ := rdTake_len b e (p + 1) h1'
  refine ⟨he, ?_⟩
  have hT : rdTake b e (p + 1) = ⟨b.take (p + 1), b.drop (p + 1), 0⟩ := by unfold rdTake; rw [if_neg (by simpa using he), if_neg (by omega)]
  rw [hT] at h2 hl ⊢
  simp only at h2 hl ⊢
  obtain ⟨T, hTT⟩ : ∃ T, T = b.take (p + 1) := ⟨_, rfl⟩
  rw [← hTT] at h2 hl ⊢
  match T, hl with
  | x :: l, hl =>
    rw [List.length_cons] at hl
    have hll : l.length = p := by omega
    have hx : (x :: l).getD 0 0 = x := rfl
    rw [hx] at h2 ⊢
    have hq : x.toNat ≤ p := by omega
    have hz : allZ (l.drop x.toNat) = true := by
      have : ¬ allZ ((x :: l).drop (1 + x.toNat)) = false := fun hc => h2 (.inr hc)
      rw [Nat.add_comm 1, List.drop_succ_cons] at this
      simpa using this
    have hz2 := allZ_eq _ hz
    rw [List.length_drop, hll] at hz2
    have hlt : ((x :: l).drop 1).take x.toNat = l.take x.toNat := rfl
    rw [hlt]
    have hln : (l.take x.toNat).length = x.toNat := by rw [List.length_take]; omega
    unfold textB
    rw [hln, ← hz2, BitVec.ofNat_toNat, BitVec.setWidth_eq, List.cons_append, List.take_append_drop, hTT, List.take_append_drop]
theorem rdText_small (b : List (BitVec 8)) (e p : Nat) (he : e ≤ 100) : (rdText b e p).x.length ≤ p ∧ (rdText b e p).b.length ≤ b.length ∧ (rdText b e p).e ≤ 100 := by
  have hb : (rdTake b e (p + 1)).b.length ≤ b.length := by
    unfold rdTake; split
    · simp
    · split
      · simp
      · simp
  have hE : (rdTake b e (p + 1)).e ≤ 100 := by
    unfold rdTake; split
    · exact he
    · split <;> simp
  unfold rdText
  split
  · exact ⟨Nat.zero_le _, hb, hE⟩
  · split <;> rename_i h2
    · exact ⟨Nat.zero_le _, hb, by simp⟩
    · refine ⟨?_, hb, by simp⟩
      simp only [List.length_take]
      omega
end Sha
end Go.Proofs.Ytoefhcikfmgkbaa
