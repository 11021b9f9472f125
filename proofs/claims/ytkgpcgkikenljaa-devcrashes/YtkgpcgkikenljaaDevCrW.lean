/- Layer 6, DevCrashes: the first loop. -/
import Derived.Test.YtkgpcgkikenljaaDevCrI
namespace Go.Proofs.Ytkgpcgkikenljaa
namespace Sha
open Go.RowKit Mem
theorem Solo.edit {R : StAcc} (C : DevC R) {b : Nat} {E : Foot} {w wr wx : World} {s : St6} (h : Solo R b E w s wr) (hs : wr.heap.size ≤ wx.heap.size) (ho : ∀ k, k < wr.heap.size → ¬ E k → wx.heap[k]? = wr.heap[k]?) (hb : Below w.heap.size w wx) (E' : Foot) (hE : ∀ k, E' k → E k ∨ (wr.heap.size ≤ k ∧ k < wx.heap.size)) : Solo R b E' w s wx := by
  obtain ⟨F, h1, h2⟩ := h.f
  exact ⟨⟨F, C.keep h1 hs fun k hk hlt => ho k hlt (h2 k hk).2, fun k hk => ⟨(h2 k hk).1, fun he => (hE k he).elim (h2 k hk).2 (fun hw => by have := C.lt h1 k hk; omega)⟩⟩, fun k hk => (hE k hk).elim (fun he => Nat.lt_of_lt_of_le (h.e k he) hs) (fun hw => hw.2), hb⟩
theorem o_and3 {P : Program} (t t2 : TypeId) (x y : Operand) (z : Int) (w : World) : (do eqGuard .and t x y (.int .i64 z) (.int .i64 3); binOp .and t2 (.int .i64 z) (.int .i64 3) : Sem Value).run P w = .ok (.int .i64 ((low3 z : Nat) : Int)) w := by
  rw [← low3_eq]
  go_simp
theorem own_one {w : World} {B : Nat} (x : BitVec 8) (hB : B ≤ w.heap.size) : OwnB (w.alloc (.cells #[.int .u8 (B8 x)] 5)) B (.slice (some ⟨w.heap.size, 0, none⟩) 1 1) [x] :=
  ⟨by simp [u8s], .inr ⟨w.heap.size, 1, #[.int .u8 (B8 x)], rfl, hB, at_new w _ _, by simp, by simp [maxLen], by simp, by simp [u8s, B8]⟩⟩
/-- The law's lists and the store, while the lists are made. -/
def CrI (R : StAcc) (b p : Nat) (w : World) (j : Nat) (wr : World) : Prop :=
  ∃ vs ms, Mi p (p + 1) vs ms wr ∧ Solo R b (miE p vs) w (stNew 4) wr ∧ (∀ k, k < j → ms k = [0]) ∧ ∀ k, k < 4 → j ≤ k → vs k = .slice none 0 0
theorem cri_next {R : StAcc} (C : DevC R) {b p j : Nat} {w wr wx : World} (hp : w.heap.size ≤ p) (h : CrI R b p w j wr) (hj : j < 4) {vs : Nat → Value} {ms : Nat → List (BitVec 8)} (h1 : Mi p (p + 1) vs ms wr) (h2 : Solo R b (miE p vs) w (stNew 4) wr) (h3 : ∀ k, k < j → ms k = [0]) (h4 : ∀ k, k < 4 → j ≤ k → vs k = .slice none 0 0)
    (ha : At wx p ((vrow vs).setIfInBounds j (.slice (some ⟨wr.heap.size, 0, none⟩) 1 1)) 58) (ho : ∀ k, k ≠ p → wx.heap[k]? = (wr.alloc (.cells #[.int .u8 0] 5)).heap[k]?) (hk : ∀ B a, Below B a (wr.alloc (.cells #[.int .u8 0] 5)) → B ≤ p → Below B a wx) : CrI R b p w (j + 1) wx := by
  have hb : Below wr.heap.size wr (wr.alloc (.cells #[.int .u8 0] 5)) := (Below.refl _ _).alloc (Nat.le_refl _) _
  have hpl := h1.row.lt
  have hown : OwnB (wr.alloc (.cells #[.int .u8 0] 5)) (p + 1) (.slice (some ⟨wr.heap.size, 0, none⟩) 1 1) [0] := own_one 0 (by omega)
  have hm := h1.set (n := j) (wy := wx) hj (Nat.lt_succ_self p) hown (fun k hk _ => hb.block k hk) (fun g hg => by
    have : wr.heap.size = g := by simpa [Value.ownBlock] using hg
    exact .inr (by omega)) ha ho
  have hs := (hk p _ (Below.refl _ _) (Nat.le_refl _)).size
  refine ⟨_, _, hm, h2.edit C (Nat.le_trans hb.size hs) (fun k hk2 hn => ?_) (hk _ _ (h2.b.trans (hb.mono h2.b.size)) hp) _ (fun k hk2 => ?_), fun k hk2 => ?_, fun k hk4 hk2 => ?_⟩
  · rw [ho k (fun e => hn (.inl e)), hb.block k hk2]
  · rcases hk2 with rfl | ⟨i, hi, hi2⟩
    · exact .inl (.inl rfl)
    · by_cases e : i = j
      · subst e
        simp only [put4, if_true] at hi2
        have : wr.heap.size = k := by simpa [Value.ownBlock] using hi2
        refine .inr ⟨by omega, ?_⟩
        have : (wr.alloc (.cells #[.int .u8 0] 5)).heap.size = wr.heap.size + 1 := by simp
        omega
      · simp only [put4, if_neg e] at hi2
        exact .inl (.inr ⟨i, hi, hi2⟩)
  · by_cases e : k = j
    · simp [put4, e]
    · simp only [put4, if_neg e]; exact h3 k (by omega)
  · have e : ¬ k = j := by omega
    simp only [put4, if_neg e]
    exact h4 k hk4 (by omega)
end Sha
end Go.Proofs.Ytkgpcgkikenljaa
