/- A slice of whole numbers of any kind that reads as a list. -/
import Derived.Test.YtoefhcikfmgkbaaSl
namespace Go.Proofs.Ytoefhcikfmgkbaa
namespace Sha
open Go.RowKit Mem
/-- A slice of numbers that reads as l. -/
def SlK (w : World) (k : IntKind) (v : Value) (l : List Int) : Prop :=
  ∃ a cap, v = .slice a l.length cap ∧ l.length ≤ cap ∧ (l ≠ [] → ∃ bb oo, a = some ⟨bb, oo, none⟩ ∧ bb < w.heap.size ∧ ∀ i, i < l.length → w.cell? ⟨bb, oo + i, none⟩ = some (.int k (l.getD i 0)))
theorem SlK.below {w wr : World} {k : IntKind} {v : Value} {l : List Int} (h : SlK w k v l) (hb : Below w.heap.size w wr) : SlK wr k v l := by
  obtain ⟨a, cap, e, hc, hr⟩ := h
  refine ⟨a, cap, e, hc, fun hne => ?_⟩
  obtain ⟨bb, oo, ea, hlt, hcell⟩ := hr hne
  exact ⟨bb, oo, ea, Nat.lt_of_lt_of_le hlt hb.size, fun i hi => by rw [hb.cell (p := ⟨bb, oo + i, none⟩) hlt]; exact hcell i hi⟩
theorem slK_at {w : World} {k : IntKind} {a : Option Addr} {n cap : Nat} {l : List Int} (h : SlK w k (.slice a n cap) l) {i : Nat} (hi : i < l.length) :
    ∃ b o, a = some ⟨b, o, none⟩ ∧ w.cell? ⟨b, o + i, none⟩ = some (.int k (l.getD i 0)) := by
  obtain ⟨a', cap', e, _, hr⟩ := h
  injection e with e1 _ _
  obtain ⟨b, o, ea, _, hc⟩ := hr (by intro e; rw [e] at hi; simp at hi)
  exact ⟨b, o, by rw [e1]; exact ea, hc i hi⟩
theorem slK_of {w : World} {k : IntKind} {a : Addr} {len : Nat} (cap : Nat) {zs : List Int} (hl : len ≤ cap) (hz : len ≤ zs.length) (hcell : ∀ i, i < zs.length → w.cell? (a.add i) = some (.int k (zs.getD i 0))) :
    SlK w k (.slice (some a) len cap) (zs.take len) := by
  have hlen : (zs.take len).length = len := by rw [List.length_take]; omega
  refine ⟨some a, cap, by rw [hlen], by rw [hlen]; exact hl, fun hne => ?_⟩
  have h0 : 0 < zs.length := by
    rcases Nat.eq_zero_or_pos zs.length with h | h
    · exact absurd (by rw [List.eq_nil_of_length_eq_zero h]; simp) hne
    · exact h
  have hc0 := hcell 0 h0
  obtain ⟨bb, oo, m⟩ := a
  have hm : m = none := by simpa [Addr.add] using World.cell?_spot hc0
  subst hm
  refine ⟨bb, oo, rfl, ?_, fun i hi => ?_⟩
  · rw [Addr.add_mid] at hc0
    exact block_lt_of_cell hc0
  · rw [hlen] at hi
    have h1 := hcell i (by omega)
    rw [Addr.add_mid] at h1
    rw [h1]
    simp [List.getD_eq_getElem?_getD, hi]
theorem slK_nil (w : World) (k : IntKind) (cap : Nat) : SlK w k (.slice none 0 cap) [] := ⟨none, cap, rfl, by simp, fun h => absurd rfl h⟩
end Sha
end Go.Proofs.Ytoefhcikfmgkbaa
