/- Slices of ints. -/
import Derived.Test.YteiffdccfmfdbaaOwn
import Derived.Test.YteiffdccfmfdbaaFoot
import Derived.Test.YteiffdccfmfdbaaKeep
namespace Go.Proofs.Yteiffdccfmfdbaa
namespace Sha
open Go.RowKit Mem
def iz (l : List Int) : List Value := l.map (.int .i64)
theorem iz_length (l : List Int) : (iz l).length = l.length := by simp [iz]
theorem iz_snoc (l : List Int) (x : Int) : iz (l ++ [x]) = iz l ++ [.int .i64 x] := by simp [iz]
theorem iz_get (l : List Int) (i : Nat) (h : i < l.length) : (iz l)[i]? = some (.int .i64 (l.getD i 0)) := by simp [iz, List.getD_eq_getElem?_getD, h]
/-- A slice that reads as ints. -/
def SlI (w : World) (v : Value) (l : List Int) : Prop :=
  ∃ a cap, v = .slice a l.length cap ∧ l.length ≤ cap ∧ (l ≠ [] → ∃ b o, a = some ⟨b, o, none⟩ ∧ b < w.heap.size ∧ ∀ i, i < l.length → w.cell? ⟨b, o + i, none⟩ = some (.int .i64 (l.getD i 0)))
theorem SlI.nil (w : World) : SlI w (.slice none 0 0) [] := ⟨none, 0, rfl, Nat.le_refl _, fun h => absurd rfl h⟩
theorem SlI.hd {w : World} {v : Value} {l : List Int} (h : SlI w v l) : ∃ a c, v = .slice a l.length c := let ⟨a, c, e, _⟩ := h; ⟨a, c, e⟩
theorem SlI.below {w wr : World} {v : Value} {l : List Int} (h : SlI w v l) (hb : Below w.heap.size w wr) : SlI wr v l := by
  obtain ⟨a, cap, e, hc, hr⟩ := h
  refine ⟨a, cap, e, hc, fun hne => ?_⟩
  obtain ⟨b, o, ea, hlt, hcell⟩ := hr hne
  exact ⟨b, o, ea, Nat.lt_of_lt_of_le hlt hb.size, fun i hi => (hb.cell (p := ⟨b, o + i, none⟩) hlt).trans (hcell i hi)⟩
theorem SlI.same {w wr : World} {v : Value} {l : List Int} (h : SlI w v l) (hs : w.heap.size ≤ wr.heap.size) (hk : ∀ b o n c, v = .slice (some ⟨b, o, none⟩) n c → wr.heap[b]? = w.heap[b]?) : SlI wr v l := by
  obtain ⟨a, cap, e, hc, hr⟩ := h
  refine ⟨a, cap, e, hc, fun hne => ?_⟩
  obtain ⟨b, o, ea, hlt, hcell⟩ := hr hne
  refine ⟨b, o, ea, Nat.lt_of_lt_of_le hlt hs, fun i hi => ?_⟩
  rw [World.cell?_of_block (w := w) (w' := wr) (a := ⟨b, o + i, none⟩) (hk b o l.length cap (by rw [e, ea]))]
  exact hcell i hi
theorem sli_at {w : World} {a : Option Addr} {n c i : Nat} {l : List Int} (h : SlI w (.slice a n c) l) (hn : n = l.length) (hi : i < n) : ∃ b o, a = some ⟨b, o, none⟩ ∧ b < w.heap.size ∧ w.cell? ⟨b, o + i, none⟩ = some (.int .i64 (l.getD i 0)) := by
  obtain ⟨a', c', e, _, hr⟩ := h
  obtain ⟨b, o, ea, hlt, hcell⟩ := hr (by intro e0; subst e0; simp at hn; omega)
  injection e with e1 _ _
  subst e1
  exact ⟨b, o, ea, hlt, hcell i (by omega)⟩
theorem sli_cell {w : World} {b o n c i : Nat} {l : List Int} (h : SlI w (.slice (some ⟨b, o, none⟩) n c) l) (hn : n = l.length) (hi : i < n) : w.cell? ⟨b, o + i, none⟩ = some (.int .i64 (l.getD i 0)) := by
  obtain ⟨b', o', e, _, cx⟩ := sli_at h hn hi
  injection e with e
  injection e with e2 e3 _
  subst e2 e3
  exact cx
theorem ownV_sli {w : World} {B : Nat} {e : TypeId} {v : Value} {l : List Int} (h : OwnV w B e v (iz l)) : SlI w v l := by
  obtain ⟨a, cap, rfl, hc, hr⟩ := OwnV.open h
  rw [iz_length] at hc
  refine ⟨a, cap, by rw [iz_length], hc, fun hne => ?_⟩
  obtain ⟨g, ea, _, hlt, hcell⟩ := hr (by intro e0; exact hne (by simpa [iz] using e0))
  exact ⟨g, 0, ea, hlt, fun i hi => by rw [Nat.zero_add]; exact hcell i _ (iz_get l i hi)⟩
/-- It returns a slice that reads as ints. -/
def IEnd (w : World) (L : List Int) (e : Ending) (w' : World) : Prop := ∃ v, e = .returned v ∧ SlI w' v L ∧ Below w.heap.size w w'
theorem infoInt : (Try.prog.info? 3).map (·.size) = some 1 := by kernel_rfl
end Sha
end Go.Proofs.Yteiffdccfmfdbaa
