/- Slices that may be written over. -/
import Derived.Test.YtknaimpnkflfnaaFoot
import Derived.Test.YtknaimpnkflfnaaSl
namespace Go.Proofs.Ytknaimpnkflfnaa
namespace Sha
open Go.RowKit Mem
/-- A slice that may be written over: n numbers of the kind, in a block from B on. -/
def Inc (t : TypeId) (k : IntKind) (B : Nat) (w : World) (a : Option Addr) (n : Nat) : Prop :=
  n ≠ 0 → ∃ g cur, a = some ⟨g, 0, none⟩ ∧ B ≤ g ∧ At w g cur t ∧ n ≤ cur.size ∧ ∀ i, i < n → ∃ z, cur[i]? = some (.int k z)
theorem inc_own {w : World} {B n : Nat} {t : TypeId} {k : IntKind} {a : Option Addr} {c : Nat} {xs : List Value} (h : w.ownsRow B t 1 (.slice a n c) n xs) (hx : ∀ u ∈ xs, ∃ z, u = .int k z) : Inc t k B w a n := by
  intro hn
  obtain ⟨hl, h | ⟨g, cap, cur, e, hg, hh, hnc, hc, hs, ht⟩⟩ := h
  · exact absurd h.2 hn
  · injection e with e1 _ _
    refine ⟨g, cur, e1, hg, hh, by omega, fun i hi => ?_⟩
    have hi2 : i < xs.length := by omega
    obtain ⟨z, hz⟩ := hx _ (List.getElem_mem hi2)
    refine ⟨z, ?_⟩
    have h1 : (cur.toList.take (n * 1))[i]? = xs[i]? := by rw [ht]
    rw [List.getElem?_take, if_pos (by omega), List.getElem?_eq_getElem hi2, hz] at h1
    rw [← Array.getElem?_toList, h1]
theorem Inc.at {t : TypeId} {k : IntKind} {B n : Nat} {w : World} {a : Option Addr} (h : Inc t k B w a n) {j : Nat} (hj : j < n) : ∃ g cur z, a = some ⟨g, 0, none⟩ ∧ B ≤ g ∧ At w g cur t ∧ j < cur.size ∧ w.cell? ⟨g, j, none⟩ = some (.int k z) ∧
    ∀ w' y, At w' g (cur.setIfInBounds j (.int k y)) t → Inc t k B w' (some ⟨g, 0, none⟩) n := by
  obtain ⟨g, cur, e, hg, hA, hs, hc⟩ := h (by omega)
  obtain ⟨z, hz⟩ := hc j hj
  refine ⟨g, cur, z, e, hg, hA, by omega, by rw [hA.cell]; exact hz, fun w' y hA' _ => ⟨g, _, rfl, hg, hA', by simpa using hs, fun i hi => ?_⟩⟩
  by_cases hij : j = i
  · subst hij
    exact ⟨y, by rw [Array.getElem?_setIfInBounds_self, if_pos (by omega)]⟩
  · obtain ⟨z', hz'⟩ := hc i hi
    exact ⟨z', by rw [Array.getElem?_setIfInBounds_ne hij]; exact hz'⟩
theorem Inc.keep {t : TypeId} {k : IntKind} {B n : Nat} {w w' : World} {a : Option Addr} (h : Inc t k B w a n) (hb : Below w.heap.size w w') : Inc t k B w' a n := fun hn => by
  obtain ⟨g, cur, e, hg, hA, hs, hc⟩ := h hn
  exact ⟨g, cur, e, hg, hA.below hb hA.lt, hs, hc⟩
/-- A store into a block of another type. -/
theorem Inc.other {t t' : TypeId} {k : IntKind} {B n g : Nat} {w w' : World} {a : Option Addr} {C : Array Value} (h : Inc t k B w a n) (hC : At w g C t') (ht : t' ≠ t) (ho : ∀ k, k ≠ g → w'.heap[k]? = w.heap[k]?) : Inc t k B w' a n := fun hn => by
  obtain ⟨g2, cur, e, hg, hA, hs, hc⟩ := h hn
  refine ⟨g2, cur, e, hg, ?_, hs, hc⟩
  have hne : g2 ≠ g := fun e2 => by
    subst e2
    unfold At at hA hC
    rw [hA] at hC
    injection hC with hC
    injection hC with _ h3
    exact ht h3.symm
  unfold At at *
  rw [ho g2 hne]; exact hA
theorem infoInt1 : (Try.prog.info? 3).map (·.size) = some 1 := by kernel_rfl
theorem inc_u8 (z : Int) : ∃ y, ∀ (t t2 : TypeId) (x x' : Operand) (w : World), (do eqGuard .add t x x' (.int .u8 z) (.int .u8 1); binOp .add t2 (.int .u8 z) (.int .u8 1) : Sem Value).run Try.prog w = .ok (.int .u8 y) w := ⟨IntKind.u8.wrap (z + 1), fun t t2 x x' w => by first | rfl | go_simp⟩
theorem inc_i64 (z : Int) : ∃ y, ∀ (t t2 : TypeId) (x x' : Operand) (w : World), (do eqGuard .add t x x' (.int .i64 z) (.int .i64 1); binOp .add t2 (.int .i64 z) (.int .i64 1) : Sem Value).run Try.prog w = .ok (.int .i64 y) w := ⟨IntKind.i64.wrap (z + 1), fun t t2 x x' w => by first | rfl | go_simp⟩
end Sha
end Go.Proofs.Ytknaimpnkflfnaa
