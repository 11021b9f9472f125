/- A slice of steps that came in, opened. -/
import Derived.Test.YtoefhcikfmgkbaaPackStep
import Derived.ProofKit
import Derived.OpenShut
import Derived.Stop.Joined
import Derived.Carry
import Derived.Deep.Strs
namespace Go.Proofs.Ytoefhcikfmgkbaa
namespace Sha
open Go.ChangeShapes Go.WideShapes Go.ChangeAt Go.WideMaps Go.WideElems Go.RowKit Mem
theorem list_of {α : Type} [Inhabited α] {P : Nat → α → Prop} : ∀ n : Nat, (∀ i, i < n → ∃ x, P i x) → ∃ l : List α, l.length = n ∧ ∀ i, i < n → P i (l.getD i default)
  | 0, _ => ⟨[], rfl, fun i hi => absurd hi (by omega)⟩
  | n + 1, h => by
    obtain ⟨l, hl, hp⟩ := list_of n (fun i hi => h i (by omega))
    obtain ⟨x, hx⟩ := h n (by omega)
    refine ⟨l ++ [x], by simp [hl], fun i hi => ?_⟩
    by_cases hin : i < n
    · have : (l ++ [x]).getD i default = l.getD i default := by
        rw [List.getD_eq_getElem?_getD, List.getD_eq_getElem?_getD, List.getElem?_append_left (by omega)]
      rw [this]; exact hp i hin
    · have hi2 : i = n := by omega
      subst hi2
      have : (l ++ [x]).getD i default = x := by
        rw [List.getD_eq_getElem?_getD, List.getElem?_append_right (by omega), hl]; simp
      rw [this]; exact hx
def goodS (x : Step5) : Prop := -9223372036854775808 ≤ x.s ∧ x.s ≤ 9223372036854775807 ∧ x.m < 18446744073709551616
theorem step_of {H : Type} {enc : TypeId × Value → H} {w : World} {base : Nat} {sp : Nat → Bool} {held : Bool} {n : Nat} {cs : List Value} {y : DataW H × List MemPlace} (h : DataW.trod enc Try.prog w base sp held n 44 cs = some y) : ∃ x : Step5, goodS x ∧ cs = (stepC x).toList := by
  obtain ⟨y0, y1, y2, m, _, hl, h0, h1, h2⟩ := Go.Deep.trod_struct3 Try.underlying44 h
  rw [show Try.prog.cellsOf 44 = 3 by kernel_rfl] at hl
  match cs, hl with
  | [a, b, c], _ =>
    obtain ⟨n0, e0, _, w0⟩ := DataW.trod_int Try.underlying5 h0
    obtain ⟨n1, e1, _, w1⟩ := DataW.trod_int Try.underlying3 h1
    obtain ⟨n2, e2, _, w2⟩ := DataW.trod_int Try.underlying23 h2
    rw [show Try.prog.cellsOf 5 = 1 by kernel_rfl] at e0
    rw [show Try.prog.cellsOf 3 = 1 by kernel_rfl] at e1
    rw [show Try.prog.cellsOf 23 = 1 by kernel_rfl] at e2
    have e0 : a = .int .u8 n0 := by simpa using e0
    have e1 : b = .int .i64 n1 := by simpa using e1
    have e2 : c = .int .u64 n2 := by simpa using e2
    simp [Lit.wf, IntKind.min, IntKind.max, IntKind.signed, IntKind.bits] at w0 w1 w2
    refine ⟨⟨BitVec.ofNat 8 n0.toNat, n1, n2.toNat⟩, ⟨by show _ ≤ n1; omega, by show n1 ≤ _; omega, by show n2.toNat < _; omega⟩, ?_⟩
    have g0 : (((BitVec.ofNat 8 n0.toNat).toNat : Nat) : Int) = n0 := by rw [BitVec.toNat_ofNat]; omega
    have g2 : ((n2.toNat : Nat) : Int) = n2 := by omega
    show [a, b, c] = [.int .u8 (((BitVec.ofNat 8 n0.toNat).toNat : Nat) : Int), .int .i64 n1, .int .u64 ((n2.toNat : Nat) : Int)]
    rw [g0, g2, e0, e1, e2]
theorem open_slS {H : Type} {enc : TypeId × Value → H} {W : World} {base : Nat} {v : Value} {d : DataW H} {p : List MemPlace} (hval : Value.okWide Try.prog W .any base 37 v) (h : DataW.Trod enc Try.prog W 0 (fun _ => true) true 37 v d p) :
    ∃ l : List Step5, SlS W v l ∧ l.length ≤ 9223372036854775807 ∧ ∀ x ∈ l, goodS x := by
  obtain ⟨a0, len0, cap0, rfl⟩ := okWide_slice Try.underlying37 hval
  obtain ⟨fuel, hf⟩ := h
  rcases DataW.trod_slice Try.underlying37 hf with ⟨hcs, _⟩ | ⟨a, len, cap, elems, rest, n, _, hcs, _, hb, hl, hm, hlen, hel, _, _⟩
  · simp [Value.cells] at hcs
    obtain ⟨rfl, rfl, rfl⟩ := hcs
    exact ⟨[], ⟨none, 0, rfl, by simp, fun h => absurd rfl h⟩, by simp, by simp⟩
  · simp [Value.cells] at hcs
    obtain ⟨rfl, rfl, rfl⟩ := hcs
    rw [show Try.prog.cellsOf 44 = 3 by kernel_rfl] at hel
    have each : ∀ i, i < len0 → ∃ x : Step5, goodS x ∧ ∀ j, j < 3 → W.cell? ((a.add (i * 3)).add j) = (stepC x)[j]? := fun i hi => by
      have h1 := hel i hi
      rw [List.getElem?_eq_getElem (by omega), Option.bind_eq_some_iff] at h1
      obtain ⟨cs', hc, hy⟩ := h1
      obtain ⟨x, hx, rfl⟩ := step_of hy
      refine ⟨x, hx, fun j hj => ?_⟩
      have h2 := (World.cells?_some hc).2.2 j hj
      simpa using h2
    obtain ⟨l, h1, h2⟩ := list_of len0 each
    refine ⟨l, ?_, by unfold maxLen at hm; omega, fun x hx => ?_⟩
    · refine ⟨some a, cap0, by rw [h1], by omega, fun hne => ?_⟩
      have h0 : 0 < len0 := by rw [← h1]; exact List.length_pos_iff.2 hne
      have hc := (h2 0 h0).2 0 (by decide)
      obtain ⟨bb, oo, q⟩ := a
      have hq : q = none := by
        have := World.cell?_spot hc
        simpa [Addr.add] using this
      subst hq
      refine ⟨bb, oo, rfl, ?_, fun i hi j hj => ?_⟩
      · rw [Addr.add_mid, Addr.add_mid] at hc
        exact block_lt_of_cell hc
      · have h3 := (h2 i (by omega)).2 j hj
        rw [Addr.add_mid, Addr.add_mid] at h3
        rw [← h3]
        congr 2
        omega
    · obtain ⟨i, hi, rfl⟩ := List.getElem_of_mem hx
      have := (h2 i (by omega)).1
      rw [List.getD_eq_getElem?_getD, List.getElem?_eq_getElem hi] at this
      exact this
end Sha
end Go.Proofs.Ytoefhcikfmgkbaa
