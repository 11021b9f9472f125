/- A slice of layer 8's steps that came in, opened; a step; numbers. -/
import Derived.Test.YtmpibofkihfiiaaEpStep
import Derived.Test.YtmpibofkihfiiaaListOf
import Derived.ProofKit
import Derived.OpenShut
import Derived.Stop.Joined
import Derived.Carry
import Derived.Deep.Strs
namespace Go.Proofs.Ytmpibofkihfiiaa
namespace Sha
open Go.ChangeShapes Go.WideShapes Go.ChangeAt Go.WideMaps Go.WideElems Go.RowKit Mem
theorem step8_of {H : Type} {enc : TypeId × Value → H} {w : World} {base : Nat} {sp : Nat → Bool} {held : Bool} {n : Nat} {cs : List Value} {y : DataW H × List MemPlace} (h : DataW.trod enc Try.prog w base sp held n 31 cs = some y) : ∃ x : Step8, goodS8 x ∧ cs = (stepC8 x).toList := by
  obtain ⟨xs, m, _, _, hl, hlen, hf⟩ := DataW.trod_struct Try.underlying31 h
  rw [show Try.prog.cellsOf 31 = 2 by kernel_rfl] at hl
  match xs, hlen with
  | [y0, y1], _ =>
    have h0 := hf 0 _ rfl
    have h1 := hf 1 _ rfl
    clear hf
    match cs, hl with
    | [a, b], _ =>
      obtain ⟨n0, e0, _, w0⟩ := DataW.trod_int (t := 5) Try.underlying5 h0
      obtain ⟨n1, e1, _, w1⟩ := DataW.trod_int (t := 3) Try.underlying3 h1
      have e0 : (([a, b] : List Value).drop 0).take (Try.prog.cellsOf 5) = [.int .u8 n0] := e0
      have e0 : a = .int .u8 n0 := by rw [show Try.prog.cellsOf 5 = 1 by kernel_rfl] at e0; simpa using e0
      have e1 : (([a, b] : List Value).drop 1).take (Try.prog.cellsOf 3) = [.int .i64 n1] := e1
      have e1 : b = .int .i64 n1 := by rw [show Try.prog.cellsOf 3 = 1 by kernel_rfl] at e1; simpa using e1
      simp [Lit.wf, IntKind.min, IntKind.max, IntKind.signed, IntKind.bits] at w0
      refine ⟨⟨BitVec.ofNat 8 n0.toNat, n1⟩, w1, ?_⟩
      have g0 : ((BitVec.ofNat 8 n0.toNat).toNat : Int) = n0 := by rw [BitVec.toNat_ofNat]; omega
      show [a, b] = [.int .u8 ((BitVec.ofNat 8 n0.toNat).toNat : Int), .int .i64 n1]
      rw [g0, e0, e1]
theorem open_slS8 {H : Type} {enc : TypeId × Value → H} {W : World} {base : Nat} {v : Value} {d : DataW H} {p : List MemPlace} (hval : Value.okWide Try.prog W .any base 23 v) (h : DataW.Trod enc Try.prog W 0 (fun _ => true) true 23 v d p) :
    ∃ l : List Step8, SlS8 W v l ∧ l.length ≤ 9223372036854775807 ∧ ∀ x ∈ l, goodS8 x := by
  obtain ⟨a0, len0, cap0, rfl⟩ := okWide_slice Try.underlying23 hval
  obtain ⟨fuel, hf⟩ := h
  rcases DataW.trod_slice Try.underlying23 hf with ⟨hcs, _⟩ | ⟨a, len, cap, elems, rest, n, _, hcs, _, hb, hl, hm, hlen, hel, _, _⟩
  · simp [Value.cells] at hcs
    obtain ⟨rfl, rfl, rfl⟩ := hcs
    exact ⟨[], ⟨none, 0, rfl, by simp, fun h => absurd rfl h⟩, by simp, by simp⟩
  · simp [Value.cells] at hcs
    obtain ⟨rfl, rfl, rfl⟩ := hcs
    rw [show Try.prog.cellsOf 31 = 2 by kernel_rfl] at hel
    have each : ∀ i, i < len0 → ∃ x : Step8, goodS8 x ∧ ∀ j, j < 2 → W.cell? ((a.add (i * 2)).add j) = (stepC8 x)[j]? := fun i hi => by
      have h1 := hel i hi
      rw [List.getElem?_eq_getElem (by omega), Option.bind_eq_some_iff] at h1
      obtain ⟨cs', hc, hy⟩ := h1
      obtain ⟨x, hx, rfl⟩ := step8_of hy
      refine ⟨x, hx, fun j hj => ?_⟩
      have h2 := (World.cells?_some hc).2.2 j hj
      simpa using h2
    obtain ⟨l, h1, h2⟩ := list_of len0 each
    refine ⟨l, ?_, by unfold maxLen at hm; omega, fun x hx => ?_⟩
    · refine ⟨some a, cap0, by rw [h1], by omega, fun hne => ?_⟩
      have h0 : 0 < len0 := by rw [← h1]; exact List.length_pos_iff.2 hne
      have hc := (h2 0 h0).2 0 (by decide)
      obtain ⟨bb, oo, q⟩ := a
      have hq : q = none := by
        have := World.cell?_spot hc
        simpa [Addr.add] using this
      subst hq
      refine ⟨bb, oo, rfl, ?_, fun i hi j hj => ?_⟩
      · rw [Addr.add_mid, Addr.add_mid] at hc
        exact block_lt_of_cell hc
      · have h3 := (h2 i (by omega)).2 j hj
        rw [Addr.add_mid, Addr.add_mid] at h3
        rw [← h3]
        congr 2
        omega
    · obtain ⟨i, hi, rfl⟩ := List.getElem_of_mem hx
      have := (h2 i (by omega)).1
      rw [List.getD_eq_getElem?_getD, List.getElem?_eq_getElem hi] at this
      exact this
end Sha
end Go.Proofs.Ytmpibofkihfiiaa
