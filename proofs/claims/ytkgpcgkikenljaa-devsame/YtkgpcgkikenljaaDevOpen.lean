/- A slice of layer 6's steps that came in, opened; a step; numbers. -/
import Derived.Test.YtkgpcgkikenljaaDevDo
import Derived.Test.YtkgpcgkikenljaaLaw0
import Derived.ProofKit
import Derived.OpenShut
import Derived.Stop.Joined
import Derived.Carry
import Derived.Deep.Strs
namespace Go.Proofs.Ytkgpcgkikenljaa
namespace Sha
open Go.ChangeShapes Go.WideShapes Go.ChangeAt Go.WideMaps Go.WideElems Go.RowKit Mem
theorem list_of {α : Type} [Inhabited α] {P : Nat → α → Prop} : ∀ n : Nat, (∀ i, i < n → ∃ x, P i x) → ∃ l : List α, l.length = n ∧ ∀ i, i < n → P i (l.getD i default)
  | 0, _ => ⟨[], rfl, fun i hi => absurd hi (by omega)⟩
  | n + 1, h => by
    obtain ⟨l, hl, hp⟩ := list_of n (fun i hi => h i (by omega))
    obtain ⟨x, hx⟩ := h n (by omega)
    refine ⟨l ++ [x], by simp [hl], fun i hi => ?_⟩
    by_cases hin : i < n
    · have : (l ++ [x]).getD i default = l.getD i default := by
        rw [List.getD_eq_getElem?_getD, List.getD_eq_getElem?_getD, List.getElem?_append_left (by omega)]
      rw [this]; exact hp i hin
    · have hi2 : i = n := by omega
      subst hi2
      have : (l ++ [x]).getD i default = x := by
        rw [List.getD_eq_getElem?_getD, List.getElem?_append_right (by omega), hl]; simp
      rw [this]; exact hx
theorem step6_of {H : Type} {enc : TypeId × Value → H} {w : World} {base : Nat} {sp : Nat → Bool} {held : Bool} {n : Nat} {cs : List Value} {y : DataW H × List MemPlace} (h : DataW.trod enc Try.prog w base sp held n 39 cs = some y) : ∃ x : Step6, goodS6 x ∧ cs = (stepC6 x).toList := by
  obtain ⟨xs, m, _, _, hl, hlen, hf⟩ := DataW.trod_struct Try.underlying39 h
  rw [show Try.prog.cellsOf 39 = 5 by kernel_rfl] at hl
  match xs, hlen with
  | [y0, y1, y2, y3, y4], _ =>
    have h0 := hf 0 _ rfl
    have h1 := hf 1 _ rfl
    have h2 := hf 2 _ rfl
    have h3 := hf 3 _ rfl
    have h4 := hf 4 _ rfl
    clear hf
    match cs, hl with
    | [a, b, c, d, e], _ =>
      obtain ⟨n0, e0, _, w0⟩ := DataW.trod_int (t := 5) Try.underlying5 h0
      obtain ⟨n1, e1, _, w1⟩ := DataW.trod_int (t := 3) Try.underlying3 h1
      obtain ⟨n2, e2, _, w2⟩ := DataW.trod_int (t := 3) Try.underlying3 h2
      obtain ⟨n3, e3, _, w3⟩ := DataW.trod_int (t := 5) Try.underlying5 h3
      obtain ⟨n4, e4, _, w4⟩ := DataW.trod_int (t := 37) Try.underlying37 h4
      have e0 : (([a, b, c, d, e] : List Value).drop 0).take (Try.prog.cellsOf 5) = [.int .u8 n0] := e0
      have e0 : a = .int .u8 n0 := by rw [show Try.prog.cellsOf 5 = 1 by kernel_rfl] at e0; simpa using e0
      have e1 : (([a, b, c, d, e] : List Value).drop 1).take (Try.prog.cellsOf 3) = [.int .i64 n1] := e1
      have e1 : b = .int .i64 n1 := by rw [show Try.prog.cellsOf 3 = 1 by kernel_rfl] at e1; simpa using e1
      have e2 : (([a, b, c, d, e] : List Value).drop 2).take (Try.prog.cellsOf 3) = [.int .i64 n2] := e2
      have e2 : c = .int .i64 n2 := by rw [show Try.prog.cellsOf 3 = 1 by kernel_rfl] at e2; simpa using e2
      have e3 : (([a, b, c, d, e] : List Value).drop 3).take (Try.prog.cellsOf 5) = [.int .u8 n3] := e3
      have e3 : d = .int .u8 n3 := by rw [show Try.prog.cellsOf 5 = 1 by kernel_rfl] at e3; simpa using e3
      have e4 : (([a, b, c, d, e] : List Value).drop 4).take (Try.prog.cellsOf 37) = [.int .u64 n4] := e4
      have e4 : e = .int .u64 n4 := by rw [show Try.prog.cellsOf 37 = 1 by kernel_rfl] at e4; simpa using e4
      simp [Lit.wf, IntKind.min, IntKind.max, IntKind.signed, IntKind.bits] at w0 w1 w2 w3 w4
      refine ⟨⟨BitVec.ofNat 8 n0.toNat, n1, n2, BitVec.ofNat 8 n3.toNat, n4.toNat⟩, ⟨⟨by show _ ≤ n1; omega, by show n1 ≤ _; omega⟩, ⟨by show _ ≤ n2; omega, by show n2 ≤ _; omega⟩, by show n4.toNat < _; omega⟩, ?_⟩
      have g0 : B8 (BitVec.ofNat 8 n0.toNat) = n0 := by unfold B8; rw [BitVec.toNat_ofNat]; omega
      have g3 : B8 (BitVec.ofNat 8 n3.toNat) = n3 := by unfold B8; rw [BitVec.toNat_ofNat]; omega
      have g4 : ((n4.toNat : Nat) : Int) = n4 := by omega
      show [a, b, c, d, e] = [.int .u8 (B8 (BitVec.ofNat 8 n0.toNat)), .int .i64 n1, .int .i64 n2, .int .u8 (B8 (BitVec.ofNat 8 n3.toNat)), .int .u64 ((n4.toNat : Nat) : Int)]
      rw [g0, g3, g4, e0, e1, e2, e3, e4]
theorem open_slS6 {H : Type} {enc : TypeId × Value → H} {W : World} {base : Nat} {v : Value} {d : DataW H} {p : List MemPlace} (hval : Value.okWide Try.prog W .any base 22 v) (h : DataW.Trod enc Try.prog W 0 (fun _ => true) true 22 v d p) :
    ∃ l : List Step6, SlS6 W v l ∧ l.length ≤ 9223372036854775807 ∧ ∀ x ∈ l, goodS6 x := by
  obtain ⟨a0, len0, cap0, rfl⟩ := okWide_slice Try.underlying22 hval
  obtain ⟨fuel, hf⟩ := h
  rcases DataW.trod_slice Try.underlying22 hf with ⟨hcs, _⟩ | ⟨a, len, cap, elems, rest, n, _, hcs, _, hb, hl, hm, hlen, hel, _, _⟩
  · simp [Value.cells] at hcs
    obtain ⟨rfl, rfl, rfl⟩ := hcs
    exact ⟨[], ⟨none, 0, rfl, by simp, fun h => absurd rfl h⟩, by simp, by simp⟩
  · simp [Value.cells] at hcs
    obtain ⟨rfl, rfl, rfl⟩ := hcs
    rw [show Try.prog.cellsOf 39 = 5 by kernel_rfl] at hel
    have each : ∀ i, i < len0 → ∃ x : Step6, goodS6 x ∧ ∀ j, j < 5 → W.cell? ((a.add (i * 5)).add j) = (stepC6 x)[j]? := fun i hi => by
      have h1 := hel i hi
      rw [List.getElem?_eq_getElem (by omega), Option.bind_eq_some_iff] at h1
      obtain ⟨cs', hc, hy⟩ := h1
      obtain ⟨x, hx, rfl⟩ := step6_of hy
      refine ⟨x, hx, fun j hj => ?_⟩
      have h2 := (World.cells?_some hc).2.2 j hj
      simpa using h2
    obtain ⟨l, h1, h2⟩ := list_of len0 each
    refine ⟨l, ?_, by unfold maxLen at hm; omega, fun x hx => ?_⟩
    · refine ⟨some a, cap0, by rw [h1], by omega, fun hne => ?_⟩
      have h0 : 0 < len0 := by rw [← h1]; exact List.length_pos_iff.2 hne
      have hc := (h2 0 h0).2 0 (by decide)
      obtain ⟨bb, oo, q⟩ := a
      have hq : q = none := by
        have := World.cell?_spot hc
        simpa [Addr.add] using this
      subst hq
      refine ⟨bb, oo, rfl, ?_, fun i hi j hj => ?_⟩
      · rw [Addr.add_mid, Addr.add_mid] at hc
        exact block_lt_of_cell hc
      · have h3 := (h2 i (by omega)).2 j hj
        rw [Addr.add_mid, Addr.add_mid] at h3
        rw [← h3]
        congr 2
        omega
    · obtain ⟨i, hi, rfl⟩ := List.getElem_of_mem hx
      have := (h2 i (by omega)).1
      rw [List.getD_eq_getElem?_getD, List.getElem?_eq_getElem hi] at this
      exact this
end Sha
end Go.Proofs.Ytkgpcgkikenljaa
