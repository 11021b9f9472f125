/- A slice of layer 15's steps that came in, opened; a byte; a number. -/
import Derived.Test.YteiffdccfmfdbaaLruStep
import Derived.Test.YteiffdccfmfdbaaMapV
import Derived.Test.YteiffdccfmfdbaaListOf
import Derived.Test.YteiffdccfmfdbaaLaw0
import Derived.Test.YteiffdccfmfdbaaLift0
import Derived.ProofKit
import Derived.OpenShut
import Derived.Stop.Joined
import Derived.Carry
import Derived.Lib.SmallJoins
namespace Go.Proofs.Yteiffdccfmfdbaa
namespace Sha
open Go.ChangeShapes Go.WideShapes Go.ChangeAt Go.WideMaps Go.WideElems Go.RowKit Mem
theorem open_u8 {H : Type} {enc : TypeId × Value → H} {W : World} {base : Nat} {v : Value} {d : DataW H} {p : List MemPlace} (hval : Value.okWide Try.prog W .any base 5 v) (h : DataW.Trod enc Try.prog W 0 (fun _ => true) true 5 v d p) :
    ∃ x : BitVec 8, v = .int .u8 (x.toNat : Int) := by
  obtain ⟨c, rfl, _, _, wc⟩ := open_int Try.underlying5 hval h
  simp [Lit.wf, IntKind.min, IntKind.max, IntKind.signed, IntKind.bits] at wc
  refine ⟨BitVec.ofNat 8 c.toNat, ?_⟩
  rw [BitVec.toNat_ofNat]
  congr 1
  omega
theorem open_iw {H : Type} {enc : TypeId × Value → H} {W : World} {base : Nat} {v : Value} {d : DataW H} {p : List MemPlace} (hval : Value.okWide Try.prog W .any base 3 v) (h : DataW.Trod enc Try.prog W 0 (fun _ => true) true 3 v d p) :
    ∃ z : Int, v = .int .i64 z ∧ wfI z := by
  obtain ⟨c, rfl, _, _, wc⟩ := open_int Try.underlying3 hval h
  exact ⟨c, rfl, wc⟩
set_option maxRecDepth 100000 in
theorem step15_of {H : Type} {enc : TypeId × Value → H} {w : World} {n : Nat} {cs : List Value} {y : DataW H × List MemPlace} (h : DataW.trod enc Try.prog w 0 (fun _ => true) true n 34 cs = some y) : ∃ x : Step15, wfI x.item ∧ Sl w x.pv x.page ∧ cs = (stM x).toList := by
  obtain ⟨_, _, _, _, hl, _, _⟩ := DataW.trod_struct Try.underlying34 h
  rw [show Try.prog.cellsOf 34 = 3 by kernel_rfl] at hl
  obtain ⟨y0, y1, y2, m, _, _, h0, h1, h2⟩ := Deep.trod_struct3 Try.underlying34 h
  simp only at h0 h1 h2
  rw [show Try.prog.cellsOf 5 = 1 by kernel_rfl] at h0
  rw [show Try.prog.cellsOf 3 = 1 by kernel_rfl] at h1
  rw [show Try.prog.cellsOf 32 = 1 by kernel_rfl] at h2
  obtain ⟨a, b, c, rfl⟩ : ∃ a b c, cs = [a, b, c] := match cs, hl with | [a, b, c], _ => ⟨a, b, c, rfl⟩
  obtain ⟨n0, e0, _, w0⟩ := DataW.trod_int Try.underlying5 h0
  obtain ⟨n1, e1, _, w1⟩ := DataW.trod_int Try.underlying3 h1
  simp at e0 e1
  obtain ⟨pl, hs, _⟩ := open_sl_in h2
  obtain ⟨pa, pc, ep, hc, hr⟩ := id hs
  simp [Lit.wf, IntKind.min, IntKind.max, IntKind.signed, IntKind.bits] at w0
  refine ⟨⟨BitVec.ofNat 8 n0.toNat, n1, pl, pa, pc⟩, w1, by rw [ep] at hs; exact hs, ?_⟩
  have g0 : ((BitVec.ofNat 8 n0.toNat).toNat : Int) = n0 := by rw [BitVec.toNat_ofNat]; omega
  show [a, b, c] = [.int .u8 ((BitVec.ofNat 8 n0.toNat).toNat : Int), .int .i64 n1, .slice pa pl.length pc]
  rw [g0, e0, e1, ep]
theorem open_slS15 {H : Type} {enc : TypeId × Value → H} {W : World} {base : Nat} {v : Value} {d : DataW H} {p : List MemPlace} (hval : Value.okWide Try.prog W .any base 22 v) (h : DataW.Trod enc Try.prog W 0 (fun _ => true) true 22 v d p) :
    ∃ l : List Step15, SlS15 W v l ∧ l.length ≤ 9223372036854775807 ∧ ∀ x ∈ l, wfI x.item := by
  obtain ⟨a0, len0, cap0, rfl⟩ := okWide_slice Try.underlying22 hval
  obtain ⟨fuel, hf⟩ := h
  rcases DataW.trod_slice Try.underlying22 hf with ⟨hcs, _⟩ | ⟨a, len, cap, elems, rest, n, _, hcs, _, hb, hl, hm, hlen, hel, _, _⟩
  · simp [Value.cells] at hcs
    obtain ⟨rfl, rfl, rfl⟩ := hcs
    exact ⟨[], ⟨⟨none, 0, rfl, by simp, fun h => absurd rfl h⟩, by simp⟩, by simp, by simp⟩
  · simp [Value.cells] at hcs
    obtain ⟨rfl, rfl, rfl⟩ := hcs
    rw [show Try.prog.cellsOf 34 = 3 by kernel_rfl] at hel
    have each : ∀ i, i < len0 → ∃ x : Step15, wfI x.item ∧ Sl W x.pv x.page ∧ ∀ j, j < 3 → W.cell? ((a.add (i * 3)).add j) = (stM x)[j]? := fun i hi => by
      have h1 := hel i hi
      rw [List.getElem?_eq_getElem (by omega), Option.bind_eq_some_iff] at h1
      obtain ⟨cs', hc, hy⟩ := h1
      obtain ⟨x, hx, hp, rfl⟩ := step15_of hy
      refine ⟨x, hx, hp, fun j hj => ?_⟩
      have h2 := (World.cells?_some hc).2.2 j hj
      simpa using h2
    obtain ⟨l, h1, h2⟩ := list_of len0 (P := fun i x => wfI x.item ∧ Sl W x.pv x.page ∧ ∀ j, j < 3 → W.cell? ((a.add (i * 3)).add j) = (stM x)[j]?) each
    have hall : ∀ x ∈ l, wfI x.item ∧ Sl W x.pv x.page := fun x hx => by
      obtain ⟨i, hi, rfl⟩ := List.getElem_of_mem hx
      have := h2 i (by omega)
      rw [List.getD_eq_getElem?_getD, List.getElem?_eq_getElem hi] at this
      exact ⟨this.1, this.2.1⟩
    refine ⟨l, ⟨⟨some a, cap0, by rw [h1], by omega, fun hne => ?_⟩, fun s hs => (hall s hs).2⟩, by unfold maxLen at hm; omega, fun x hx => (hall x hx).1⟩
    have h0 : 0 < len0 := by rw [← h1]; exact List.length_pos_iff.2 hne
    have hc := (h2 0 h0).2.2 0 (by decide)
    obtain ⟨bb, oo, q⟩ := a
    have hq : q = none := by
      have := World.cell?_spot hc
      simpa [Addr.add] using this
    subst hq
    refine ⟨bb, oo, rfl, ?_, fun i hi j u hu => ?_⟩
    · rw [Addr.add_mid, Addr.add_mid] at hc
      exact block_lt_of_cell hc
    · have hj : j < 3 := by have := (List.getElem?_eq_some_iff.1 hu).1; rw [Array.length_toList, stM_size] at this; exact this
      have h3 := (h2 i (by omega)).2.2 j hj
      rw [Addr.add_mid, Addr.add_mid] at h3
      rw [h3]
      simpa using hu
end Sha
end Go.Proofs.Yteiffdccfmfdbaa
