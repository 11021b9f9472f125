/- An Ask that came in, opened. -/
import Derived.Test.YtngegegomkclbaaDoorLaw
import Derived.Lib.SmallJoins
namespace Go.Proofs.YtngegegomkclbaaDoor
namespace Sha
open Go.ChangeShapes Go.WideShapes Go.ChangeAt Go.WideMaps Go.WideElems Go.RowKit Mem
theorem open_sl_in {H : Type} {enc : TypeId × Value → H} {W : World} {n : Nat} {v : Value} {y : DataW H × List MemPlace} (hf : DataW.trod enc Tryd.prog W 0 (fun _ => true) true n 22 [v] = some y) :
    ∃ l, Sl W v l ∧ l.length ≤ 9223372036854775807 := by
  rcases open_ints Tryd.underlying22 Tryd.underlying5 cB hf with ⟨hcs, _⟩ | ⟨a, len', cap', zs, hcs, _, hl, hm, hz, _, hcell, hwz⟩
  · simp at hcs
    subst hcs
    exact ⟨[], sl_nil _ _, by simp⟩
  · simp at hcs
    subst hcs
    simp only [if_true] at hz
    obtain ⟨l, h1, h2⟩ := sl_of cap' hl (by rw [hz]; exact hl) hcell hwz
    refine ⟨l, h1, ?_⟩
    unfold maxLen at hm
    omega
theorem open_int_in {H : Type} {enc : TypeId × Value → H} {W : World} {n : Nat} {v : Value} {y : DataW H × List MemPlace} (hf : DataW.trod enc Tryd.prog W 0 (fun _ => true) true n 3 [v] = some y) :
    ∃ z : Int, v = .int .i64 z ∧ -9223372036854775808 ≤ z ∧ z ≤ 9223372036854775807 := by
  obtain ⟨n', h, _, hw⟩ := DataW.trod_int Tryd.underlying3 hf
  simp at h
  subst h
  simp [Lit.wf, IntKind.min, IntKind.max, IntKind.signed, IntKind.bits] at hw
  exact ⟨n', rfl, by omega, by omega⟩
/-- An Ask: a passphrase, a salt, rounds and a size. -/
theorem open_ask {H : Type} {enc : TypeId × Value → H} {W : World} {base : Nat} {v : Value} {d : DataW H} {p : List MemPlace} (hval : Value.okWide Tryd.prog W .any base 35 v) (h : DataW.Trod enc Tryd.prog W 0 (fun _ => true) true 35 v d p) :
    ∃ (vp vs : Value) (r size : Int) (pp ss : List (BitVec 8)), v = .agg #[vp, vs, .int .i64 r, .int .i64 size] ∧ Sl W vp pp ∧ Sl W vs ss ∧ pp.length ≤ 9223372036854775807 ∧ ss.length ≤ 9223372036854775807 ∧
      -9223372036854775808 ≤ r ∧ r ≤ 9223372036854775807 ∧ -9223372036854775808 ≤ size ∧ size ≤ 9223372036854775807 := by
  obtain ⟨v0, v1, v2, v3, y0, y1, y2, y3, n, rfl, _, _, h0, h1, h2, h3⟩ := Joins.open_agg4 Tryd.underlying35 (by kernel_rfl) (by kernel_rfl) hval h
  obtain ⟨pp, s0, l0⟩ := open_sl_in h0
  obtain ⟨ss, s1, l1⟩ := open_sl_in h1
  obtain ⟨r, rfl, a2, b2⟩ := open_int_in h2
  obtain ⟨z, rfl, a3, b3⟩ := open_int_in h3
  exact ⟨v0, v1, r, z, pp, ss, rfl, s0, s1, l0, l1, a2, b2, a3, b3⟩
end Sha
end Go.Proofs.YtngegegomkclbaaDoor
