/- An Ask that came in, opened. | Arrays of bytes that came in, opened. -/
import Derived.Test.YtngegegomkclbaaDoorLaw
import Derived.Lib.SmallJoins
namespace Go.Proofs.YtngegegomkclbaaDoor
namespace Sha
open Go.ChangeShapes Go.WideShapes Go.ChangeAt Go.WideMaps Go.WideElems Go.RowKit Mem
theorem open_sl_in {H : Type} {enc : TypeId × Value → H} {W : World} {n : Nat} {v : Value} {y : DataW H × List MemPlace} (hf : DataW.trod enc Tryd.prog W 0 (fun _ => true) true n 22 [v] = some y) :
    ∃ l, Sl W v l ∧ l.length ≤ 9223372036854775807 := by
  rcases open_ints Tryd.underlying22 Tryd.underlying5 cB hf with ⟨hcs, _⟩ | ⟨a, len', cap', zs, hcs, _, hl, hm, hz, _, hcell, hwz⟩
  · simp at hcs
    subst hcs
    exact ⟨[], sl_nil _ _, by simp⟩
  · simp at hcs
    subst hcs
    simp only [if_true] at hz
    obtain ⟨l, h1, h2⟩ := sl_of cap' hl (by rw [hz]; exact hl) hcell hwz
    refine ⟨l, h1, ?_⟩
    unfold maxLen at hm
    omega
theorem open_int_in {H : Type} {enc : TypeId × Value → H} {W : World} {n : Nat} {v : Value} {y : DataW H × List MemPlace} (hf : DataW.trod enc Tryd.prog W 0 (fun _ => true) true n 3 [v] = some y) :
    ∃ z : Int, v = .int .i64 z ∧ -9223372036854775808 ≤ z ∧ z ≤ 9223372036854775807 := by
  obtain ⟨n', h, _, hw⟩ := DataW.trod_int Tryd.underlying3 hf
  simp at h
  subst h
  simp [Lit.wf, IntKind.min, IntKind.max, IntKind.signed, IntKind.bits] at hw
  exact ⟨n', rfl, by omega, by omega⟩
/-- An Ask: a passphrase, a salt, rounds and a size. -/
theorem open_ask {H : Type} {enc : TypeId × Value → H} {W : World} {base : Nat} {v : Value} {d : DataW H} {p : List MemPlace} (hval : Value.okWide Tryd.prog W .any base 35 v) (h : DataW.Trod enc Tryd.prog W 0 (fun _ => true) true 35 v d p) :
    ∃ (vp vs : Value) (r size : Int) (pp ss : List (BitVec 8)), v = .agg #[vp, vs, .int .i64 r, .int .i64 size] ∧ Sl W vp pp ∧ Sl W vs ss ∧ pp.length ≤ 9223372036854775807 ∧ ss.length ≤ 9223372036854775807 ∧
      -9223372036854775808 ≤ r ∧ r ≤ 9223372036854775807 ∧ -9223372036854775808 ≤ size ∧ size ≤ 9223372036854775807 := by
  obtain ⟨v0, v1, v2, v3, y0, y1, y2, y3, n, rfl, _, _, h0, h1, h2, h3⟩ := Joins.open_agg4 Tryd.underlying35 (by kernel_rfl) (by kernel_rfl) hval h
  obtain ⟨pp, s0, l0⟩ := open_sl_in h0
  obtain ⟨ss, s1, l1⟩ := open_sl_in h1
  obtain ⟨r, rfl, a2, b2⟩ := open_int_in h2
  obtain ⟨z, rfl, a3, b3⟩ := open_int_in h3
  exact ⟨v0, v1, r, z, pp, ss, rfl, s0, s1, l0, l1, a2, b2, a3, b3⟩
end Sha
end Go.Proofs.YtngegegomkclbaaDoor
namespace Go.Proofs.YtngegegomkclbaaDoor
namespace Sha
open Go.ChangeShapes Go.WideShapes Go.ChangeAt Go.WideMaps Go.WideElems Go.RowKit Mem
theorem okWide_array {P : Program} {w : World} {r : Reach} {base : Nat} {t e : TypeId} {v : Value} {n : Nat} (ht : P.underlying t = some (.array n e)) (h : Value.okWide P w r base t v) : ∃ cs, v = .agg cs ∧ cs.size = P.cellsOf t := by
  simp only [Value.okWide, ht] at h
  obtain ⟨cs, h1, h2, _⟩ := h
  exact ⟨cs, h1, h2⟩
theorem open_bytes_in {H : Type} {enc : TypeId × Value → H} {W : World} {m n : Nat} {t : TypeId} {cs : List Value} {y : DataW H × List MemPlace} (hu : Tryd.prog.underlying t = some (.array n 5)) (hc : Tryd.prog.cellsOf t = n)
    (hf : DataW.trod enc Tryd.prog W 0 (fun _ => true) true m t cs = some y) : ∃ l : List (BitVec 8), cs = u8s l ∧ l.length = n := by
  obtain ⟨xs, m', _, _, hl, hx, he⟩ := DataW.trod_array hu hf
  rw [hc] at hl
  have each : ∀ i, i < n → ∃ b : BitVec 8, cs[i]? = some (.int .u8 (b.toNat : Int)) := fun i hi => by
    have h := he i hi
    rw [cB, Nat.mul_one, List.getElem?_eq_getElem (by omega)] at h
    obtain ⟨k, hk, _, hw⟩ := DataW.trod_int Tryd.underlying5 h
    obtain ⟨b, rfl⟩ := byte_of hw
    refine ⟨b, ?_⟩
    have h0 : ((cs.drop i).take 1)[0]? = some (.int .u8 (b.toNat : Int)) := by rw [hk]; rfl
    simpa [List.getElem?_take, List.getElem?_drop] using h0
  obtain ⟨f, hff⟩ := Deep.choose_lt each
  refine ⟨(List.range n).map f, ?_, by simp⟩
  apply List.ext_getElem?
  intro i
  by_cases hi : i < n
  · rw [hff i hi]; simp [u8s, hi]
  · rw [List.getElem?_eq_none (by omega), List.getElem?_eq_none (by simp [u8s]; omega)]
/-- Two of 32 bytes. -/
theorem open_two {H : Type} {enc : TypeId × Value → H} {W : World} {base : Nat} {v : Value} {d : DataW H} {p : List MemPlace} (hval : Value.okWide Tryd.prog W .any base 44 v) (h : DataW.Trod enc Tryd.prog W 0 (fun _ => true) true 44 v d p) :
    ∃ x y : List (BitVec 8), v = .agg (u8s (x ++ y)).toArray ∧ x.length = 32 ∧ y.length = 32 := by
  obtain ⟨cs, rfl, hs⟩ := okWide_array Tryd.underlying44 hval
  rw [show Tryd.prog.cellsOf 44 = 64 by kernel_rfl] at hs
  obtain ⟨fuel, hf⟩ := h
  have e1 : (Value.agg cs).cells.toList = cs.toList := rfl
  rw [e1] at hf
  obtain ⟨xs, m', _, _, hl, hx, he⟩ := DataW.trod_array Tryd.underlying44 hf
  have c32 : Tryd.prog.cellsOf 25 = 32 := by kernel_rfl
  have h0 := he 0 (by decide)
  have h1 := he 1 (by decide)
  rw [c32, List.getElem?_eq_getElem (by omega)] at h0 h1
  obtain ⟨x, ex, lx⟩ := open_bytes_in Tryd.underlying25 c32 h0
  obtain ⟨y, ey, ly⟩ := open_bytes_in Tryd.underlying25 c32 h1
  refine ⟨x, y, ?_, lx, ly⟩
  have e : cs.toList = u8s (x ++ y) := by
    have h3 : u8s (x ++ y) = u8s x ++ u8s y := by simp [u8s]
    rw [h3, ← ex, ← ey, Nat.zero_mul, List.drop_zero, Nat.one_mul]
    have h4 : (cs.toList.drop 32).take 32 = cs.toList.drop 32 := List.take_of_length_le (by simp [hs])
    rw [h4, List.take_append_drop]
  rw [← e]
/-- A word of 32 bits. -/
theorem open_word {H : Type} {enc : TypeId × Value → H} {W : World} {base : Nat} {v : Value} {d : DataW H} {p : List MemPlace} (hval : Value.okWide Tryd.prog W .any base 43 v) (h : DataW.Trod enc Tryd.prog W 0 (fun _ => true) true 43 v d p) :
    ∃ n : BitVec 32, v = .int .u32 (V n) := by
  obtain ⟨c, rfl, _, _, wc⟩ := open_int Tryd.underlying43 hval h
  simp [Lit.wf, IntKind.min, IntKind.max, IntKind.signed, IntKind.bits] at wc
  refine ⟨BitVec.ofNat 32 c.toNat, ?_⟩
  unfold V
  rw [BitVec.toNat_ofNat]
  congr 1
  omega
end Sha
end Go.Proofs.YtngegegomkclbaaDoor
