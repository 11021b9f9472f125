/- Slices of bytes, arrays and words that came in are opened. -/
import Derived.Test.YteiffdccfmfdbaaLaw1
import Derived.Test.YteiffdccfmfdbaaSl
namespace Go.Proofs.Yteiffdccfmfdbaa
namespace Sha
open Go.ChangeShapes Go.WideShapes Go.ChangeAt Go.WideMaps Go.WideElems Go.RowKit Mem
set_option maxRecDepth 100000
theorem byte_of {n : Int} (h : (Lit.int .u8 n).wf = true) : ∃ x : BitVec 8, n = (x.toNat : Int) := by
  have h2 := h
  simp [Lit.wf, IntKind.min, IntKind.max, IntKind.signed, IntKind.bits] at h2
  refine ⟨BitVec.ofNat 8 n.toNat, ?_⟩
  rw [BitVec.toNat_ofNat]
  omega
theorem bytes_of : ∀ (zs : List Int), (∀ n ∈ zs, (Lit.int .u8 n).wf = true) → ∃ l : List (BitVec 8), zs = l.map fun x => (x.toNat : Int)
  | [], _ => ⟨[], rfl⟩
  | z :: zs, h => by
    obtain ⟨x, hx⟩ := byte_of (h z (by simp))
    obtain ⟨l, hl⟩ := bytes_of zs (fun n hn => h n (by simp [hn]))
    exact ⟨x :: l, by simp [hx, hl]⟩
theorem cB : Try.prog.cellsOf 5 = 1 := by kernel_rfl
theorem cS : Try.prog.cellsOf 32 = 1 := by kernel_rfl
/-- A slice that came in is a slice of bytes. -/
theorem sl_of {w : World} {a : Addr} {len : Nat} (cap : Nat) {zs : List Int} (hl : len ≤ cap) (hz : len ≤ zs.length) (hcell : ∀ i, i < zs.length → w.cell? (a.add i) = some (.int .u8 (zs.getD i 0))) (hwz : ∀ n ∈ zs, (Lit.int .u8 n).wf = true) :
    ∃ l, Sl w (.slice (some a) len cap) l ∧ l.length = len := by
  obtain ⟨l, rfl⟩ := bytes_of zs hwz
  have hz' : len ≤ l.length := by simpa using hz
  have hlen : (l.take len).length = len := by simp; omega
  refine ⟨l.take len, ⟨some a, cap, by rw [hlen], by rw [hlen]; exact hl, fun hne => ?_⟩, hlen⟩
  have hp : 0 < len := by
    rcases Nat.eq_zero_or_pos len with h | h
    · subst h; simp at hne
    · exact h
  have h0 := hcell 0 (by simp; omega)
  obtain ⟨b, o, ln⟩ := a
  have hsp : ln = none := by simpa [Addr.add] using World.cell?_spot h0
  subst hsp
  refine ⟨b, o, rfl, ?_, fun i hi => ?_⟩
  · rw [Addr.add_mid] at h0
    exact block_lt_of_cell h0
  · rw [hlen] at hi
    have h1 := hcell i (by simp; omega)
    rw [Addr.add_mid] at h1
    rw [h1]
    simp [List.getD_eq_getElem?_getD, hi, show i < l.length by omega]
theorem sl_nil (w : World) (cap : Nat) : Sl w (.slice none 0 cap) [] := ⟨none, cap, rfl, by simp, fun h => absurd rfl h⟩
theorem open_sl {H : Type} {enc : TypeId × Value → H} {W : World} {base : Nat} {v : Value} {d : DataW H} {p : List MemPlace} (hval : Value.okWide Try.prog W .any base 32 v) (h : DataW.Trod enc Try.prog W 0 (fun _ => true) true 32 v d p) :
    ∃ l, Sl W v l ∧ l.length ≤ 9223372036854775807 := by
  obtain ⟨a0, len, cap, rfl⟩ := okWide_slice Try.underlying32 hval
  obtain ⟨fuel, hf⟩ := h
  rcases open_ints Try.underlying32 Try.underlying5 cB hf with ⟨hcs, _⟩ | ⟨a, len', cap', zs, hcs, _, hl, hm, hz, _, hcell, hwz⟩
  · simp [Value.cells] at hcs
    obtain ⟨rfl, rfl, rfl⟩ := hcs
    exact ⟨[], sl_nil _ _, by simp⟩
  · simp [Value.cells] at hcs
    obtain ⟨rfl, rfl, rfl⟩ := hcs
    simp only [if_true] at hz
    obtain ⟨l, h1, h2⟩ := sl_of cap hl (by rw [hz]; exact hl) hcell hwz
    refine ⟨l, h1, ?_⟩
    unfold maxLen at hm
    omega
theorem open_sl_in {H : Type} {enc : TypeId × Value → H} {W : World} {n : Nat} {v : Value} {y : DataW H × List MemPlace} (hf : DataW.trod enc Try.prog W 0 (fun _ => true) true n 32 [v] = some y) :
    ∃ l, Sl W v l ∧ l.length ≤ 9223372036854775807 := by
  rcases open_ints Try.underlying32 Try.underlying5 cB hf with ⟨hcs, _⟩ | ⟨a, len', cap', zs, hcs, _, hl, hm, hz, _, hcell, hwz⟩
  · simp at hcs
    subst hcs
    exact ⟨[], sl_nil _ _, by simp⟩
  · simp at hcs
    subst hcs
    simp only [if_true] at hz
    obtain ⟨l, h1, h2⟩ := sl_of cap' hl (by rw [hz]; exact hl) hcell hwz
    refine ⟨l, h1, ?_⟩
    unfold maxLen at hm
    omega
theorem open_int_in {H : Type} {enc : TypeId × Value → H} {W : World} {n : Nat} {v : Value} {y : DataW H × List MemPlace} (hf : DataW.trod enc Try.prog W 0 (fun _ => true) true n 3 [v] = some y) :
    ∃ z : Int, v = .int .i64 z ∧ -9223372036854775808 ≤ z ∧ z ≤ 9223372036854775807 := by
  obtain ⟨n', h, _, hw⟩ := DataW.trod_int Try.underlying3 hf
  simp at h
  subst h
  simp [Lit.wf, IntKind.min, IntKind.max, IntKind.signed, IntKind.bits] at hw
  exact ⟨n', rfl, by omega, by omega⟩
theorem okWide_array {P : Program} {w : World} {r : Reach} {base : Nat} {t e : TypeId} {v : Value} {n : Nat} (ht : P.underlying t = some (.array n e)) (h : Value.okWide P w r base t v) : ∃ cs, v = .agg cs ∧ cs.size = P.cellsOf t := by
  simp only [Value.okWide, ht] at h
  obtain ⟨cs, h1, h2, _⟩ := h
  exact ⟨cs, h1, h2⟩
theorem open_bytes_in {H : Type} {enc : TypeId × Value → H} {W : World} {m n : Nat} {t : TypeId} {cs : List Value} {y : DataW H × List MemPlace} (hu : Try.prog.underlying t = some (.array n 5)) (hc : Try.prog.cellsOf t = n)
    (hf : DataW.trod enc Try.prog W 0 (fun _ => true) true m t cs = some y) : ∃ l : List (BitVec 8), cs = u8s l ∧ l.length = n := by
  obtain ⟨xs, m', _, _, hl, hx, he⟩ := DataW.trod_array hu hf
  rw [hc] at hl
  have each : ∀ i, i < n → ∃ b : BitVec 8, cs[i]? = some (.int .u8 (b.toNat : Int)) := fun i hi => by
    have h := he i hi
    rw [cB, Nat.mul_one, List.getElem?_eq_getElem (by omega)] at h
    obtain ⟨k, hk, _, hw⟩ := DataW.trod_int Try.underlying5 h
    obtain ⟨b, rfl⟩ := byte_of hw
    refine ⟨b, ?_⟩
    have h0 : ((cs.drop i).take 1)[0]? = some (.int .u8 (b.toNat : Int)) := by rw [hk]; rfl
    simpa [List.getElem?_take, List.getElem?_drop] using h0
  obtain ⟨f, hff⟩ := Deep.choose_lt each
  refine ⟨(List.range n).map f, ?_, by simp⟩
  apply List.ext_getElem?
  intro i
  by_cases hi : i < n
  · rw [hff i hi]; simp [u8s, hi]
  · rw [List.getElem?_eq_none (by omega), List.getElem?_eq_none (by simp [u8s]; omega)]
/-- An array of bytes that came in. -/
theorem open_bytes {H : Type} {enc : TypeId × Value → H} {W : World} {base n : Nat} {t : TypeId} {v : Value} {d : DataW H} {p : List MemPlace} (hu : Try.prog.underlying t = some (.array n 5)) (hc : Try.prog.cellsOf t = n)
    (hval : Value.okWide Try.prog W .any base t v) (h : DataW.Trod enc Try.prog W 0 (fun _ => true) true t v d p) : ∃ l : List (BitVec 8), v = .agg (u8s l).toArray ∧ l.length = n := by
  obtain ⟨cs, rfl, _⟩ := okWide_array hu hval
  obtain ⟨fuel, hf⟩ := h
  have e1 : (Value.agg cs).cells.toList = cs.toList := rfl
  rw [e1] at hf
  obtain ⟨l, hl, ln⟩ := open_bytes_in hu hc hf
  exact ⟨l, by rw [← hl], ln⟩
/-- An array of integers of one kind that came in, cell by cell. -/
theorem open_ints_in {H : Type} {enc : TypeId × Value → H} {W : World} {m n : Nat} {t e : TypeId} {k : IntKind} {cs : List Value} {y : DataW H × List MemPlace} (hu : Try.prog.underlying t = some (.array n e)) (he : Try.prog.underlying e = some (.int k)) (hce : Try.prog.cellsOf e = 1) (hc : Try.prog.cellsOf t = n)
    (hf : DataW.trod enc Try.prog W 0 (fun _ => true) true m t cs = some y) : cs.length = n ∧ ∀ i, i < n → ∃ z : Int, cs[i]? = some (.int k z) ∧ (Lit.int k z).wf = true := by
  obtain ⟨xs, m', _, _, hl, hx, hh⟩ := DataW.trod_array hu hf
  rw [hc] at hl
  refine ⟨hl, fun i hi => ?_⟩
  have h := hh i hi
  rw [hce, Nat.mul_one, List.getElem?_eq_getElem (by omega)] at h
  obtain ⟨z, hk, _, hw⟩ := DataW.trod_int he h
  refine ⟨z, ?_, hw⟩
  have h0 : ((cs.drop i).take 1)[0]? = some (.int k z) := by rw [hk]; rfl
  simpa [List.getElem?_take, List.getElem?_drop] using h0
theorem open_ints_row {H : Type} {enc : TypeId × Value → H} {W : World} {base n : Nat} {t e : TypeId} {k : IntKind} {v : Value} {d : DataW H} {p : List MemPlace} (hu : Try.prog.underlying t = some (.array n e)) (he : Try.prog.underlying e = some (.int k)) (hce : Try.prog.cellsOf e = 1) (hc : Try.prog.cellsOf t = n)
    (hval : Value.okWide Try.prog W .any base t v) (h : DataW.Trod enc Try.prog W 0 (fun _ => true) true t v d p) : ∃ cs : Array Value, v = .agg cs ∧ cs.size = n ∧ ∀ i, i < n → ∃ z : Int, cs[i]? = some (.int k z) ∧ (Lit.int k z).wf = true := by
  obtain ⟨cs, rfl, _⟩ := okWide_array hu hval
  obtain ⟨fuel, hf⟩ := h
  have e1 : (Value.agg cs).cells.toList = cs.toList := rfl
  rw [e1] at hf
  obtain ⟨hl, hh⟩ := open_ints_in hu he hce hc hf
  exact ⟨cs, rfl, by simpa using hl, fun i hi => by
    obtain ⟨z, hz, hw⟩ := hh i hi
    exact ⟨z, by simpa using hz, hw⟩⟩
/-- What a laid variable holds. -/
theorem cells_of_rows {H : Type} {enc : TypeId × Value → H} {P : Program} {w : World} {base : Nat} {sp : Nat → Bool} {held : Bool} {fuel : Nat} {t e1 e : TypeId} {n m : Nat} {k : IntKind} {cs : List Value} {rows : List (List Int)} {p : List MemPlace}
    (ht : P.underlying t = some (.array n e1)) (h1 : P.underlying e1 = some (.array m e)) (he : P.underlying e = some (.int k)) (hce : P.cellsOf e = 1) (hc1 : P.cellsOf e1 = m) (hct : P.cellsOf t = n * m) (_hm : 0 < m)
    (h : DataW.trod enc P w base sp held fuel t cs = some (.agg (rows.map (Lib.tabData k)), p)) : cs.length = n * m ∧ ∀ i, i < n → (cs.drop (i * m)).take m = (rows.getD i []).map fun z => Value.int k z := by
  obtain ⟨xs, m', _, hx, hl, hxl, hh⟩ := DataW.trod_array ht h
  refine ⟨by rw [hl, hct], fun i hi => ?_⟩
  have hi2 := hh i hi
  rw [hc1, List.getElem?_eq_getElem (by omega)] at hi2
  have hr : rows.map (Lib.tabData k) = xs.map (·.1) := by
    have := congrArg Prod.fst hx
    simpa using this
  have hlen : rows.length = n := by have := congrArg List.length hr; simpa [hxl] using this
  have hrow : (xs[i]'(by omega)).1 = (Lib.tabData k (rows.getD i []) : DataW H) := by
    have e2 := congrArg (fun l => l[i]?) hr
    simp only [List.getElem?_map, List.getElem?_eq_getElem (show i < xs.length by omega), List.getElem?_eq_getElem (show i < rows.length by omega), Option.map_some, Option.some.injEq] at e2
    rw [← e2]
    simp [List.getD_eq_getElem?_getD, hlen, hi]
  obtain ⟨x1, x2⟩ : ∃ a b, xs[i]'(by omega) = (a, b) := ⟨_, _, rfl⟩
  rw [show xs[i]'(by omega) = ((xs[i]'(by omega)).1, (xs[i]'(by omega)).2) from rfl, hrow] at hi2
  exact Lib.cells_of_tab h1 he hce hc1 hi2
end Sha
end Go.Proofs.Yteiffdccfmfdbaa
