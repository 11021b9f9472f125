/- From the rows' condition (the two tables of package cipher read as listed) to the walks' facts; the start that meets it; an Ask, words and pairs that came in, opened. -/
import Derived.Test.YtikfhabcjjoloaaDoorLaw0
import Derived.Test.YtikfhabcjjoloaaDoorCipTurns
namespace Go.Proofs.YtikfhabcjjoloaaDoor
namespace Sha
open Go.ChangeShapes Go.WideShapes Go.ChangeAt Go.WideMaps Go.WideElems Go.RowKit Mem
def laidL : List (String × DataW Unit) := [("carling/cipher.firstWords", Rows.laid_carling_cipher_firstWords), ("carling/cipher.quarterPlaces", Rows.laid_carling_cipher_quarterPlaces)]
theorem gF : Tryd.prog.globalNamed "carling/cipher.firstWords" = some 0 := by kernel_rfl
theorem gP : Tryd.prog.globalNamed "carling/cipher.quarterPlaces" = some 1 := by kernel_rfl
theorem tF : (Tryd.prog.globals[0]?).map (·.type) = some 26 := by kernel_rfl
theorem tP : (Tryd.prog.globals[1]?).map (·.type) = some 59 := by kernel_rfl
theorem cW : Tryd.prog.cellsOf 24 = 1 := by kernel_rfl
theorem cI : Tryd.prog.cellsOf 3 = 1 := by kernel_rfl
theorem cW4 : Tryd.prog.cellsOf 26 = 4 := by kernel_rfl
theorem cI4 : Tryd.prog.cellsOf 57 = 4 := by kernel_rfl
theorem cI32 : Tryd.prog.cellsOf 59 = 8 * 4 := by kernel_rfl
def plcZ : List (List Int) := plc.map fun r => r.map fun (k : Nat) => (k : Int)
theorem laidF : (Rows.laid_carling_cipher_firstWords : DataW Unit) = Lib.tabData .u32 (fwl.map V) := by rfl
theorem laidP : (Rows.laid_carling_cipher_quarterPlaces : DataW Unit) = .agg (plcZ.map (Lib.tabData .i64)) := by rfl
theorem tabV_of {W : World} {name : String} {g : Nat} {cs : List Value} (hg : Tryd.prog.globalNamed name = some g) (hv : W.var? Tryd.prog name = some cs.toArray) (h0 : cs ≠ []) : TabV W g cs := by
  have key : ∀ j v, cs[j]? = some v → W.cell? ⟨g, 0 + j, none⟩ = some v := fun j v hj => by
    rw [Nat.zero_add, World.var?_cell hg hv j]
    simpa using hj
  obtain ⟨x, r, rfl⟩ := List.exists_cons_of_ne_nil h0
  exact ⟨block_lt_of_cell (key 0 x rfl), key⟩
theorem tabs_of {W : World} (h : laidMetH Tryd.prog laidL W) : CTabs W := by
  rw [MakeChecks.laidMetH_plain _ _ _ (by kernel_rfl)] at h
  obtain ⟨ps, ⟨g0, t0, cs0, f0, p0, q0, hg0, ht0, hv0, hd0, ⟨g1, t1, cs1, f1, p1, q1, hg1, ht1, hv1, hd1, _, _⟩, _⟩, _, _⟩ := h
  obtain rfl := Option.some.inj (gF.symm.trans hg0)
  obtain rfl := Option.some.inj (tF.symm.trans ht0)
  obtain rfl := Option.some.inj (gP.symm.trans hg1)
  obtain rfl := Option.some.inj (tP.symm.trans ht1)
  rw [laidF] at hd0
  rw [laidP] at hd1
  have e0 := Lib.cells_of_tab Tryd.underlying26 Tryd.underlying24 cW cW4 hd0
  obtain ⟨hl, hr⟩ := cells_of_rows Tryd.underlying59 Tryd.underlying57 Tryd.underlying3 cI cI4 cI32 (by decide) hd1
  have e1 : cs1.toList = ints plc.flatten := by
    apply List.ext_getElem?
    intro i
    by_cases hi : i < 32
    · have h8 := hr (i / 4) (by omega)
      have h9 := congrArg (fun l => l[i % 4]?) h8
      simp only [List.getElem?_take, List.getElem?_drop, if_pos (show i % 4 < 4 from Nat.mod_lt _ (by decide)), show i / 4 * 4 + i % 4 = i by omega] at h9
      rw [h9]
      have : i = 0 ∨ i = 1 ∨ i = 2 ∨ i = 3 ∨ i = 4 ∨ i = 5 ∨ i = 6 ∨ i = 7 ∨ i = 8 ∨ i = 9 ∨ i = 10 ∨ i = 11 ∨ i = 12 ∨ i = 13 ∨ i = 14 ∨ i = 15 ∨ i = 16 ∨ i = 17 ∨ i = 18 ∨ i = 19 ∨ i = 20 ∨ i = 21 ∨ i = 22 ∨ i = 23 ∨ i = 24 ∨ i = 25 ∨ i = 26 ∨ i = 27 ∨ i = 28 ∨ i = 29 ∨ i = 30 ∨ i = 31 := by omega
      rcases this with rfl | rfl | rfl | rfl | rfl | rfl | rfl | rfl | rfl | rfl | rfl | rfl | rfl | rfl | rfl | rfl | rfl | rfl | rfl | rfl | rfl | rfl | rfl | rfl | rfl | rfl | rfl | rfl | rfl | rfl | rfl | rfl <;> rfl
    · rw [List.getElem?_eq_none (by omega), List.getElem?_eq_none (by rw [ints_length]; show 32 ≤ i; omega)]
  refine ⟨tabV_of gF ?_ (by decide), tabV_of gP ?_ (by decide)⟩
  · rw [hv0, ← Array.toArray_toList (xs := cs0), e0]; rfl
  · rw [hv1, ← Array.toArray_toList (xs := cs1), e1]
theorem door_met (os : Os) (args : Array Value) : laidMetH Tryd.prog laidL ((World.doorLaid Tryd.prog 4000 os).forCall (fun _ _ => 0) ⟨#[], args, []⟩).memory :=
  laidMetH_of_parts3 (fuel := 200) (laidMet_of_run' 200 (by kernel_rfl) (by kernel_rfl)) (by kernel_rfl) (by kernel_rfl)
theorem law_lift {f : FuncId} {fn : Func} {s : ChangeSpec} (hvars : s.vars = []) (hres : fn.resultTypes = #[4]) (hread : fn.params.toList.all (fun t => Tryd.prog.readableRec t && decide (t < Tryd.prog.types.size)) = true)
    (hs : ∀ (H : Type) (ds : List (DataW H)), ds.length = fn.params.size → s.fn H ds = { results := [.lit (.bool true)], args := ds }) (noInit : Tryd.checked.prog.inits.idxOf? f = none) (hfn : Tryd.prog.funcs[f]? = some fn)
    (os : Os) (started : os.Started) (H : Type) (enc : TypeId × Value → H) (wargs : Array Value) (fuel : Nat)
    (hok : Input.okWideB Tryd.prog ((World.doorLaid Tryd.prog 4000 os).forCall (fun _ _ => 0) ⟨#[], wargs, []⟩) f ⟨#[], wargs, []⟩ = true)
    (hpre : s.preB enc Tryd.prog fn [] false ((World.doorLaid Tryd.prog 4000 os).forCall (fun _ _ => 0) ⟨#[], wargs, []⟩).memory wargs fuel = true)
    (hsz : s.sizedB enc Tryd.prog fn false ((World.doorLaid Tryd.prog 4000 os).forCall (fun _ _ => 0) ⟨#[], wargs, []⟩).memory wargs fuel = true)
    (hsh : ((World.doorLaid Tryd.prog 4000 os).forCall (fun _ _ => 0) ⟨#[], wargs, []⟩).Shaped Tryd.prog)
    (hdoor : laidMetH Tryd.prog laidL ((World.doorLaid Tryd.prog 4000 os).forCall (fun _ _ => 0) ⟨#[], wargs, []⟩).memory)
    (hos : (World.doorLaid Tryd.prog 4000 os).os = os)
    (contract : ∀ (W : World) (base : Nat) (args : Array Value) (ds : List (DataW H)) (p : List MemPlace), (∀ (j : Nat) t v, fn.params[j]? = some t → args[j]? = some v → Value.okWide Tryd.prog W .any base t v) →
      DataW.TrodAll enc Tryd.prog W 0 (fun _ => true) true fn.params.toList args.toList ds p → CTabs W → LawTrue f args W) :
    ReturnsInHanded {} Tryd.checked os f .any (fun w args => (s.pre enc Tryd.prog fn [] false w args ∧ laidMetH Tryd.prog laidL w) ∧ sizedMet enc Tryd.prog fn (OpenSpec.ofChange s) false w args) (s.post enc Tryd.prog fn false true false false) :=
  law_lift_of laidL CTabs (fun h => tabs_of h) hvars hres hread hs noInit hfn os started H enc wargs fuel hok hpre hsz hsh hdoor hos contract
theorem word_of {n : Int} (h : (Lit.int .u32 n).wf = true) : ∃ x : BitVec 32, n = V x := by
  simp [Lit.wf, IntKind.min, IntKind.max, IntKind.signed, IntKind.bits] at h
  refine ⟨BitVec.ofNat 32 n.toNat, ?_⟩
  unfold V
  rw [BitVec.toNat_ofNat]
  omega
theorem dword_of {n : Int} (h : (Lit.int .u64 n).wf = true) : ∃ x : BitVec 64, n = (x.toNat : Int) := by
  simp [Lit.wf, IntKind.min, IntKind.max, IntKind.signed, IntKind.bits] at h
  refine ⟨BitVec.ofNat 64 n.toNat, ?_⟩
  rw [BitVec.toNat_ofNat]
  omega
theorem open_2w {H : Type} {enc : TypeId × Value → H} {W : World} {base : Nat} {v : Value} {d : DataW H} {p : List MemPlace} (hval : Value.okWide Tryd.prog W .any base 41 v) (h : DataW.Trod enc Tryd.prog W 0 (fun _ => true) true 41 v d p) :
    ∃ a b : BitVec 32, v = .agg #[.int .u32 (V a), .int .u32 (V b)] := by
  obtain ⟨cs, rfl, hs, hh⟩ := open_ints_row Tryd.underlying41 Tryd.underlying24 cW (by kernel_rfl) hval h
  obtain ⟨z0, h0, w0⟩ := hh 0 (by decide)
  obtain ⟨z1, h1, w1⟩ := hh 1 (by decide)
  obtain ⟨a, rfl⟩ := word_of w0
  obtain ⟨b, rfl⟩ := word_of w1
  refine ⟨a, b, congrArg Value.agg ?_⟩
  apply Array.ext_getElem?
  intro i
  match i with
  | 0 => rw [h0]; rfl
  | 1 => rw [h1]; rfl
  | i + 2 => rw [Array.getElem?_eq_none (by omega), Array.getElem?_eq_none (by simp)]
theorem open_2d {H : Type} {enc : TypeId × Value → H} {W : World} {base : Nat} {v : Value} {d : DataW H} {p : List MemPlace} (hval : Value.okWide Tryd.prog W .any base 43 v) (h : DataW.Trod enc Tryd.prog W 0 (fun _ => true) true 43 v d p) :
    ∃ a b : BitVec 64, v = .agg #[.int .u64 (a.toNat : Int), .int .u64 (b.toNat : Int)] := by
  obtain ⟨cs, rfl, hs, hh⟩ := open_ints_row Tryd.underlying43 Tryd.underlying42 (by kernel_rfl) (by kernel_rfl) hval h
  obtain ⟨z0, h0, w0⟩ := hh 0 (by decide)
  obtain ⟨z1, h1, w1⟩ := hh 1 (by decide)
  obtain ⟨a, rfl⟩ := dword_of w0
  obtain ⟨b, rfl⟩ := dword_of w1
  refine ⟨a, b, congrArg Value.agg ?_⟩
  apply Array.ext_getElem?
  intro i
  match i with
  | 0 => rw [h0]; rfl
  | 1 => rw [h1]; rfl
  | i + 2 => rw [Array.getElem?_eq_none (by omega), Array.getElem?_eq_none (by simp)]
theorem open_q {H : Type} {enc : TypeId × Value → H} {W : World} {base : Nat} {v : Value} {d : DataW H} {p : List MemPlace} (hval : Value.okWide Tryd.prog W .any base 26 v) (h : DataW.Trod enc Tryd.prog W 0 (fun _ => true) true 26 v d p) :
    ∃ q : Q4, v = .agg (qOf q) := by
  obtain ⟨cs, rfl, hs, hh⟩ := open_ints_row Tryd.underlying26 Tryd.underlying24 cW cW4 hval h
  obtain ⟨z0, h0, w0⟩ := hh 0 (by decide)
  obtain ⟨z1, h1, w1⟩ := hh 1 (by decide)
  obtain ⟨z2, h2, w2⟩ := hh 2 (by decide)
  obtain ⟨z3, h3, w3⟩ := hh 3 (by decide)
  obtain ⟨a, rfl⟩ := word_of w0
  obtain ⟨b, rfl⟩ := word_of w1
  obtain ⟨c, rfl⟩ := word_of w2
  obtain ⟨d, rfl⟩ := word_of w3
  refine ⟨⟨a, b, c, d⟩, congrArg Value.agg ?_⟩
  apply Array.ext_getElem?
  intro i
  match i with
  | 0 => rw [h0]; rfl
  | 1 => rw [h1]; rfl
  | 2 => rw [h2]; rfl
  | 3 => rw [h3]; rfl
  | i + 4 => rw [Array.getElem?_eq_none (by omega), Array.getElem?_eq_none (by rw [qOf_size]; omega)]
theorem open_5w {H : Type} {enc : TypeId × Value → H} {W : World} {base : Nat} {v : Value} {d : DataW H} {p : List MemPlace} (hval : Value.okWide Tryd.prog W .any base 25 v) (h : DataW.Trod enc Tryd.prog W 0 (fun _ => true) true 25 v d p) :
    ∃ (q : Q4) (n : BitVec 32), v = .agg #[.int .u32 (V q.a), .int .u32 (V q.b), .int .u32 (V q.c), .int .u32 (V q.d), .int .u32 (V n)] := by
  obtain ⟨cs, rfl, hs, hh⟩ := open_ints_row Tryd.underlying25 Tryd.underlying24 cW (by kernel_rfl) hval h
  obtain ⟨z0, h0, w0⟩ := hh 0 (by decide)
  obtain ⟨z1, h1, w1⟩ := hh 1 (by decide)
  obtain ⟨z2, h2, w2⟩ := hh 2 (by decide)
  obtain ⟨z3, h3, w3⟩ := hh 3 (by decide)
  obtain ⟨z4, h4, w4⟩ := hh 4 (by decide)
  obtain ⟨a, rfl⟩ := word_of w0
  obtain ⟨b, rfl⟩ := word_of w1
  obtain ⟨c, rfl⟩ := word_of w2
  obtain ⟨d, rfl⟩ := word_of w3
  obtain ⟨n, rfl⟩ := word_of w4
  refine ⟨⟨a, b, c, d⟩, n, congrArg Value.agg ?_⟩
  apply Array.ext_getElem?
  intro i
  match i with
  | 0 => rw [h0]; rfl
  | 1 => rw [h1]; rfl
  | 2 => rw [h2]; rfl
  | 3 => rw [h3]; rfl
  | 4 => rw [h4]; rfl
  | i + 5 => rw [Array.getElem?_eq_none (by omega), Array.getElem?_eq_none (by simp)]
/-- An Ask: a key, a nonce, a counter. -/
theorem open_ask4 {H : Type} {enc : TypeId × Value → H} {W : World} {base : Nat} {v : Value} {d : DataW H} {p : List MemPlace} (hval : Value.okWide Tryd.prog W .any base 33 v) (h : DataW.Trod enc Tryd.prog W 0 (fun _ => true) true 33 v d p) :
    ∃ (key nonce : List (BitVec 8)) (n : BitVec 32), v = .agg (ask4 key nonce n) ∧ key.length = 32 ∧ nonce.length = 12 := by
  obtain ⟨cs, rfl, hsz⟩ := okWide_struct Tryd.underlying33 hval
  obtain ⟨fuel, hf⟩ := h
  have e1 : (Value.agg cs).cells.toList = cs.toList := rfl
  rw [e1] at hf
  rw [show Tryd.prog.cellsOf 33 = 45 by kernel_rfl] at hsz
  obtain ⟨y0, y1, y2, m, _, _, h0, h1, h2⟩ := Deep.trod_struct3 Tryd.underlying33 hf
  have c32 : Tryd.prog.cellsOf 22 = 32 := by kernel_rfl
  have c12 : Tryd.prog.cellsOf 23 = 12 := by kernel_rfl
  simp only at h0 h1 h2
  rw [c32] at h0; rw [c12] at h1; rw [cW] at h2
  obtain ⟨key, ek, lk⟩ := open_bytes_in Tryd.underlying22 c32 h0
  obtain ⟨nonce, en, ln⟩ := open_bytes_in Tryd.underlying23 c12 h1
  obtain ⟨z, ez, _, wz⟩ := DataW.trod_int Tryd.underlying24 h2
  obtain ⟨n, rfl⟩ := word_of wz
  refine ⟨key, nonce, n, congrArg Value.agg ?_, lk, ln⟩
  have hl : cs.toList.length = 45 := by simpa using hsz
  have e2 : cs.toList = u8s key ++ u8s nonce ++ [Value.int .u32 (V n)] := by
    rw [← ek, ← en, ← ez]
    have d1 : cs.toList = cs.toList.take 32 ++ cs.toList.drop 32 := (List.take_append_drop 32 _).symm
    have d2 : cs.toList.drop 32 = (cs.toList.drop 32).take 12 ++ (cs.toList.drop 32).drop 12 := (List.take_append_drop 12 _).symm
    have d3 : (cs.toList.drop 44).take 1 = cs.toList.drop 44 := List.take_of_length_le (by rw [List.length_drop]; omega)
    rw [List.drop_drop] at d2
    rw [List.drop_zero, d3, List.append_assoc, ← d2, ← d1]
  unfold ask4
  rw [← e2]
end Sha
end Go.Proofs.YtikfhabcjjoloaaDoor
