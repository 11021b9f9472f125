/- What is the same in every law: a contract that says 'it returns true, and all that was there is as it was' gives the row's statement. Slices of bytes, arrays and words that came in are opened. The lift of a law whose row lists no laid variable. A list whose members are had one by one. Over any program. What layer 13's laws ask of arguments that came in: references, bytes, an int. -/
import Derived.Test.YtfbhbdllbapnpaaRows
import Derived.Test.YtfbhbdllbapnpaaBA
import Derived.ProofKit
import Derived.LaidMore
import Derived.LaidHandle
import Derived.OpenShut
import Derived.Stop.Joined
import Derived.Lib.LaidTab
import Derived.MakeChecks
import Derived.SevenTiedAt
import Derived.Carry
import Derived.ChangeOld
import Derived.Deep.Matrix
import Derived.Deep.Strs
import Derived.Lib.SmallJoins
import Derived.WalkKit
import Derived.Test.YtfbhbdllbapnpaaBC
namespace Go.Proofs.Ytfbhbdllbapnpaa
namespace Sha
open Go.ChangeShapes Go.WideShapes Go.ChangeAt Go.WideMaps Go.WideElems Go.RowKit Mem
theorem own : ownKnob Try.prog.godebug = none := by kernel_rfl
theorem laidOut : laidOutB Try.prog = true := by kernel_rfl
/-- The arguments read behind the call as they did before. -/
theorem trodAll_below {H : Type} {enc : TypeId × Value → H} {P : Program} (hl : laidOutB P = true) {W W' : World} (hb : Below W.heap.size W W') :
    ∀ {ts : List TypeId} {vs : List Value} {ds : List (DataW H)} {ps : List MemPlace}, ts.all (fun t => P.readableRec t && decide (t < P.types.size)) = true → DataW.TrodAll enc P W 0 (fun _ => true) true ts vs ds ps →
      DataW.TrodAll enc P W' 0 (fun b => decide (b < W.heap.size)) true ts vs ds ps
  | [], [], [], _, _, h => h
  | t :: ts, v :: vs, d :: ds, ps, hr, h => by
    have hlt := DataW.TrodAll.lt h
    obtain ⟨p, q, h1, h2, e⟩ := h
    simp only [List.all_cons, Bool.and_eq_true, decide_eq_true_eq] at hr
    exact ⟨p, q, Below.trod hl hr.1.1 hr.1.2 h1 hb (fun x hx => hlt x (by rw [e]; simp [hx])), trodAll_below hl hb hr.2 h2, e⟩
  | [], [], _ :: _, _, _, h => h.elim
  | [], _ :: _, _, _, _, h => by cases ‹List (DataW H)› <;> exact h.elim
  | _ :: _, [], _, _, _, h => by cases ‹List (DataW H)› <;> exact h.elim
  | _ :: _, _ :: _, [], _, _, h => h.elim
theorem trodAll_len {H : Type} {enc : TypeId × Value → H} {P : Program} {w : World} {base : Nat} {sp : Nat → Bool} {held : Bool} : ∀ {ts : List TypeId} {vs : List Value} {ds : List (DataW H)} {ps : List MemPlace}, DataW.TrodAll enc P w base sp held ts vs ds ps → ds.length = ts.length
  | [], [], [], _, _ => rfl
  | _ :: _, _ :: _, _ :: _, _, h => by
    obtain ⟨_, _, _, h2, _⟩ := h
    simp [trodAll_len h2]
  | [], [], _ :: _, _, h => h.elim
  | [], _ :: _, ds, _, h => by cases ds <;> exact h.elim
  | _ :: _, [], ds, _, h => by cases ds <;> exact h.elim
  | _ :: _, _ :: _, [], _, h => h.elim
/-- What a law's contract says of the call with these arguments. -/
def LawTrue (f : FuncId) (args : Array Value) (W : World) : Prop := Calls Try.prog f args W fun e w' => e = .returned (.bool true) ∧ Below W.heap.size W w'
set_option maxRecDepth 100000 in
theorem law_lift_of (laidL : List (String × DataW Unit)) (T : World → Prop) (tabsT : ∀ {W : World}, laidMetH Try.prog laidL W → T W) {f : FuncId} {fn : Func} {s : ChangeSpec} (hvars : s.vars = []) (hres : fn.resultTypes = #[4]) (hread : fn.params.toList.all (fun t => Try.prog.readableRec t && decide (t < Try.prog.types.size)) = true)
    (hs : ∀ (H : Type) (ds : List (DataW H)), ds.length = fn.params.size → s.fn H ds = { results := [.lit (.bool true)], args := ds }) (noInit : Try.checked.prog.inits.idxOf? f = none) (hfn : Try.prog.funcs[f]? = some fn)
    (os : Os) (started : os.Started) (H : Type) (enc : TypeId × Value → H) (wargs : Array Value) (fuel : Nat)
    (hok : Input.okWideB Try.prog ((World.doorLaid Try.prog 4000 os).forCall (fun _ _ => 0) ⟨#[], wargs, []⟩) f ⟨#[], wargs, []⟩ = true)
    (hpre : s.preB enc Try.prog fn [] false ((World.doorLaid Try.prog 4000 os).forCall (fun _ _ => 0) ⟨#[], wargs, []⟩).memory wargs fuel = true)
    (hsz : s.sizedB enc Try.prog fn false ((World.doorLaid Try.prog 4000 os).forCall (fun _ _ => 0) ⟨#[], wargs, []⟩).memory wargs fuel = true)
    (hsh : ((World.doorLaid Try.prog 4000 os).forCall (fun _ _ => 0) ⟨#[], wargs, []⟩).Shaped Try.prog)
    (hdoor : laidMetH Try.prog laidL ((World.doorLaid Try.prog 4000 os).forCall (fun _ _ => 0) ⟨#[], wargs, []⟩).memory)
    (hos : (World.doorLaid Try.prog 4000 os).os = os)
    (contract : ∀ (W : World) (base : Nat) (args : Array Value) (ds : List (DataW H)) (p : List MemPlace), (∀ (j : Nat) t v, fn.params[j]? = some t → args[j]? = some v → Value.okWide Try.prog W .any base t v) →
      DataW.TrodAll enc Try.prog W 0 (fun _ => true) true fn.params.toList args.toList ds p → T W → LawTrue f args W) :
    ReturnsInHanded {} Try.checked os f .any (fun w args => (s.pre enc Try.prog fn [] false w args ∧ laidMetH Try.prog laidL w) ∧ sizedMet enc Try.prog fn (OpenSpec.ofChange s) false w args) (s.post enc Try.prog fn false true false false) := by
  refine returnsInHanded_of_change_and (C := Try.checked) (X := fun w _ => laidMetH Try.prog laidL w) (fun _ _ _ hh h => h.of_heap hh) own started noInit hfn
    (ChangeSpec.witness_shaped (enc := enc) (C := Try.checked) (os := os) (X := fun w _ => laidMetH Try.prog laidL w) false (World.doorLaid Try.prog 4000 os) wargs fuel hos hsh hok hpre hsz hdoor) ?_
  intro W base args ds gs before hval hW _ _ hL _
  have hW' := hW
  obtain ⟨p, q, hA, hV, rfl, _, _⟩ := hW
  rw [hvars] at hV
  obtain ⟨rfl, rfl⟩ := trodVars_none hV
  refine (contract W base args ds p hval hA (tabsT hL)).mono fun e W' ⟨he, hb⟩ => ?_
  subst he
  have hsd := hs H ds (by rw [trodAll_len hA]; simp)
  refine ⟨_, rfl, ds, [], p ++ [], [], p, [], hW', ?_, ?_, ?_, hb.frame _, fun h => by cases h⟩
  · rw [List.append_nil, hsd, hres]; exact trodAll_cons_mk (shut_bool Try.underlying4 _) trodAll_mk0
  · rw [List.append_nil, hsd]; exact trodAll_below laidOut hb hread hA
  · rw [List.append_nil, hsd, hvars]; rfl
end Sha
end Go.Proofs.Ytfbhbdllbapnpaa
namespace Go.Proofs.Ytfbhbdllbapnpaa
namespace Sha
open Go.ChangeShapes Go.WideShapes Go.ChangeAt Go.WideMaps Go.WideElems Go.RowKit Mem
set_option maxRecDepth 100000
theorem byte_of {n : Int} (h : (Lit.int .u8 n).wf = true) : ∃ x : BitVec 8, n = (x.toNat : Int) := by
  have h2 := h
  simp [Lit.wf, IntKind.min, IntKind.max, IntKind.signed, IntKind.bits] at h2
  refine ⟨BitVec.ofNat 8 n.toNat, ?_⟩
  rw [BitVec.toNat_ofNat]
  omega
theorem bytes_of : ∀ (zs : List Int), (∀ n ∈ zs, (Lit.int .u8 n).wf = true) → ∃ l : List (BitVec 8), zs = l.map fun x => (x.toNat : Int)
  | [], _ => ⟨[], rfl⟩
  | z :: zs, h => by
    obtain ⟨x, hx⟩ := byte_of (h z (by simp))
    obtain ⟨l, hl⟩ := bytes_of zs (fun n hn => h n (by simp [hn]))
    exact ⟨x :: l, by simp [hx, hl]⟩
theorem cB : Try.prog.cellsOf 5 = 1 := by kernel_rfl
theorem cS : Try.prog.cellsOf 24 = 1 := by kernel_rfl
/-- A slice that came in is a slice of bytes. -/
theorem sl_of {w : World} {a : Addr} {len : Nat} (cap : Nat) {zs : List Int} (hl : len ≤ cap) (hz : len ≤ zs.length) (hcell : ∀ i, i < zs.length → w.cell? (a.add i) = some (.int .u8 (zs.getD i 0))) (hwz : ∀ n ∈ zs, (Lit.int .u8 n).wf = true) :
    ∃ l, Sl w (.slice (some a) len cap) l ∧ l.length = len := by
  obtain ⟨l, rfl⟩ := bytes_of zs hwz
  have hz' : len ≤ l.length := by simpa using hz
  have hlen : (l.take len).length = len := by simp; omega
  refine ⟨l.take len, ⟨some a, cap, by rw [hlen], by rw [hlen]; exact hl, fun hne => ?_⟩, hlen⟩
  have hp : 0 < len := by
    rcases Nat.eq_zero_or_pos len with h | h
    · subst h; simp at hne
    · exact h
  have h0 := hcell 0 (by simp; omega)
  obtain ⟨b, o, ln⟩ := a
  have hsp : ln = none := by simpa [Addr.add] using World.cell?_spot h0
  subst hsp
  refine ⟨b, o, rfl, ?_, fun i hi => ?_⟩
  · rw [Addr.add_mid] at h0
    exact block_lt_of_cell h0
  · rw [hlen] at hi
    have h1 := hcell i (by simp; omega)
    rw [Addr.add_mid] at h1
    rw [h1]
    simp [List.getD_eq_getElem?_getD, hi, show i < l.length by omega]
theorem sl_nil (w : World) (cap : Nat) : Sl w (.slice none 0 cap) [] := ⟨none, cap, rfl, by simp, fun h => absurd rfl h⟩
theorem open_sl {H : Type} {enc : TypeId × Value → H} {W : World} {base : Nat} {v : Value} {d : DataW H} {p : List MemPlace} (hval : Value.okWide Try.prog W .any base 24 v) (h : DataW.Trod enc Try.prog W 0 (fun _ => true) true 24 v d p) :
    ∃ l, Sl W v l ∧ l.length ≤ 9223372036854775807 := by
  obtain ⟨a0, len, cap, rfl⟩ := okWide_slice Try.underlying24 hval
  obtain ⟨fuel, hf⟩ := h
  rcases open_ints Try.underlying24 Try.underlying5 cB hf with ⟨hcs, _⟩ | ⟨a, len', cap', zs, hcs, _, hl, hm, hz, _, hcell, hwz⟩
  · simp [Value.cells] at hcs
    obtain ⟨rfl, rfl, rfl⟩ := hcs
    exact ⟨[], sl_nil _ _, by simp⟩
  · simp [Value.cells] at hcs
    obtain ⟨rfl, rfl, rfl⟩ := hcs
    simp only [if_true] at hz
    obtain ⟨l, h1, h2⟩ := sl_of cap hl (by rw [hz]; exact hl) hcell hwz
    refine ⟨l, h1, ?_⟩
    unfold maxLen at hm
    omega
theorem open_sl_in {H : Type} {enc : TypeId × Value → H} {W : World} {n : Nat} {v : Value} {y : DataW H × List MemPlace} (hf : DataW.trod enc Try.prog W 0 (fun _ => true) true n 24 [v] = some y) :
    ∃ l, Sl W v l ∧ l.length ≤ 9223372036854775807 := by
  rcases open_ints Try.underlying24 Try.underlying5 cB hf with ⟨hcs, _⟩ | ⟨a, len', cap', zs, hcs, _, hl, hm, hz, _, hcell, hwz⟩
  · simp at hcs
    subst hcs
    exact ⟨[], sl_nil _ _, by simp⟩
  · simp at hcs
    subst hcs
    simp only [if_true] at hz
    obtain ⟨l, h1, h2⟩ := sl_of cap' hl (by rw [hz]; exact hl) hcell hwz
    refine ⟨l, h1, ?_⟩
    unfold maxLen at hm
    omega
theorem open_int_in {H : Type} {enc : TypeId × Value → H} {W : World} {n : Nat} {v : Value} {y : DataW H × List MemPlace} (hf : DataW.trod enc Try.prog W 0 (fun _ => true) true n 3 [v] = some y) :
    ∃ z : Int, v = .int .i64 z ∧ -9223372036854775808 ≤ z ∧ z ≤ 9223372036854775807 := by
  obtain ⟨n', h, _, hw⟩ := DataW.trod_int Try.underlying3 hf
  simp at h
  subst h
  simp [Lit.wf, IntKind.min, IntKind.max, IntKind.signed, IntKind.bits] at hw
  exact ⟨n', rfl, by omega, by omega⟩
theorem okWide_array {P : Program} {w : World} {r : Reach} {base : Nat} {t e : TypeId} {v : Value} {n : Nat} (ht : P.underlying t = some (.array n e)) (h : Value.okWide P w r base t v) : ∃ cs, v = .agg cs ∧ cs.size = P.cellsOf t := by
  simp only [Value.okWide, ht] at h
  obtain ⟨cs, h1, h2, _⟩ := h
  exact ⟨cs, h1, h2⟩
theorem open_bytes_in {H : Type} {enc : TypeId × Value → H} {W : World} {m n : Nat} {t : TypeId} {cs : List Value} {y : DataW H × List MemPlace} (hu : Try.prog.underlying t = some (.array n 5)) (hc : Try.prog.cellsOf t = n)
    (hf : DataW.trod enc Try.prog W 0 (fun _ => true) true m t cs = some y) : ∃ l : List (BitVec 8), cs = u8s l ∧ l.length = n := by
  obtain ⟨xs, m', _, _, hl, hx, he⟩ := DataW.trod_array hu hf
  rw [hc] at hl
  have each : ∀ i, i < n → ∃ b : BitVec 8, cs[i]? = some (.int .u8 (b.toNat : Int)) := fun i hi => by
    have h := he i hi
    rw [cB, Nat.mul_one, List.getElem?_eq_getElem (by omega)] at h
    obtain ⟨k, hk, _, hw⟩ := DataW.trod_int Try.underlying5 h
    obtain ⟨b, rfl⟩ := byte_of hw
    refine ⟨b, ?_⟩
    have h0 : ((cs.drop i).take 1)[0]? = some (.int .u8 (b.toNat : Int)) := by rw [hk]; rfl
    simpa [List.getElem?_take, List.getElem?_drop] using h0
  obtain ⟨f, hff⟩ := Deep.choose_lt each
  refine ⟨(List.range n).map f, ?_, by simp⟩
  apply List.ext_getElem?
  intro i
  by_cases hi : i < n
  · rw [hff i hi]; simp [u8s, hi]
  · rw [List.getElem?_eq_none (by omega), List.getElem?_eq_none (by simp [u8s]; omega)]
/-- An array of bytes that came in. -/
theorem open_bytes {H : Type} {enc : TypeId × Value → H} {W : World} {base n : Nat} {t : TypeId} {v : Value} {d : DataW H} {p : List MemPlace} (hu : Try.prog.underlying t = some (.array n 5)) (hc : Try.prog.cellsOf t = n)
    (hval : Value.okWide Try.prog W .any base t v) (h : DataW.Trod enc Try.prog W 0 (fun _ => true) true t v d p) : ∃ l : List (BitVec 8), v = .agg (u8s l).toArray ∧ l.length = n := by
  obtain ⟨cs, rfl, _⟩ := okWide_array hu hval
  obtain ⟨fuel, hf⟩ := h
  have e1 : (Value.agg cs).cells.toList = cs.toList := rfl
  rw [e1] at hf
  obtain ⟨l, hl, ln⟩ := open_bytes_in hu hc hf
  exact ⟨l, by rw [← hl], ln⟩
/-- An array of integers of one kind that came in, cell by cell. -/
theorem open_ints_in {H : Type} {enc : TypeId × Value → H} {W : World} {m n : Nat} {t e : TypeId} {k : IntKind} {cs : List Value} {y : DataW H × List MemPlace} (hu : Try.prog.underlying t = some (.array n e)) (he : Try.prog.underlying e = some (.int k)) (hce : Try.prog.cellsOf e = 1) (hc : Try.prog.cellsOf t = n)
    (hf : DataW.trod enc Try.prog W 0 (fun _ => true) true m t cs = some y) : cs.length = n ∧ ∀ i, i < n → ∃ z : Int, cs[i]? = some (.int k z) ∧ (Lit.int k z).wf = true := by
  obtain ⟨xs, m', _, _, hl, hx, hh⟩ := DataW.trod_array hu hf
  rw [hc] at hl
  refine ⟨hl, fun i hi => ?_⟩
  have h := hh i hi
  rw [hce, Nat.mul_one, List.getElem?_eq_getElem (by omega)] at h
  obtain ⟨z, hk, _, hw⟩ := DataW.trod_int he h
  refine ⟨z, ?_, hw⟩
  have h0 : ((cs.drop i).take 1)[0]? = some (.int k z) := by rw [hk]; rfl
  simpa [List.getElem?_take, List.getElem?_drop] using h0
theorem open_ints_row {H : Type} {enc : TypeId × Value → H} {W : World} {base n : Nat} {t e : TypeId} {k : IntKind} {v : Value} {d : DataW H} {p : List MemPlace} (hu : Try.prog.underlying t = some (.array n e)) (he : Try.prog.underlying e = some (.int k)) (hce : Try.prog.cellsOf e = 1) (hc : Try.prog.cellsOf t = n)
    (hval : Value.okWide Try.prog W .any base t v) (h : DataW.Trod enc Try.prog W 0 (fun _ => true) true t v d p) : ∃ cs : Array Value, v = .agg cs ∧ cs.size = n ∧ ∀ i, i < n → ∃ z : Int, cs[i]? = some (.int k z) ∧ (Lit.int k z).wf = true := by
  obtain ⟨cs, rfl, _⟩ := okWide_array hu hval
  obtain ⟨fuel, hf⟩ := h
  have e1 : (Value.agg cs).cells.toList = cs.toList := rfl
  rw [e1] at hf
  obtain ⟨hl, hh⟩ := open_ints_in hu he hce hc hf
  exact ⟨cs, rfl, by simpa using hl, fun i hi => by
    obtain ⟨z, hz, hw⟩ := hh i hi
    exact ⟨z, by simpa using hz, hw⟩⟩
/-- What a laid variable holds. -/
theorem cells_of_rows {H : Type} {enc : TypeId × Value → H} {P : Program} {w : World} {base : Nat} {sp : Nat → Bool} {held : Bool} {fuel : Nat} {t e1 e : TypeId} {n m : Nat} {k : IntKind} {cs : List Value} {rows : List (List Int)} {p : List MemPlace}
    (ht : P.underlying t = some (.array n e1)) (h1 : P.underlying e1 = some (.array m e)) (he : P.underlying e = some (.int k)) (hce : P.cellsOf e = 1) (hc1 : P.cellsOf e1 = m) (hct : P.cellsOf t = n * m) (_hm : 0 < m)
    (h : DataW.trod enc P w base sp held fuel t cs = some (.agg (rows.map (Lib.tabData k)), p)) : cs.length = n * m ∧ ∀ i, i < n → (cs.drop (i * m)).take m = (rows.getD i []).map fun z => Value.int k z := by
  obtain ⟨xs, m', _, hx, hl, hxl, hh⟩ := DataW.trod_array ht h
  refine ⟨by rw [hl, hct], fun i hi => ?_⟩
  have hi2 := hh i hi
  rw [hc1, List.getElem?_eq_getElem (by omega)] at hi2
  have hr : rows.map (Lib.tabData k) = xs.map (·.1) := by
    have := congrArg Prod.fst hx
    simpa using this
  have hlen : rows.length = n := by have := congrArg List.length hr; simpa [hxl] using this
  have hrow : (xs[i]'(by omega)).1 = (Lib.tabData k (rows.getD i []) : DataW H) := by
    have e2 := congrArg (fun l => l[i]?) hr
    simp only [List.getElem?_map, List.getElem?_eq_getElem (show i < xs.length by omega), List.getElem?_eq_getElem (show i < rows.length by omega), Option.map_some, Option.some.injEq] at e2
    rw [← e2]
    simp [List.getD_eq_getElem?_getD, hlen, hi]
  obtain ⟨x1, x2⟩ : ∃ a b, xs[i]'(by omega) = (a, b) := ⟨_, _, rfl⟩
  rw [show xs[i]'(by omega) = ((xs[i]'(by omega)).1, (xs[i]'(by omega)).2) from rfl, hrow] at hi2
  exact Lib.cells_of_tab h1 he hce hc1 hi2
end Sha
end Go.Proofs.Ytfbhbdllbapnpaa
namespace Go.Proofs.Ytfbhbdllbapnpaa
namespace Sha
open Go.ChangeShapes Go.WideShapes Go.ChangeAt Go.WideMaps Go.WideElems Go.RowKit Mem
theorem law_lift0 {f : FuncId} {fn : Func} {s : ChangeSpec} (hvars : s.vars = []) (hres : fn.resultTypes = #[4]) (hread : fn.params.toList.all (fun t => Try.prog.readableRec t && decide (t < Try.prog.types.size)) = true)
    (hs : ∀ (H : Type) (ds : List (DataW H)), ds.length = fn.params.size → s.fn H ds = { results := [.lit (.bool true)], args := ds }) (noInit : Try.checked.prog.inits.idxOf? f = none) (hfn : Try.prog.funcs[f]? = some fn)
    (os : Os) (started : os.Started) (H : Type) (enc : TypeId × Value → H) (wargs : Array Value) (fuel : Nat)
    (hok : Input.okWideB Try.prog ((World.doorLaid Try.prog 4000 os).forCall (fun _ _ => 0) ⟨#[], wargs, []⟩) f ⟨#[], wargs, []⟩ = true)
    (hpre : s.preB enc Try.prog fn [] false ((World.doorLaid Try.prog 4000 os).forCall (fun _ _ => 0) ⟨#[], wargs, []⟩).memory wargs fuel = true)
    (hsz : s.sizedB enc Try.prog fn false ((World.doorLaid Try.prog 4000 os).forCall (fun _ _ => 0) ⟨#[], wargs, []⟩).memory wargs fuel = true)
    (hsh : ((World.doorLaid Try.prog 4000 os).forCall (fun _ _ => 0) ⟨#[], wargs, []⟩).Shaped Try.prog)
    (hos : (World.doorLaid Try.prog 4000 os).os = os)
    (contract : ∀ (W : World) (base : Nat) (args : Array Value) (ds : List (DataW H)) (p : List MemPlace), (∀ (j : Nat) t v, fn.params[j]? = some t → args[j]? = some v → Value.okWide Try.prog W .any base t v) →
      DataW.TrodAll enc Try.prog W 0 (fun _ => true) true fn.params.toList args.toList ds p → LawTrue f args W) :
    ReturnsInHanded {} Try.checked os f .any (s.pre6 enc Try.prog fn [] false) (s.post enc Try.prog fn false true false false) := by
  refine returnsInHanded_of_change (C := Try.checked) own started noInit hfn ?_ ?_
  · obtain ⟨w, tape, i, h1, h2, h3, h4, ⟨⟨h5, _⟩, h6⟩, h7⟩ := ChangeSpec.witness_shaped (enc := enc) (C := Try.checked) (os := os) (X := fun _ _ => True) false (World.doorLaid Try.prog 4000 os) wargs fuel hos hsh hok hpre hsz trivial
    exact ⟨w, tape, i, h1, h2, h3, h4, ⟨h5, h6⟩, h7⟩
  intro W base args ds gs before hval hW _ _
  have hW' := hW
  obtain ⟨p, q, hA, hV, rfl, _, _⟩ := hW
  rw [hvars] at hV
  obtain ⟨rfl, rfl⟩ := trodVars_none hV
  refine (contract W base args ds p hval hA).mono fun e W' ⟨he, hb⟩ => ?_
  subst he
  have hsd := hs H ds (by rw [trodAll_len hA]; simp)
  refine ⟨_, rfl, ds, [], p ++ [], [], p, [], hW', ?_, ?_, ?_, hb.frame _, fun h => by cases h⟩
  · rw [List.append_nil, hsd, hres]; exact trodAll_cons_mk (shut_bool Try.underlying4 _) trodAll_mk0
  · rw [List.append_nil, hsd]; exact trodAll_below laidOut hb hread hA
  · rw [List.append_nil, hsd, hvars]; rfl

end Sha
end Go.Proofs.Ytfbhbdllbapnpaa
namespace Go.Proofs.Ytfbhbdllbapnpaa
namespace Sha
theorem list_of {α : Type} [Inhabited α] {P : Nat → α → Prop} : ∀ n : Nat, (∀ i, i < n → ∃ x, P i x) → ∃ l : List α, l.length = n ∧ ∀ i, i < n → P i (l.getD i default)
  | 0, _ => ⟨[], rfl, fun i hi => absurd hi (by omega)⟩
  | n + 1, h => by
    obtain ⟨l, hl, hp⟩ := list_of n (fun i hi => h i (by omega))
    obtain ⟨x, hx⟩ := h n (by omega)
    refine ⟨l ++ [x], by simp [hl], fun i hi => ?_⟩
    by_cases hin : i < n
    · have : (l ++ [x]).getD i default = l.getD i default := by
        rw [List.getD_eq_getElem?_getD, List.getD_eq_getElem?_getD, List.getElem?_append_left (by omega)]
      rw [this]; exact hp i hin
    · have hi2 : i = n := by omega
      subst hi2
      have : (l ++ [x]).getD i default = x := by
        rw [List.getD_eq_getElem?_getD, List.getElem?_append_right (by omega), hl]; simp
      rw [this]; exact hx
end Sha
end Go.Proofs.Ytfbhbdllbapnpaa
namespace Go.Proofs.Ytfbhbdllbapnpaa
namespace Sha
open Go.ChangeShapes Go.WideShapes Go.ChangeAt Go.WideMaps Go.WideElems Go.RowKit Mem
theorem cW : Try.prog.cellsOf 34 = 1 := by kernel_rfl
theorem cI : Try.prog.cellsOf 3 = 1 := by kernel_rfl
theorem word_of {n : Int} (h : (Lit.int .u32 n).wf = true) : ∃ x : BitVec 32, n = V x := by
  simp [Lit.wf, IntKind.min, IntKind.max, IntKind.signed, IntKind.bits] at h
  exact ⟨BitVec.ofNat 32 n.toNat, by show n = ((BitVec.ofNat 32 n.toNat).toNat : Int); rw [BitVec.toNat_ofNat]; omega⟩
theorem ref_of {H : Type} {enc : TypeId × Value → H} {W : World} {n : Nat} {cs : List Value} {y : DataW H × List MemPlace} (hf : DataW.trod enc Try.prog W 0 (fun _ => true) true n 37 cs = some y) : ∃ r : RefV, r.Wf ∧ cs = refL r := by
  obtain ⟨_, _, _, _, hl, _, _⟩ := DataW.trod_struct Try.underlying37 hf
  rw [show Try.prog.cellsOf 37 = 34 by kernel_rfl] at hl
  obtain ⟨y0, y1, y2, m, _, _, h0, h1, h2⟩ := Deep.trod_struct3 Try.underlying37 hf
  have c32 : Try.prog.cellsOf 35 = 32 := by kernel_rfl
  simp only at h0 h1 h2
  rw [cI] at h0; rw [cW] at h1; rw [c32] at h2
  obtain ⟨z0, ez0, _, wz0⟩ := DataW.trod_int Try.underlying3 h0
  obtain ⟨z1, ez1, _, wz1⟩ := DataW.trod_int Try.underlying34 h1
  obtain ⟨ep, rfl⟩ := word_of wz1
  obtain ⟨dg, ek, lk⟩ := open_bytes_in Try.underlying35 c32 h2
  simp [Lit.wf, IntKind.min, IntKind.max, IntKind.signed, IntKind.bits] at wz0
  refine ⟨⟨z0, ep, dg⟩, ⟨by show _ ≤ z0; omega, by show z0 ≤ _; omega, lk⟩, ?_⟩
  have d1 : cs = cs.take 1 ++ cs.drop 1 := (List.take_append_drop 1 _).symm
  have d2 : cs.drop 1 = (cs.drop 1).take 1 ++ (cs.drop 1).drop 1 := (List.take_append_drop 1 _).symm
  have d4 : (cs.drop 2).take 32 = cs.drop 2 := List.take_of_length_le (by rw [List.length_drop]; omega)
  rw [List.drop_drop] at d2
  rw [List.drop_zero] at ez0
  rw [d1, d2, ← d4, ez0, ez1, ek]; rfl
theorem open_ref13 {H : Type} {enc : TypeId × Value → H} {W : World} {base : Nat} {v : Value} {d : DataW H} {p : List MemPlace} (hval : Value.okWide Try.prog W .any base 37 v) (h : DataW.Trod enc Try.prog W 0 (fun _ => true) true 37 v d p) :
    ∃ r : RefV, v = .agg (refC r) ∧ r.Wf := by
  obtain ⟨cs, rfl, _⟩ := okWide_struct Try.underlying37 hval
  obtain ⟨fuel, hf⟩ := h
  have e1 : (Value.agg cs).cells.toList = cs.toList := rfl
  rw [e1] at hf
  obtain ⟨r, hr, hc⟩ := ref_of hf
  refine ⟨r, congrArg Value.agg ?_, hr⟩
  unfold refC
  rw [← hc]
theorem open_refs {H : Type} {enc : TypeId × Value → H} {W : World} {base : Nat} {v : Value} {d : DataW H} {p : List MemPlace} (hval : Value.okWide Try.prog W .any base 22 v) (h : DataW.Trod enc Try.prog W 0 (fun _ => true) true 22 v d p) :
    ∃ L : List RefV, SlRf W v L ∧ ∀ r ∈ L, r.Wf := by
  obtain ⟨a0, len0, cap0, rfl⟩ := okWide_slice Try.underlying22 hval
  obtain ⟨fuel, hf⟩ := h
  rcases DataW.trod_slice Try.underlying22 hf with ⟨hcs, _⟩ | ⟨a, len, cap, elems, rest, n, _, hcs, _, hb, hl, hm, hlen, hel, _, _⟩
  · simp [Value.cells] at hcs
    obtain ⟨rfl, rfl, rfl⟩ := hcs
    exact ⟨[], SlRf.nil _, by simp⟩
  · simp [Value.cells] at hcs
    obtain ⟨rfl, rfl, rfl⟩ := hcs
    rw [show Try.prog.cellsOf 37 = 34 by kernel_rfl] at hel
    have each : ∀ i, i < len0 → ∃ x : RefV, x.Wf ∧ ∀ j, j < 34 → W.cell? ((a.add (i * 34)).add j) = (refL x)[j]? := fun i hi => by
      have h1 := hel i hi
      rw [List.getElem?_eq_getElem (by omega), Option.bind_eq_some_iff] at h1
      obtain ⟨cs', hc, hy⟩ := h1
      obtain ⟨x, hx, rfl⟩ := ref_of hy
      refine ⟨x, hx, fun j hj => ?_⟩
      have h2 := (World.cells?_some hc).2.2 j hj
      simpa using h2
    haveI : Inhabited RefV := ⟨zref⟩
    obtain ⟨f, hff⟩ := Deep.choose_lt each
    have hL : ((List.range len0).map f).length = len0 := by simp
    have hg : ∀ i, i < len0 → ((List.range len0).map f).getD i zref = f i := fun i hi => by simp [List.getD_eq_getElem?_getD, hi]
    refine ⟨(List.range len0).map f, ⟨some a, cap0, by rw [hL], fun hne => ?_⟩, fun r hr => ?_⟩
    · have h0 : 0 < len0 := by rw [← hL]; exact List.length_pos_iff.2 hne
      have hc := (hff 0 h0).2 0 (by decide)
      have e0 : (refL (f 0))[0]? = some (.int .i64 (f 0).pl) := rfl
      rw [e0] at hc
      obtain ⟨bb, oo, q⟩ := a
      have hq : q = none := by
        have := World.cell?_spot hc
        simpa [Addr.add] using this
      subst hq
      refine ⟨bb, oo, rfl, ?_, fun i hi j u hu => ?_⟩
      · rw [Addr.add_mid, Addr.add_mid] at hc
        exact block_lt_of_cell hc
      · rw [hL] at hi
        rw [hg i hi] at hu
        have hj : j < 34 := by
          have := (List.getElem?_eq_some_iff.1 hu).1
          rwa [refL_length (hff i hi).1] at this
        have h3 := (hff i hi).2 j hj
        rw [Addr.add_mid, Addr.add_mid, hu] at h3
        exact h3
    · obtain ⟨i, hi, rfl⟩ := List.mem_map.1 hr
      exact (hff i (List.mem_range.1 hi)).1
theorem open_iw {H : Type} {enc : TypeId × Value → H} {W : World} {base : Nat} {v : Value} {d : DataW H} {p : List MemPlace} (hval : Value.okWide Try.prog W .any base 3 v) (h : DataW.Trod enc Try.prog W 0 (fun _ => true) true 3 v d p) :
    ∃ z : Int, v = .int .i64 z := by
  obtain ⟨c, rfl, _, _, _⟩ := open_int Try.underlying3 hval h
  exact ⟨c, rfl⟩
end Sha
end Go.Proofs.Ytfbhbdllbapnpaa
