/- What is the same in every law: a contract that says 'it returns true, and all that was there is as it was' gives the row's statement. Slices of bytes, arrays and words that came in are opened. From the rows' condition (the four tables of packages cipher and sha read as listed) to the walks' facts; the start that meets it. What layer 10's laws are handed: an Ask, a wrapped key: opened. The program keeps what layer 10's laws ask of it. -/
import Derived.Test.YtjadjidjfkahpaaDoorRows
import Derived.Test.YtjadjidjfkahpaaDoorBA
import Derived.ProofKit
import Derived.LaidMore
import Derived.LaidHandle
import Derived.OpenShut
import Derived.Stop.Joined
import Derived.Lib.LaidTab
import Derived.MakeChecks
import Derived.SevenTiedAt
import Derived.Carry
import Derived.ChangeOld
import Derived.Deep.Matrix
import Derived.Deep.Strs
import Derived.Lib.SmallJoins
import Derived.Test.YtjadjidjfkahpaaDoorBD
import Derived.Test.YtjadjidjfkahpaaDoorBB
import Derived.Test.YtjadjidjfkahpaaDoorBH
namespace Go.Proofs.YtjadjidjfkahpaaDoor
namespace Sha
open Go.ChangeShapes Go.WideShapes Go.ChangeAt Go.WideMaps Go.WideElems Go.RowKit Mem
theorem own : ownKnob Tryd.prog.godebug = none := by kernel_rfl
theorem laidOut : laidOutB Tryd.prog = true := by kernel_rfl
/-- The arguments read behind the call as they did before. -/
theorem trodAll_below {H : Type} {enc : TypeId × Value → H} {P : Program} (hl : laidOutB P = true) {W W' : World} (hb : Below W.heap.size W W') :
    ∀ {ts : List TypeId} {vs : List Value} {ds : List (DataW H)} {ps : List MemPlace}, ts.all (fun t => P.readableRec t && decide (t < P.types.size)) = true → DataW.TrodAll enc P W 0 (fun _ => true) true ts vs ds ps →
      DataW.TrodAll enc P W' 0 (fun b => decide (b < W.heap.size)) true ts vs ds ps
  | [], [], [], _, _, h => h
  | t :: ts, v :: vs, d :: ds, ps, hr, h => by
    have hlt := DataW.TrodAll.lt h
    obtain ⟨p, q, h1, h2, e⟩ := h
    simp only [List.all_cons, Bool.and_eq_true, decide_eq_true_eq] at hr
    exact ⟨p, q, Below.trod hl hr.1.1 hr.1.2 h1 hb (fun x hx => hlt x (by rw [e]; simp [hx])), trodAll_below hl hb hr.2 h2, e⟩
  | [], [], _ :: _, _, _, h => h.elim
  | [], _ :: _, _, _, _, h => by cases ‹List (DataW H)› <;> exact h.elim
  | _ :: _, [], _, _, _, h => by cases ‹List (DataW H)› <;> exact h.elim
  | _ :: _, _ :: _, [], _, _, h => h.elim
theorem trodAll_len {H : Type} {enc : TypeId × Value → H} {P : Program} {w : World} {base : Nat} {sp : Nat → Bool} {held : Bool} : ∀ {ts : List TypeId} {vs : List Value} {ds : List (DataW H)} {ps : List MemPlace}, DataW.TrodAll enc P w base sp held ts vs ds ps → ds.length = ts.length
  | [], [], [], _, _ => rfl
  | _ :: _, _ :: _, _ :: _, _, h => by
    obtain ⟨_, _, _, h2, _⟩ := h
    simp [trodAll_len h2]
  | [], [], _ :: _, _, h => h.elim
  | [], _ :: _, ds, _, h => by cases ds <;> exact h.elim
  | _ :: _, [], ds, _, h => by cases ds <;> exact h.elim
  | _ :: _, _ :: _, [], _, h => h.elim
/-- What a law's contract says of the call with these arguments. -/
def LawTrue (f : FuncId) (args : Array Value) (W : World) : Prop := Calls Tryd.prog f args W fun e w' => e = .returned (.bool true) ∧ Below W.heap.size W w'
set_option maxRecDepth 100000 in
theorem law_lift_of (laidL : List (String × DataW Unit)) (T : World → Prop) (tabsT : ∀ {W : World}, laidMetH Tryd.prog laidL W → T W) {f : FuncId} {fn : Func} {s : ChangeSpec} (hvars : s.vars = []) (hres : fn.resultTypes = #[4]) (hread : fn.params.toList.all (fun t => Tryd.prog.readableRec t && decide (t < Tryd.prog.types.size)) = true)
    (hs : ∀ (H : Type) (ds : List (DataW H)), ds.length = fn.params.size → s.fn H ds = { results := [.lit (.bool true)], args := ds }) (noInit : Tryd.checked.prog.inits.idxOf? f = none) (hfn : Tryd.prog.funcs[f]? = some fn)
    (os : Os) (started : os.Started) (H : Type) (enc : TypeId × Value → H) (wargs : Array Value) (fuel : Nat)
    (hok : Input.okWideB Tryd.prog ((World.doorLaid Tryd.prog 4000 os).forCall (fun _ _ => 0) ⟨#[], wargs, []⟩) f ⟨#[], wargs, []⟩ = true)
    (hpre : s.preB enc Tryd.prog fn [] false ((World.doorLaid Tryd.prog 4000 os).forCall (fun _ _ => 0) ⟨#[], wargs, []⟩).memory wargs fuel = true)
    (hsz : s.sizedB enc Tryd.prog fn false ((World.doorLaid Tryd.prog 4000 os).forCall (fun _ _ => 0) ⟨#[], wargs, []⟩).memory wargs fuel = true)
    (hsh : ((World.doorLaid Tryd.prog 4000 os).forCall (fun _ _ => 0) ⟨#[], wargs, []⟩).Shaped Tryd.prog)
    (hdoor : laidMetH Tryd.prog laidL ((World.doorLaid Tryd.prog 4000 os).forCall (fun _ _ => 0) ⟨#[], wargs, []⟩).memory)
    (hos : (World.doorLaid Tryd.prog 4000 os).os = os)
    (contract : ∀ (W : World) (base : Nat) (args : Array Value) (ds : List (DataW H)) (p : List MemPlace), (∀ (j : Nat) t v, fn.params[j]? = some t → args[j]? = some v → Value.okWide Tryd.prog W .any base t v) →
      DataW.TrodAll enc Tryd.prog W 0 (fun _ => true) true fn.params.toList args.toList ds p → T W → LawTrue f args W) :
    ReturnsInHanded {} Tryd.checked os f .any (fun w args => (s.pre enc Tryd.prog fn [] false w args ∧ laidMetH Tryd.prog laidL w) ∧ sizedMet enc Tryd.prog fn (OpenSpec.ofChange s) false w args) (s.post enc Tryd.prog fn false true false false) := by
  refine returnsInHanded_of_change_and (C := Tryd.checked) (X := fun w _ => laidMetH Tryd.prog laidL w) (fun _ _ _ hh h => h.of_heap hh) own started noInit hfn
    (ChangeSpec.witness_shaped (enc := enc) (C := Tryd.checked) (os := os) (X := fun w _ => laidMetH Tryd.prog laidL w) false (World.doorLaid Tryd.prog 4000 os) wargs fuel hos hsh hok hpre hsz hdoor) ?_
  intro W base args ds gs before hval hW _ _ hL _
  have hW' := hW
  obtain ⟨p, q, hA, hV, rfl, _, _⟩ := hW
  rw [hvars] at hV
  obtain ⟨rfl, rfl⟩ := trodVars_none hV
  refine (contract W base args ds p hval hA (tabsT hL)).mono fun e W' ⟨he, hb⟩ => ?_
  subst he
  have hsd := hs H ds (by rw [trodAll_len hA]; simp)
  refine ⟨_, rfl, ds, [], p ++ [], [], p, [], hW', ?_, ?_, ?_, hb.frame _, fun h => by cases h⟩
  · rw [List.append_nil, hsd, hres]; exact trodAll_cons_mk (shut_bool Tryd.underlying4 _) trodAll_mk0
  · rw [List.append_nil, hsd]; exact trodAll_below laidOut hb hread hA
  · rw [List.append_nil, hsd, hvars]; rfl
end Sha
end Go.Proofs.YtjadjidjfkahpaaDoor
namespace Go.Proofs.YtjadjidjfkahpaaDoor
namespace Sha
open Go.ChangeShapes Go.WideShapes Go.ChangeAt Go.WideMaps Go.WideElems Go.RowKit Mem
set_option maxRecDepth 100000
theorem byte_of {n : Int} (h : (Lit.int .u8 n).wf = true) : ∃ x : BitVec 8, n = (x.toNat : Int) := by
  have h2 := h
  simp [Lit.wf, IntKind.min, IntKind.max, IntKind.signed, IntKind.bits] at h2
  refine ⟨BitVec.ofNat 8 n.toNat, ?_⟩
  rw [BitVec.toNat_ofNat]
  omega
theorem bytes_of : ∀ (zs : List Int), (∀ n ∈ zs, (Lit.int .u8 n).wf = true) → ∃ l : List (BitVec 8), zs = l.map fun x => (x.toNat : Int)
  | [], _ => ⟨[], rfl⟩
  | z :: zs, h => by
    obtain ⟨x, hx⟩ := byte_of (h z (by simp))
    obtain ⟨l, hl⟩ := bytes_of zs (fun n hn => h n (by simp [hn]))
    exact ⟨x :: l, by simp [hx, hl]⟩
theorem cB : Tryd.prog.cellsOf 5 = 1 := by kernel_rfl
theorem cS : Tryd.prog.cellsOf 22 = 1 := by kernel_rfl
/-- A slice that came in is a slice of bytes. -/
theorem sl_of {w : World} {a : Addr} {len : Nat} (cap : Nat) {zs : List Int} (hl : len ≤ cap) (hz : len ≤ zs.length) (hcell : ∀ i, i < zs.length → w.cell? (a.add i) = some (.int .u8 (zs.getD i 0))) (hwz : ∀ n ∈ zs, (Lit.int .u8 n).wf = true) :
    ∃ l, Sl w (.slice (some a) len cap) l ∧ l.length = len := by
  obtain ⟨l, rfl⟩ := bytes_of zs hwz
  have hz' : len ≤ l.length := by simpa using hz
  have hlen : (l.take len).length = len := by simp; omega
  refine ⟨l.take len, ⟨some a, cap, by rw [hlen], by rw [hlen]; exact hl, fun hne => ?_⟩, hlen⟩
  have hp : 0 < len := by
    rcases Nat.eq_zero_or_pos len with h | h
    · subst h; simp at hne
    · exact h
  have h0 := hcell 0 (by simp; omega)
  obtain ⟨b, o, ln⟩ := a
  have hsp : ln = none := by simpa [Addr.add] using World.cell?_spot h0
  subst hsp
  refine ⟨b, o, rfl, ?_, fun i hi => ?_⟩
  · rw [Addr.add_mid] at h0
    exact block_lt_of_cell h0
  · rw [hlen] at hi
    have h1 := hcell i (by simp; omega)
    rw [Addr.add_mid] at h1
    rw [h1]
    simp [List.getD_eq_getElem?_getD, hi, show i < l.length by omega]
theorem sl_nil (w : World) (cap : Nat) : Sl w (.slice none 0 cap) [] := ⟨none, cap, rfl, by simp, fun h => absurd rfl h⟩
theorem open_sl {H : Type} {enc : TypeId × Value → H} {W : World} {base : Nat} {v : Value} {d : DataW H} {p : List MemPlace} (hval : Value.okWide Tryd.prog W .any base 22 v) (h : DataW.Trod enc Tryd.prog W 0 (fun _ => true) true 22 v d p) :
    ∃ l, Sl W v l ∧ l.length ≤ 9223372036854775807 := by
  obtain ⟨a0, len, cap, rfl⟩ := okWide_slice Tryd.underlying22 hval
  obtain ⟨fuel, hf⟩ := h
  rcases open_ints Tryd.underlying22 Tryd.underlying5 cB hf with ⟨hcs, _⟩ | ⟨a, len', cap', zs, hcs, _, hl, hm, hz, _, hcell, hwz⟩
  · simp [Value.cells] at hcs
    obtain ⟨rfl, rfl, rfl⟩ := hcs
    exact ⟨[], sl_nil _ _, by simp⟩
  · simp [Value.cells] at hcs
    obtain ⟨rfl, rfl, rfl⟩ := hcs
    simp only [if_true] at hz
    obtain ⟨l, h1, h2⟩ := sl_of cap hl (by rw [hz]; exact hl) hcell hwz
    refine ⟨l, h1, ?_⟩
    unfold maxLen at hm
    omega
theorem open_sl_in {H : Type} {enc : TypeId × Value → H} {W : World} {n : Nat} {v : Value} {y : DataW H × List MemPlace} (hf : DataW.trod enc Tryd.prog W 0 (fun _ => true) true n 22 [v] = some y) :
    ∃ l, Sl W v l ∧ l.length ≤ 9223372036854775807 := by
  rcases open_ints Tryd.underlying22 Tryd.underlying5 cB hf with ⟨hcs, _⟩ | ⟨a, len', cap', zs, hcs, _, hl, hm, hz, _, hcell, hwz⟩
  · simp at hcs
    subst hcs
    exact ⟨[], sl_nil _ _, by simp⟩
  · simp at hcs
    subst hcs
    simp only [if_true] at hz
    obtain ⟨l, h1, h2⟩ := sl_of cap' hl (by rw [hz]; exact hl) hcell hwz
    refine ⟨l, h1, ?_⟩
    unfold maxLen at hm
    omega
theorem open_int_in {H : Type} {enc : TypeId × Value → H} {W : World} {n : Nat} {v : Value} {y : DataW H × List MemPlace} (hf : DataW.trod enc Tryd.prog W 0 (fun _ => true) true n 3 [v] = some y) :
    ∃ z : Int, v = .int .i64 z ∧ -9223372036854775808 ≤ z ∧ z ≤ 9223372036854775807 := by
  obtain ⟨n', h, _, hw⟩ := DataW.trod_int Tryd.underlying3 hf
  simp at h
  subst h
  simp [Lit.wf, IntKind.min, IntKind.max, IntKind.signed, IntKind.bits] at hw
  exact ⟨n', rfl, by omega, by omega⟩
theorem okWide_array {P : Program} {w : World} {r : Reach} {base : Nat} {t e : TypeId} {v : Value} {n : Nat} (ht : P.underlying t = some (.array n e)) (h : Value.okWide P w r base t v) : ∃ cs, v = .agg cs ∧ cs.size = P.cellsOf t := by
  simp only [Value.okWide, ht] at h
  obtain ⟨cs, h1, h2, _⟩ := h
  exact ⟨cs, h1, h2⟩
theorem open_bytes_in {H : Type} {enc : TypeId × Value → H} {W : World} {m n : Nat} {t : TypeId} {cs : List Value} {y : DataW H × List MemPlace} (hu : Tryd.prog.underlying t = some (.array n 5)) (hc : Tryd.prog.cellsOf t = n)
    (hf : DataW.trod enc Tryd.prog W 0 (fun _ => true) true m t cs = some y) : ∃ l : List (BitVec 8), cs = u8s l ∧ l.length = n := by
  obtain ⟨xs, m', _, _, hl, hx, he⟩ := DataW.trod_array hu hf
  rw [hc] at hl
  have each : ∀ i, i < n → ∃ b : BitVec 8, cs[i]? = some (.int .u8 (b.toNat : Int)) := fun i hi => by
    have h := he i hi
    rw [cB, Nat.mul_one, List.getElem?_eq_getElem (by omega)] at h
    obtain ⟨k, hk, _, hw⟩ := DataW.trod_int Tryd.underlying5 h
    obtain ⟨b, rfl⟩ := byte_of hw
    refine ⟨b, ?_⟩
    have h0 : ((cs.drop i).take 1)[0]? = some (.int .u8 (b.toNat : Int)) := by rw [hk]; rfl
    simpa [List.getElem?_take, List.getElem?_drop] using h0
  obtain ⟨f, hff⟩ := Deep.choose_lt each
  refine ⟨(List.range n).map f, ?_, by simp⟩
  apply List.ext_getElem?
  intro i
  by_cases hi : i < n
  · rw [hff i hi]; simp [u8s, hi]
  · rw [List.getElem?_eq_none (by omega), List.getElem?_eq_none (by simp [u8s]; omega)]
/-- An array of bytes that came in. -/
theorem open_bytes {H : Type} {enc : TypeId × Value → H} {W : World} {base n : Nat} {t : TypeId} {v : Value} {d : DataW H} {p : List MemPlace} (hu : Tryd.prog.underlying t = some (.array n 5)) (hc : Tryd.prog.cellsOf t = n)
    (hval : Value.okWide Tryd.prog W .any base t v) (h : DataW.Trod enc Tryd.prog W 0 (fun _ => true) true t v d p) : ∃ l : List (BitVec 8), v = .agg (u8s l).toArray ∧ l.length = n := by
  obtain ⟨cs, rfl, _⟩ := okWide_array hu hval
  obtain ⟨fuel, hf⟩ := h
  have e1 : (Value.agg cs).cells.toList = cs.toList := rfl
  rw [e1] at hf
  obtain ⟨l, hl, ln⟩ := open_bytes_in hu hc hf
  exact ⟨l, by rw [← hl], ln⟩
/-- An array of integers of one kind that came in, cell by cell. -/
theorem open_ints_in {H : Type} {enc : TypeId × Value → H} {W : World} {m n : Nat} {t e : TypeId} {k : IntKind} {cs : List Value} {y : DataW H × List MemPlace} (hu : Tryd.prog.underlying t = some (.array n e)) (he : Tryd.prog.underlying e = some (.int k)) (hce : Tryd.prog.cellsOf e = 1) (hc : Tryd.prog.cellsOf t = n)
    (hf : DataW.trod enc Tryd.prog W 0 (fun _ => true) true m t cs = some y) : cs.length = n ∧ ∀ i, i < n → ∃ z : Int, cs[i]? = some (.int k z) ∧ (Lit.int k z).wf = true := by
  obtain ⟨xs, m', _, _, hl, hx, hh⟩ := DataW.trod_array hu hf
  rw [hc] at hl
  refine ⟨hl, fun i hi => ?_⟩
  have h := hh i hi
  rw [hce, Nat.mul_one, List.getElem?_eq_getElem (by omega)] at h
  obtain ⟨z, hk, _, hw⟩ := DataW.trod_int he h
  refine ⟨z, ?_, hw⟩
  have h0 : ((cs.drop i).take 1)[0]? = some (.int k z) := by rw [hk]; rfl
  simpa [List.getElem?_take, List.getElem?_drop] using h0
theorem open_ints_row {H : Type} {enc : TypeId × Value → H} {W : World} {base n : Nat} {t e : TypeId} {k : IntKind} {v : Value} {d : DataW H} {p : List MemPlace} (hu : Tryd.prog.underlying t = some (.array n e)) (he : Tryd.prog.underlying e = some (.int k)) (hce : Tryd.prog.cellsOf e = 1) (hc : Tryd.prog.cellsOf t = n)
    (hval : Value.okWide Tryd.prog W .any base t v) (h : DataW.Trod enc Tryd.prog W 0 (fun _ => true) true t v d p) : ∃ cs : Array Value, v = .agg cs ∧ cs.size = n ∧ ∀ i, i < n → ∃ z : Int, cs[i]? = some (.int k z) ∧ (Lit.int k z).wf = true := by
  obtain ⟨cs, rfl, _⟩ := okWide_array hu hval
  obtain ⟨fuel, hf⟩ := h
  have e1 : (Value.agg cs).cells.toList = cs.toList := rfl
  rw [e1] at hf
  obtain ⟨hl, hh⟩ := open_ints_in hu he hce hc hf
  exact ⟨cs, rfl, by simpa using hl, fun i hi => by
    obtain ⟨z, hz, hw⟩ := hh i hi
    exact ⟨z, by simpa using hz, hw⟩⟩
/-- What a laid variable holds. -/
theorem cells_of_rows {H : Type} {enc : TypeId × Value → H} {P : Program} {w : World} {base : Nat} {sp : Nat → Bool} {held : Bool} {fuel : Nat} {t e1 e : TypeId} {n m : Nat} {k : IntKind} {cs : List Value} {rows : List (List Int)} {p : List MemPlace}
    (ht : P.underlying t = some (.array n e1)) (h1 : P.underlying e1 = some (.array m e)) (he : P.underlying e = some (.int k)) (hce : P.cellsOf e = 1) (hc1 : P.cellsOf e1 = m) (hct : P.cellsOf t = n * m) (_hm : 0 < m)
    (h : DataW.trod enc P w base sp held fuel t cs = some (.agg (rows.map (Lib.tabData k)), p)) : cs.length = n * m ∧ ∀ i, i < n → (cs.drop (i * m)).take m = (rows.getD i []).map fun z => Value.int k z := by
  obtain ⟨xs, m', _, hx, hl, hxl, hh⟩ := DataW.trod_array ht h
  refine ⟨by rw [hl, hct], fun i hi => ?_⟩
  have hi2 := hh i hi
  rw [hc1, List.getElem?_eq_getElem (by omega)] at hi2
  have hr : rows.map (Lib.tabData k) = xs.map (·.1) := by
    have := congrArg Prod.fst hx
    simpa using this
  have hlen : rows.length = n := by have := congrArg List.length hr; simpa [hxl] using this
  have hrow : (xs[i]'(by omega)).1 = (Lib.tabData k (rows.getD i []) : DataW H) := by
    have e2 := congrArg (fun l => l[i]?) hr
    simp only [List.getElem?_map, List.getElem?_eq_getElem (show i < xs.length by omega), List.getElem?_eq_getElem (show i < rows.length by omega), Option.map_some, Option.some.injEq] at e2
    rw [← e2]
    simp [List.getD_eq_getElem?_getD, hlen, hi]
  obtain ⟨x1, x2⟩ : ∃ a b, xs[i]'(by omega) = (a, b) := ⟨_, _, rfl⟩
  rw [show xs[i]'(by omega) = ((xs[i]'(by omega)).1, (xs[i]'(by omega)).2) from rfl, hrow] at hi2
  exact Lib.cells_of_tab h1 he hce hc1 hi2
end Sha
end Go.Proofs.YtjadjidjfkahpaaDoor
namespace Go.Proofs.YtjadjidjfkahpaaDoor
namespace Sha
open Go.ChangeShapes Go.WideShapes Go.ChangeAt Go.WideMaps Go.WideElems Go.RowKit Mem
set_option maxRecDepth 100000
/-- Both packages' tables are laid. -/
def T9 (w : World) : Prop := Tabs w ∧ CTabs w
theorem T9.below {w w' : World} (h : T9 w) (hb : Below w.heap.size w w') : T9 w' := ⟨h.1.below hb (Nat.le_refl _), h.2.below hb (Nat.le_refl _)⟩
def laidL : List (String × DataW Unit) := [("carling/cipher.firstWords", Rows.laid_carling_cipher_firstWords), ("carling/cipher.quarterPlaces", Rows.laid_carling_cipher_quarterPlaces), ("carling/sha.roundConstants", Rows.laid_carling_sha_roundConstants), ("carling/sha.firstState", Rows.laid_carling_sha_firstState)]
theorem gF : Tryd.prog.globalNamed "carling/cipher.firstWords" = some 2 := by kernel_rfl
theorem gP : Tryd.prog.globalNamed "carling/cipher.quarterPlaces" = some 3 := by kernel_rfl
theorem gK : Tryd.prog.globalNamed "carling/sha.roundConstants" = some 1 := by kernel_rfl
theorem gI : Tryd.prog.globalNamed "carling/sha.firstState" = some 0 := by kernel_rfl
theorem tF : (Tryd.prog.globals[2]?).map (·.type) = some 112 := by kernel_rfl
theorem tP : (Tryd.prog.globals[3]?).map (·.type) = some 119 := by kernel_rfl
theorem tK : (Tryd.prog.globals[1]?).map (·.type) = some 104 := by kernel_rfl
theorem tI : (Tryd.prog.globals[0]?).map (·.type) = some 79 := by kernel_rfl
theorem cW : Tryd.prog.cellsOf 65 = 1 := by kernel_rfl
theorem cI : Tryd.prog.cellsOf 3 = 1 := by kernel_rfl
theorem cW4 : Tryd.prog.cellsOf 112 = 4 := by kernel_rfl
theorem cI4 : Tryd.prog.cellsOf 117 = 4 := by kernel_rfl
theorem cI32 : Tryd.prog.cellsOf 119 = 8 * 4 := by kernel_rfl
theorem c64 : Tryd.prog.cellsOf 104 = 64 := by kernel_rfl
theorem c8 : Tryd.prog.cellsOf 79 = 8 := by kernel_rfl
def plcZ : List (List Int) := plc.map fun r => r.map fun (k : Nat) => (k : Int)
theorem laidF : (Rows.laid_carling_cipher_firstWords : DataW Unit) = Lib.tabData .u32 (fwl.map V) := by rfl
theorem laidP : (Rows.laid_carling_cipher_quarterPlaces : DataW Unit) = .agg (plcZ.map (Lib.tabData .i64)) := by rfl
theorem laidK : (Rows.laid_carling_sha_roundConstants : DataW Unit) = Lib.tabData .u32 (Kl.map V) := by rfl
theorem laidI : (Rows.laid_carling_sha_firstState : DataW Unit) = Lib.tabData .u32 (IVl.map V) := by rfl
theorem tabV_of {W : World} {name : String} {g : Nat} {cs : List Value} (hg : Tryd.prog.globalNamed name = some g) (hv : W.var? Tryd.prog name = some cs.toArray) (h0 : cs ≠ []) : TabV W g cs := by
  have key : ∀ j v, cs[j]? = some v → W.cell? ⟨g, 0 + j, none⟩ = some v := fun j v hj => by
    rw [Nat.zero_add, World.var?_cell hg hv j]
    simpa using hj
  obtain ⟨x, r, rfl⟩ := List.exists_cons_of_ne_nil h0
  exact ⟨block_lt_of_cell (key 0 x rfl), key⟩
theorem tab_of {W : World} {name : String} {g : Nat} {l : List (BitVec 32)} (h : Lib.TabIs Tryd.prog W name .u32 (l.map V)) (hg : Tryd.prog.globalNamed name = some g) (h0 : 0 < l.length) : Tab W g l := by
  have key : ∀ i, i < l.length → W.cell? ⟨g, i, none⟩ = some (.int .u32 (V (l.getD i 0))) := fun i hi => by
    rw [h.cell hg i (by simpa using hi)]
    simp [List.getD_eq_getElem?_getD, hi]
  exact ⟨block_lt_of_cell (key 0 h0), key⟩
theorem tabs_of {W : World} (h : laidMetH Tryd.prog laidL W) : T9 W := by
  rw [MakeChecks.laidMetH_plain _ _ _ (by kernel_rfl)] at h
  obtain ⟨ps, ⟨g0, t0, cs0, f0, p0, q0, hg0, ht0, hv0, hd0, ⟨g1, t1, cs1, f1, p1, q1, hg1, ht1, hv1, hd1, ⟨g2, t2, cs2, f2, p2, q2, hg2, ht2, hv2, hd2, ⟨g3, t3, cs3, f3, p3, q3, hg3, ht3, hv3, hd3, _, _⟩, _⟩, _⟩, _⟩, _, _⟩ := h
  obtain rfl := Option.some.inj (gF.symm.trans hg0)
  obtain rfl := Option.some.inj (tF.symm.trans ht0)
  obtain rfl := Option.some.inj (gP.symm.trans hg1)
  obtain rfl := Option.some.inj (tP.symm.trans ht1)
  obtain rfl := Option.some.inj (gK.symm.trans hg2)
  obtain rfl := Option.some.inj (tK.symm.trans ht2)
  obtain rfl := Option.some.inj (gI.symm.trans hg3)
  obtain rfl := Option.some.inj (tI.symm.trans ht3)
  rw [laidF] at hd0
  rw [laidP] at hd1
  rw [laidK] at hd2
  rw [laidI] at hd3
  have e0 := Lib.cells_of_tab Tryd.underlying112 Tryd.underlying65 cW cW4 hd0
  have e2 := Lib.cells_of_tab Tryd.underlying104 Tryd.underlying65 cW c64 hd2
  have e3 := Lib.cells_of_tab Tryd.underlying79 Tryd.underlying65 cW c8 hd3
  obtain ⟨hl, hr⟩ := cells_of_rows Tryd.underlying119 Tryd.underlying117 Tryd.underlying3 cI cI4 cI32 (by decide) hd1
  have e1 : cs1.toList = ints plc.flatten := by
    apply List.ext_getElem?
    intro i
    by_cases hi : i < 32
    · have h8 := hr (i / 4) (by omega)
      have h9 := congrArg (fun l => l[i % 4]?) h8
      simp only [List.getElem?_take, List.getElem?_drop, if_pos (show i % 4 < 4 from Nat.mod_lt _ (by decide)), show i / 4 * 4 + i % 4 = i by omega] at h9
      rw [h9]
      have : i = 0 ∨ i = 1 ∨ i = 2 ∨ i = 3 ∨ i = 4 ∨ i = 5 ∨ i = 6 ∨ i = 7 ∨ i = 8 ∨ i = 9 ∨ i = 10 ∨ i = 11 ∨ i = 12 ∨ i = 13 ∨ i = 14 ∨ i = 15 ∨ i = 16 ∨ i = 17 ∨ i = 18 ∨ i = 19 ∨ i = 20 ∨ i = 21 ∨ i = 22 ∨ i = 23 ∨ i = 24 ∨ i = 25 ∨ i = 26 ∨ i = 27 ∨ i = 28 ∨ i = 29 ∨ i = 30 ∨ i = 31 := by omega
      rcases this with rfl | rfl | rfl | rfl | rfl | rfl | rfl | rfl | rfl | rfl | rfl | rfl | rfl | rfl | rfl | rfl | rfl | rfl | rfl | rfl | rfl | rfl | rfl | rfl | rfl | rfl | rfl | rfl | rfl | rfl | rfl | rfl <;> rfl
    · rw [List.getElem?_eq_none (by omega), List.getElem?_eq_none (by rw [show (ints plc.flatten).length = 32 from rfl]; omega)]
  refine ⟨⟨tab_of ?_ gK (by decide), tab_of ?_ gI (by decide)⟩, tabV_of gF ?_ (by decide), tabV_of gP ?_ (by decide)⟩
  · unfold Lib.TabIs
    rw [hv2, ← e2]
  · unfold Lib.TabIs
    rw [hv3, ← e3]
  · rw [hv0, ← Array.toArray_toList (xs := cs0), e0]; rfl
  · rw [hv1, ← Array.toArray_toList (xs := cs1), e1]
theorem door_met (os : Os) (args : Array Value) : laidMetH Tryd.prog laidL ((World.doorLaid Tryd.prog 4000 os).forCall (fun _ _ => 0) ⟨#[], args, []⟩).memory :=
  laidMetH_of_parts3 (fuel := 200) (laidMet_of_run' 200 (by kernel_rfl) (by kernel_rfl)) (by kernel_rfl) (by kernel_rfl)
theorem law_lift {f : FuncId} {fn : Func} {s : ChangeSpec} (hvars : s.vars = []) (hres : fn.resultTypes = #[4]) (hread : fn.params.toList.all (fun t => Tryd.prog.readableRec t && decide (t < Tryd.prog.types.size)) = true)
    (hs : ∀ (H : Type) (ds : List (DataW H)), ds.length = fn.params.size → s.fn H ds = { results := [.lit (.bool true)], args := ds }) (noInit : Tryd.checked.prog.inits.idxOf? f = none) (hfn : Tryd.prog.funcs[f]? = some fn)
    (os : Os) (started : os.Started) (H : Type) (enc : TypeId × Value → H) (wargs : Array Value) (fuel : Nat)
    (hok : Input.okWideB Tryd.prog ((World.doorLaid Tryd.prog 4000 os).forCall (fun _ _ => 0) ⟨#[], wargs, []⟩) f ⟨#[], wargs, []⟩ = true)
    (hpre : s.preB enc Tryd.prog fn [] false ((World.doorLaid Tryd.prog 4000 os).forCall (fun _ _ => 0) ⟨#[], wargs, []⟩).memory wargs fuel = true)
    (hsz : s.sizedB enc Tryd.prog fn false ((World.doorLaid Tryd.prog 4000 os).forCall (fun _ _ => 0) ⟨#[], wargs, []⟩).memory wargs fuel = true)
    (hsh : ((World.doorLaid Tryd.prog 4000 os).forCall (fun _ _ => 0) ⟨#[], wargs, []⟩).Shaped Tryd.prog)
    (hdoor : laidMetH Tryd.prog laidL ((World.doorLaid Tryd.prog 4000 os).forCall (fun _ _ => 0) ⟨#[], wargs, []⟩).memory)
    (hos : (World.doorLaid Tryd.prog 4000 os).os = os)
    (contract : ∀ (W : World) (base : Nat) (args : Array Value) (ds : List (DataW H)) (p : List MemPlace), (∀ (j : Nat) t v, fn.params[j]? = some t → args[j]? = some v → Value.okWide Tryd.prog W .any base t v) →
      DataW.TrodAll enc Tryd.prog W 0 (fun _ => true) true fn.params.toList args.toList ds p → T9 W → LawTrue f args W) :
    ReturnsInHanded {} Tryd.checked os f .any (fun w args => (s.pre enc Tryd.prog fn [] false w args ∧ laidMetH Tryd.prog laidL w) ∧ sizedMet enc Tryd.prog fn (OpenSpec.ofChange s) false w args) (s.post enc Tryd.prog fn false true false false) :=
  law_lift_of laidL T9 (fun h => tabs_of h) hvars hres hread hs noInit hfn os started H enc wargs fuel hok hpre hsz hsh hdoor hos contract
theorem word_of {n : Int} (h : (Lit.int .u32 n).wf = true) : ∃ x : BitVec 32, n = V x := by
  simp [Lit.wf, IntKind.min, IntKind.max, IntKind.signed, IntKind.bits] at h
  refine ⟨BitVec.ofNat 32 n.toNat, ?_⟩
  unfold V
  rw [BitVec.toNat_ofNat]
  omega
end Sha
end Go.Proofs.YtjadjidjfkahpaaDoor
namespace Go.Proofs.YtjadjidjfkahpaaDoor
namespace Sha
open Go.ChangeShapes Go.WideShapes Go.ChangeAt Go.WideMaps Go.WideElems Go.RowKit Mem
set_option maxRecDepth 100000
theorem open_ask10 {H : Type} {enc : TypeId × Value → H} {W : World} {base : Nat} {v : Value} {d : DataW H} {p : List MemPlace} (hval : Value.okWide Tryd.prog W .any base 26 v) (h : DataW.Trod enc Tryd.prog W 0 (fun _ => true) true 26 v d p) :
    ∃ (x : Value) (l s : List (BitVec 8)) (r : Int) (m : List (BitVec 8)), v = .agg (askW x s r m) ∧ Sl W x l ∧ s.length = 16 ∧ m.length = 32 ∧ -9223372036854775808 ≤ r ∧ r ≤ 9223372036854775807 := by
  obtain ⟨cs, rfl, hsz⟩ := okWide_struct Tryd.underlying26 hval
  obtain ⟨fuel, hf⟩ := h
  have e1 : (Value.agg cs).cells.toList = cs.toList := rfl
  rw [e1] at hf
  rw [show Tryd.prog.cellsOf 26 = 50 by kernel_rfl] at hsz
  obtain ⟨y0, y1, y2, y3, m, _, _, h0, h1, h2, h3⟩ := Joins.trod_struct4 Tryd.underlying26 hf
  have c32 : Tryd.prog.cellsOf 24 = 32 := by kernel_rfl
  have c16 : Tryd.prog.cellsOf 23 = 16 := by kernel_rfl
  have c1 : Tryd.prog.cellsOf 22 = 1 := by kernel_rfl
  simp only at h0 h1 h2 h3
  rw [c1] at h0; rw [c16] at h1; rw [cI] at h2; rw [c32] at h3
  have hl : cs.toList.length = 50 := by simpa using hsz
  obtain ⟨x, ex⟩ := List.length_eq_one_iff.1 (show ((cs.toList.drop 0).take 1).length = 1 by rw [List.drop_zero, List.length_take, hl]; rfl)
  rw [ex] at h0
  obtain ⟨l, sl, _⟩ := open_sl_in h0
  obtain ⟨s, es, ls⟩ := open_bytes_in Tryd.underlying23 c16 h1
  obtain ⟨r, er, _, wr⟩ := DataW.trod_int Tryd.underlying3 h2
  obtain ⟨k, ek, lk⟩ := open_bytes_in Tryd.underlying24 c32 h3
  simp [Lit.wf, IntKind.min, IntKind.max, IntKind.signed, IntKind.bits] at wr
  refine ⟨x, l, s, r, k, congrArg Value.agg ?_, sl, ls, lk, by omega, by omega⟩
  have e2 : cs.toList = ([x] : List Value) ++ (u8s s ++ (([.int .i64 r] : List Value) ++ u8s k)) := by
    have d1 : cs.toList = cs.toList.take 1 ++ cs.toList.drop 1 := (List.take_append_drop 1 _).symm
    have d2 : cs.toList.drop 1 = (cs.toList.drop 1).take 16 ++ (cs.toList.drop 1).drop 16 := (List.take_append_drop 16 _).symm
    have d3 : cs.toList.drop 17 = (cs.toList.drop 17).take 1 ++ (cs.toList.drop 17).drop 1 := (List.take_append_drop 1 _).symm
    have d4 : (cs.toList.drop 18).take 32 = cs.toList.drop 18 := List.take_of_length_le (by rw [List.length_drop]; omega)
    rw [List.drop_drop] at d2 d3
    rw [List.drop_zero] at ex
    rw [d1, d2, d3, ← d4, ex, es, er, ek]
  unfold askW
  rw [← e2]
theorem open_wr10 {H : Type} {enc : TypeId × Value → H} {W : World} {base : Nat} {v : Value} {d : DataW H} {p : List MemPlace} (hval : Value.okWide Tryd.prog W .any base 34 v) (h : DataW.Trod enc Tryd.prog W 0 (fun _ => true) true 34 v d p) :
    ∃ x : WrV, v = .agg (wrC x) ∧ x.Wf := by
  obtain ⟨cs, rfl, hsz⟩ := okWide_struct Tryd.underlying34 hval
  obtain ⟨fuel, hf⟩ := h
  have e1 : (Value.agg cs).cells.toList = cs.toList := rfl
  rw [e1] at hf
  rw [show Tryd.prog.cellsOf 34 = 81 by kernel_rfl] at hsz
  obtain ⟨y0, y1, y2, y3, m, _, _, h0, h1, h2, h3⟩ := Joins.trod_struct4 Tryd.underlying34 hf
  have c32 : Tryd.prog.cellsOf 24 = 32 := by kernel_rfl
  have c16 : Tryd.prog.cellsOf 23 = 16 := by kernel_rfl
  simp only at h0 h1 h2 h3
  rw [c16] at h0; rw [cI] at h1; rw [c32] at h2 h3
  have hl : cs.toList.length = 81 := by simpa using hsz
  obtain ⟨s, es, ls⟩ := open_bytes_in Tryd.underlying23 c16 h0
  obtain ⟨r, er, _, wr⟩ := DataW.trod_int Tryd.underlying3 h1
  obtain ⟨k, ek, lk⟩ := open_bytes_in Tryd.underlying24 c32 h2
  obtain ⟨c, ec, lc⟩ := open_bytes_in Tryd.underlying24 c32 h3
  simp [Lit.wf, IntKind.min, IntKind.max, IntKind.signed, IntKind.bits] at wr
  refine ⟨⟨s, r, k, c⟩, congrArg Value.agg ?_, ls, by show _ ≤ r; omega, by show r ≤ _; omega, lk, lc⟩
  have e2 : cs.toList = u8s s ++ ([.int .i64 r] ++ (u8s k ++ u8s c)) := by
    have d1 : cs.toList = cs.toList.take 16 ++ cs.toList.drop 16 := (List.take_append_drop 16 _).symm
    have d2 : cs.toList.drop 16 = (cs.toList.drop 16).take 1 ++ (cs.toList.drop 16).drop 1 := (List.take_append_drop 1 _).symm
    have d3 : cs.toList.drop 17 = (cs.toList.drop 17).take 32 ++ (cs.toList.drop 17).drop 32 := (List.take_append_drop 32 _).symm
    have d4 : (cs.toList.drop 49).take 32 = cs.toList.drop 49 := List.take_of_length_le (by rw [List.length_drop]; omega)
    rw [List.drop_drop] at d2 d3
    rw [List.drop_zero] at es
    rw [d1, d2, d3, ← d4, es, er, ek, ec]
  unfold wrC wrL
  rw [← e2]
end Sha
end Go.Proofs.YtjadjidjfkahpaaDoor
namespace Go.Proofs.YtjadjidjfkahpaaDoor
namespace Sha
open Go.RowKit Mem
theorem wrapP10 : WrapP T9 where
  below := T9.below
  halves p s r v w ls _ _ hv hp hT := phalves_any p s ls r v w hv (by omega) hT.1
  wrap p s r m v w ls lm h0 h1 hv hp hT := pwrap_any p s ls r h0 h1 m lm v w hv (by omega) hT.1 hT.2
  unwrap p x v w hx hv hp hT := punwrap_any p x hx v w hv (by omega) hT.1 hT.2
  again old p s x vo v w ls hx ho hv lo hp hT := pagain_any old p s ls x hx vo v w ho hv (by omega) (by omega) hT.1 hT.2
end Sha
end Go.Proofs.YtjadjidjfkahpaaDoor
