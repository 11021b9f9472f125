/- What is the same in every law of this seat: a contract that says 'it returns true, and all that was there is as it was' gives the row's statement; the arguments that are slices of bytes, and of these, are opened. -/
import Derived.Test.YtngegegomkclbaaDoorShaDoor
import Derived.Test.YtngegegomkclbaaDoorBytes
import Derived.Test.YtngegegomkclbaaDoorCards
import Derived.Test.YtngegegomkclbaaDoorTie
import Derived.SevenTiedAt
import Derived.Carry
import Derived.ChangeOld
import Derived.Deep.Matrix
namespace Go.Proofs.YtngegegomkclbaaDoor
namespace Sha
open Go.ChangeShapes Go.WideShapes Go.ChangeAt Go.WideMaps Go.WideElems Go.RowKit Mem

theorem laidOut : laidOutB Tryd.prog = true := by kernel_rfl
/-- The arguments read behind the call as they did before. -/
theorem trodAll_below {H : Type} {enc : TypeId × Value → H} {P : Program} (hl : laidOutB P = true) {W W' : World} (hb : Below W.heap.size W W') :
    ∀ {ts : List TypeId} {vs : List Value} {ds : List (DataW H)} {ps : List MemPlace}, ts.all (fun t => P.readableRec t && decide (t < P.types.size)) = true → DataW.TrodAll enc P W 0 (fun _ => true) true ts vs ds ps →
      DataW.TrodAll enc P W' 0 (fun b => decide (b < W.heap.size)) true ts vs ds ps
  | [], [], [], _, _, h => h
  | t :: ts, v :: vs, d :: ds, ps, hr, h => by
    have hlt := DataW.TrodAll.lt h
    obtain ⟨p, q, h1, h2, e⟩ := h
    simp only [List.all_cons, Bool.and_eq_true, decide_eq_true_eq] at hr
    exact ⟨p, q, Below.trod hl hr.1.1 hr.1.2 h1 hb (fun x hx => hlt x (by rw [e]; simp [hx])), trodAll_below hl hb hr.2 h2, e⟩
  | [], [], _ :: _, _, _, h => h.elim
  | [], _ :: _, _, _, _, h => by cases ‹List (DataW H)› <;> exact h.elim
  | _ :: _, [], _, _, _, h => by cases ‹List (DataW H)› <;> exact h.elim
  | _ :: _, _ :: _, [], _, _, h => h.elim
theorem trodAll_len {H : Type} {enc : TypeId × Value → H} {P : Program} {w : World} {base : Nat} {sp : Nat → Bool} {held : Bool} : ∀ {ts : List TypeId} {vs : List Value} {ds : List (DataW H)} {ps : List MemPlace}, DataW.TrodAll enc P w base sp held ts vs ds ps → ds.length = ts.length
  | [], [], [], _, _ => rfl
  | _ :: _, _ :: _, _ :: _, _, h => by
    obtain ⟨_, _, _, h2, _⟩ := h
    simp [trodAll_len h2]
  | [], [], _ :: _, _, h => h.elim
  | [], _ :: _, ds, _, h => by cases ds <;> exact h.elim
  | _ :: _, [], ds, _, h => by cases ds <;> exact h.elim
  | _ :: _, _ :: _, [], _, h => h.elim
/-- What a law's contract says of the call with these arguments. -/
def LawTrue (f : FuncId) (args : Array Value) (W : World) : Prop := Calls Tryd.prog f args W fun e w' => e = .returned (.bool true) ∧ Below W.heap.size W w'
theorem law_lift {f : FuncId} {fn : Func} {s : ChangeSpec} (hvars : s.vars = []) (hres : fn.resultTypes = #[4]) (hread : fn.params.toList.all (fun t => Tryd.prog.readableRec t && decide (t < Tryd.prog.types.size)) = true)
    (hs : ∀ (H : Type) (ds : List (DataW H)), ds.length = fn.params.size → s.fn H ds = { results := [.lit (.bool true)], args := ds }) (noInit : Tryd.checked.prog.inits.idxOf? f = none) (hfn : Tryd.prog.funcs[f]? = some fn)
    (os : Os) (started : os.Started) (H : Type) (enc : TypeId × Value → H) (wargs : Array Value) (fuel : Nat)
    (hok : Input.okWideB Tryd.prog ((World.doorLaid Tryd.prog 4000 os).forCall (fun _ _ => 0) ⟨#[], wargs, []⟩) f ⟨#[], wargs, []⟩ = true)
    (hpre : s.preB enc Tryd.prog fn [] false ((World.doorLaid Tryd.prog 4000 os).forCall (fun _ _ => 0) ⟨#[], wargs, []⟩).memory wargs fuel = true)
    (hsz : s.sizedB enc Tryd.prog fn false ((World.doorLaid Tryd.prog 4000 os).forCall (fun _ _ => 0) ⟨#[], wargs, []⟩).memory wargs fuel = true)
    (hsh : ((World.doorLaid Tryd.prog 4000 os).forCall (fun _ _ => 0) ⟨#[], wargs, []⟩).Shaped Tryd.prog)
    (hdoor : laidMetH Tryd.prog laidL ((World.doorLaid Tryd.prog 4000 os).forCall (fun _ _ => 0) ⟨#[], wargs, []⟩).memory)
    (hos : (World.doorLaid Tryd.prog 4000 os).os = os)
    (contract : ∀ (W : World) (base : Nat) (args : Array Value) (ds : List (DataW H)) (p : List MemPlace), (∀ (j : Nat) t v, fn.params[j]? = some t → args[j]? = some v → Value.okWide Tryd.prog W .any base t v) →
      DataW.TrodAll enc Tryd.prog W 0 (fun _ => true) true fn.params.toList args.toList ds p → Tabs W → LawTrue f args W) :
    ReturnsInHanded {} Tryd.checked os f .any (fun w args => (s.pre enc Tryd.prog fn [] false w args ∧ laidMetH Tryd.prog laidL w) ∧ sizedMet enc Tryd.prog fn (OpenSpec.ofChange s) false w args) (s.post enc Tryd.prog fn false true false false) := by
  refine returnsInHanded_of_change_and (C := Tryd.checked) (X := fun w _ => laidMetH Tryd.prog laidL w) (fun _ _ _ hh h => h.of_heap hh) own started noInit hfn
    (ChangeSpec.witness_shaped (enc := enc) (C := Tryd.checked) (os := os) (X := fun w _ => laidMetH Tryd.prog laidL w) false (World.doorLaid Tryd.prog 4000 os) wargs fuel hos hsh hok hpre hsz hdoor) ?_
  intro W base args ds gs before hval hW _ _ hL _
  have hW' := hW
  obtain ⟨p, q, hA, hV, rfl, _, _⟩ := hW
  rw [hvars] at hV
  obtain ⟨rfl, rfl⟩ := trodVars_none hV
  refine (contract W base args ds p hval hA (tabs_of hL)).mono fun e W' ⟨he, hb⟩ => ?_
  subst he
  have hsd := hs H ds (by rw [trodAll_len hA]; simp)
  refine ⟨_, rfl, ds, [], p ++ [], [], p, [], hW', ?_, ?_, ?_, hb.frame _, fun h => by cases h⟩
  · rw [List.append_nil, hsd, hres]; exact trodAll_cons_mk (shut_bool Tryd.underlying4 _) trodAll_mk0
  · rw [List.append_nil, hsd]; exact trodAll_below laidOut hb hread hA
  · rw [List.append_nil, hsd, hvars]; rfl

theorem byte_of {n : Int} (h : (Lit.int .u8 n).wf = true) : ∃ x : BitVec 8, n = (x.toNat : Int) := by
  have h2 := h
  simp [Lit.wf, IntKind.min, IntKind.max, IntKind.signed, IntKind.bits] at h2
  refine ⟨BitVec.ofNat 8 n.toNat, ?_⟩
  rw [BitVec.toNat_ofNat]
  omega
theorem bytes_of : ∀ (zs : List Int), (∀ n ∈ zs, (Lit.int .u8 n).wf = true) → ∃ l : List (BitVec 8), zs = l.map fun x => (x.toNat : Int)
  | [], _ => ⟨[], rfl⟩
  | z :: zs, h => by
    obtain ⟨x, hx⟩ := byte_of (h z (by simp))
    obtain ⟨l, hl⟩ := bytes_of zs (fun n hn => h n (by simp [hn]))
    exact ⟨x :: l, by simp [hx, hl]⟩
theorem cB : Tryd.prog.cellsOf 5 = 1 := by kernel_rfl
theorem cS : Tryd.prog.cellsOf 22 = 1 := by kernel_rfl
/-- A slice that came in is a slice of bytes. -/
theorem sl_of {w : World} {a : Addr} {len : Nat} (cap : Nat) {zs : List Int} (hl : len ≤ cap) (hz : len ≤ zs.length) (hcell : ∀ i, i < zs.length → w.cell? (a.add i) = some (.int .u8 (zs.getD i 0))) (hwz : ∀ n ∈ zs, (Lit.int .u8 n).wf = true) :
    ∃ l, Sl w (.slice (some a) len cap) l ∧ l.length = len := by
  obtain ⟨l, rfl⟩ := bytes_of zs hwz
  have hz' : len ≤ l.length := by simpa using hz
  have hlen : (l.take len).length = len := by simp; omega
  refine ⟨l.take len, ⟨some a, cap, by rw [hlen], by rw [hlen]; exact hl, fun hne => ?_⟩, hlen⟩
  have hp : 0 < len := by
    rcases Nat.eq_zero_or_pos len with h | h
    · subst h; simp at hne
    · exact h
  have h0 := hcell 0 (by simp; omega)
  obtain ⟨b, o, ln⟩ := a
  have hsp : ln = none := by simpa [Addr.add] using World.cell?_spot h0
  subst hsp
  refine ⟨b, o, rfl, ?_, fun i hi => ?_⟩
  · rw [Addr.add_mid] at h0
    exact block_lt_of_cell h0
  · rw [hlen] at hi
    have h1 := hcell i (by simp; omega)
    rw [Addr.add_mid] at h1
    rw [h1]
    simp [List.getD_eq_getElem?_getD, hi, show i < l.length by omega]
theorem sl_nil (w : World) (cap : Nat) : Sl w (.slice none 0 cap) [] := ⟨none, cap, rfl, by simp, fun h => absurd rfl h⟩
theorem open_sl {H : Type} {enc : TypeId × Value → H} {W : World} {base : Nat} {v : Value} {d : DataW H} {p : List MemPlace} (hval : Value.okWide Tryd.prog W .any base 22 v) (h : DataW.Trod enc Tryd.prog W 0 (fun _ => true) true 22 v d p) :
    ∃ l, Sl W v l ∧ l.length ≤ 9223372036854775807 := by
  obtain ⟨a0, len, cap, rfl⟩ := okWide_slice Tryd.underlying22 hval
  obtain ⟨fuel, hf⟩ := h
  rcases open_ints Tryd.underlying22 Tryd.underlying5 cB hf with ⟨hcs, _⟩ | ⟨a, len', cap', zs, hcs, _, hl, hm, hz, _, hcell, hwz⟩
  · simp [Value.cells] at hcs
    obtain ⟨rfl, rfl, rfl⟩ := hcs
    exact ⟨[], sl_nil _ _, by simp⟩
  · simp [Value.cells] at hcs
    obtain ⟨rfl, rfl, rfl⟩ := hcs
    simp only [if_true] at hz
    obtain ⟨l, h1, h2⟩ := sl_of cap hl (by rw [hz]; exact hl) hcell hwz
    refine ⟨l, h1, ?_⟩
    unfold maxLen at hm
    omega
theorem open_sls {H : Type} {enc : TypeId × Value → H} {W : World} {base : Nat} {v : Value} {d : DataW H} {p : List MemPlace} (hval : Value.okWide Tryd.prog W .any base 51 v) (h : DataW.Trod enc Tryd.prog W 0 (fun _ => true) true 51 v d p) :
    ∃ ps, Sls W v ps ∧ ps.length ≤ 9223372036854775807 ∧ ∀ i, i < ps.length → (ps.getD i []).length ≤ 9223372036854775807 := by
  obtain ⟨a0, len, cap, rfl⟩ := okWide_slice Tryd.underlying51 hval
  obtain ⟨fuel, hf⟩ := h
  rcases Deep.open_int_rows Tryd.underlying51 Tryd.underlying22 Tryd.underlying5 cS cB hf with ⟨hcs, _⟩ | ⟨a, len', cap', A, L, C, Z, hcs, _, hl, hm, _, hr⟩
  · simp [Value.cells] at hcs
    obtain ⟨rfl, rfl, rfl⟩ := hcs
    exact ⟨[], ⟨none, 0, rfl, by simp, fun h => absurd rfl h⟩, by simp, by simp⟩
  · simp [Value.cells] at hcs
    obtain ⟨rfl, rfl, rfl⟩ := hcs
    have each : ∀ r, r < cap → ∃ l, Sl W (.slice (A r) (L r) (C r)) l ∧ l.length = L r := fun r hr' => by
      obtain ⟨_, h1, h2, h3, h4, h5, h6⟩ := hr r hr'
      cases hA : A r with
      | none =>
        have := h5 hA
        have hL : L r = 0 := by omega
        rw [hL]
        exact ⟨[], sl_nil _ _, rfl⟩
      | some a' => exact sl_of (C r) h1 (by rw [h3]; exact h1) (fun i hi => (h6 a' hA).2 i (by rw [← h3]; exact hi)) h4
    obtain ⟨f, hff⟩ := Deep.choose_lt each
    have hlen : ((List.range len).map f).length = len := by simp
    have hget : ∀ i, i < len → ((List.range len).map f).getD i [] = f i := fun i hi => by simp [List.getD_eq_getElem?_getD, hi]
    unfold maxLen at hm
    refine ⟨(List.range len).map f, ⟨some a, cap, by rw [hlen], by rw [hlen]; exact hl, fun hne => ?_⟩, by rw [hlen]; omega, fun i hi => ?_⟩
    · have hp : 0 < len := by
        rcases Nat.eq_zero_or_pos len with h | h
        · subst h; simp at hne
        · exact h
      have h0 := (hr 0 (by omega)).1
      obtain ⟨b, o, ln⟩ := a
      have hsp : ln = none := by simpa [Addr.add] using World.cell?_spot h0
      subst hsp
      refine ⟨b, o, rfl, ?_, fun i hi => ?_⟩
      · rw [Addr.add_mid] at h0
        exact block_lt_of_cell h0
      · rw [hlen] at hi
        have h1 := (hr i (by omega)).1
        rw [Addr.add_mid] at h1
        exact ⟨_, h1, by rw [hget i hi]; exact (hff i (by omega)).1⟩
    · rw [hlen] at hi
      obtain ⟨_, h1, h2, _⟩ := hr i (by omega)
      unfold maxLen at h2
      rw [hget i hi, (hff i (by omega)).2]
      omega
end Sha
end Go.Proofs.YtngegegomkclbaaDoor
