/- What is the same in every law: a contract that says 'it returns true, and all that was there is as it was' gives the row's statement. -/
import Derived.Test.YteiffdccfmfdbaaRows
import Derived.Test.YteiffdccfmfdbaaKeep
import Derived.ProofKit
import Derived.LaidMore
import Derived.LaidHandle
import Derived.OpenShut
import Derived.Stop.Joined
import Derived.Lib.LaidTab
import Derived.MakeChecks
import Derived.SevenTiedAt
import Derived.Carry
import Derived.ChangeOld
import Derived.Deep.Matrix
import Derived.Deep.Strs
import Derived.Lib.SmallJoins
namespace Go.Proofs.Yteiffdccfmfdbaa
namespace Sha
open Go.ChangeShapes Go.WideShapes Go.ChangeAt Go.WideMaps Go.WideElems Go.RowKit Mem
theorem own : ownKnob Try.prog.godebug = none := by kernel_rfl
theorem laidOut : laidOutB Try.prog = true := by kernel_rfl
/-- The arguments read behind the call as they did before. -/
theorem trodAll_below {H : Type} {enc : TypeId × Value → H} {P : Program} (hl : laidOutB P = true) {W W' : World} (hb : Below W.heap.size W W') :
    ∀ {ts : List TypeId} {vs : List Value} {ds : List (DataW H)} {ps : List MemPlace}, ts.all (fun t => P.readableRec t && decide (t < P.types.size)) = true → DataW.TrodAll enc P W 0 (fun _ => true) true ts vs ds ps →
      DataW.TrodAll enc P W' 0 (fun b => decide (b < W.heap.size)) true ts vs ds ps
  | [], [], [], _, _, h => h
  | t :: ts, v :: vs, d :: ds, ps, hr, h => by
    have hlt := DataW.TrodAll.lt h
    obtain ⟨p, q, h1, h2, e⟩ := h
    simp only [List.all_cons, Bool.and_eq_true, decide_eq_true_eq] at hr
    exact ⟨p, q, Below.trod hl hr.1.1 hr.1.2 h1 hb (fun x hx => hlt x (by rw [e]; simp [hx])), trodAll_below hl hb hr.2 h2, e⟩
  | [], [], _ :: _, _, _, h => h.elim
  | [], _ :: _, _, _, _, h => by cases ‹List (DataW H)› <;> exact h.elim
  | _ :: _, [], _, _, _, h => by cases ‹List (DataW H)› <;> exact h.elim
  | _ :: _, _ :: _, [], _, _, h => h.elim
theorem trodAll_len {H : Type} {enc : TypeId × Value → H} {P : Program} {w : World} {base : Nat} {sp : Nat → Bool} {held : Bool} : ∀ {ts : List TypeId} {vs : List Value} {ds : List (DataW H)} {ps : List MemPlace}, DataW.TrodAll enc P w base sp held ts vs ds ps → ds.length = ts.length
  | [], [], [], _, _ => rfl
  | _ :: _, _ :: _, _ :: _, _, h => by
    obtain ⟨_, _, _, h2, _⟩ := h
    simp [trodAll_len h2]
  | [], [], _ :: _, _, h => h.elim
  | [], _ :: _, ds, _, h => by cases ds <;> exact h.elim
  | _ :: _, [], ds, _, h => by cases ds <;> exact h.elim
  | _ :: _, _ :: _, [], _, h => h.elim
/-- What a law's contract says of the call with these arguments. -/
def LawTrue (f : FuncId) (args : Array Value) (W : World) : Prop := Calls Try.prog f args W fun e w' => e = .returned (.bool true) ∧ Below W.heap.size W w'
set_option maxRecDepth 100000 in
theorem law_lift_of (laidL : List (String × DataW Unit)) (T : World → Prop) (tabsT : ∀ {W : World}, laidMetH Try.prog laidL W → T W) {f : FuncId} {fn : Func} {s : ChangeSpec} (hvars : s.vars = []) (hres : fn.resultTypes = #[4]) (hread : fn.params.toList.all (fun t => Try.prog.readableRec t && decide (t < Try.prog.types.size)) = true)
    (hs : ∀ (H : Type) (ds : List (DataW H)), ds.length = fn.params.size → s.fn H ds = { results := [.lit (.bool true)], args := ds }) (noInit : Try.checked.prog.inits.idxOf? f = none) (hfn : Try.prog.funcs[f]? = some fn)
    (os : Os) (started : os.Started) (H : Type) (enc : TypeId × Value → H) (wargs : Array Value) (fuel : Nat)
    (hok : Input.okWideB Try.prog ((World.doorLaid Try.prog 4000 os).forCall (fun _ _ => 0) ⟨#[], wargs, []⟩) f ⟨#[], wargs, []⟩ = true)
    (hpre : s.preB enc Try.prog fn [] false ((World.doorLaid Try.prog 4000 os).forCall (fun _ _ => 0) ⟨#[], wargs, []⟩).memory wargs fuel = true)
    (hsz : s.sizedB enc Try.prog fn false ((World.doorLaid Try.prog 4000 os).forCall (fun _ _ => 0) ⟨#[], wargs, []⟩).memory wargs fuel = true)
    (hsh : ((World.doorLaid Try.prog 4000 os).forCall (fun _ _ => 0) ⟨#[], wargs, []⟩).Shaped Try.prog)
    (hdoor : laidMetH Try.prog laidL ((World.doorLaid Try.prog 4000 os).forCall (fun _ _ => 0) ⟨#[], wargs, []⟩).memory)
    (hos : (World.doorLaid Try.prog 4000 os).os = os)
    (contract : ∀ (W : World) (base : Nat) (args : Array Value) (ds : List (DataW H)) (p : List MemPlace), (∀ (j : Nat) t v, fn.params[j]? = some t → args[j]? = some v → Value.okWide Try.prog W .any base t v) →
      DataW.TrodAll enc Try.prog W 0 (fun _ => true) true fn.params.toList args.toList ds p → T W → LawTrue f args W) :
    ReturnsInHanded {} Try.checked os f .any (fun w args => (s.pre enc Try.prog fn [] false w args ∧ laidMetH Try.prog laidL w) ∧ sizedMet enc Try.prog fn (OpenSpec.ofChange s) false w args) (s.post enc Try.prog fn false true false false) := by
  refine returnsInHanded_of_change_and (C := Try.checked) (X := fun w _ => laidMetH Try.prog laidL w) (fun _ _ _ hh h => h.of_heap hh) own started noInit hfn
    (ChangeSpec.witness_shaped (enc := enc) (C := Try.checked) (os := os) (X := fun w _ => laidMetH Try.prog laidL w) false (World.doorLaid Try.prog 4000 os) wargs fuel hos hsh hok hpre hsz hdoor) ?_
  intro W base args ds gs before hval hW _ _ hL _
  have hW' := hW
  obtain ⟨p, q, hA, hV, rfl, _, _⟩ := hW
  rw [hvars] at hV
  obtain ⟨rfl, rfl⟩ := trodVars_none hV
  refine (contract W base args ds p hval hA (tabsT hL)).mono fun e W' ⟨he, hb⟩ => ?_
  subst he
  have hsd := hs H ds (by rw [trodAll_len hA]; simp)
  refine ⟨_, rfl, ds, [], p ++ [], [], p, [], hW', ?_, ?_, ?_, hb.frame _, fun h => by cases h⟩
  · rw [List.append_nil, hsd, hres]; exact trodAll_cons_mk (shut_bool Try.underlying4 _) trodAll_mk0
  · rw [List.append_nil, hsd]; exact trodAll_below laidOut hb hread hA
  · rw [List.append_nil, hsd, hvars]; rfl
end Sha
end Go.Proofs.Yteiffdccfmfdbaa
