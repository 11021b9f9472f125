/- Two structs compared, field by field. Over any program. -/
import Derived.Test.YtmpibofkihfiiaaEqInts
namespace Go.Proofs.Ytmpibofkihfiiaa
namespace Mem
open Go.RowKit
/-- The fields: is it compared, its type, its place. -/
def eqParts (d : Nat) (xs ys : Array Value) : List (Bool × TypeId × Nat) → Sem Bool
  | [] => pure true
  | (true, t, o) :: l => do
    let a ← part t xs o
    let b ← part t ys o
    let r ← Op.equalIn d t a b
    if (!r) = true then pure false else eqParts d xs ys l
  | (false, _, _) :: l => eqParts d xs ys l
theorem eqFields_parts (d : Nat) (xs ys : Array Value) : ∀ fs : List Field, Op.eqFields d xs ys fs = eqParts d xs ys (fs.map fun f => (decide (f.name ≠ "_"), f.type, f.offset))
  | [] => rfl
  | f :: fs => by
    rw [List.map_cons, Op.eqFields, eqFields_parts d xs ys fs]
    by_cases h : f.name ≠ "_"
    · rw [if_pos h, decide_eq_true h, eqParts]
    · rw [if_neg h, decide_eq_false h, eqParts]
theorem eqParts_cons {P : Program} {w : World} {d : Nat} {xs ys : Array Value} {t : TypeId} {o : Nat} {l : List (Bool × TypeId × Nat)} {a b : Value} {r s : Bool} (ha : (part t xs o).run P w = .ok a w) (hb : (part t ys o).run P w = .ok b w) (hr : (Op.equalIn d t a b).run P w = .ok r w) (hl : (eqParts d xs ys l).run P w = .ok s w) :
    (eqParts d xs ys ((true, t, o) :: l)).run P w = .ok (r && s) w := by
  rw [eqParts, Sem.run_bind, ha, Result.andThen_ok, Sem.run_bind, hb, Result.andThen_ok, Sem.run_bind, hr, Result.andThen_ok]
  cases r
  · simp
  · simpa using hl
theorem run_part_int {P : Program} (w : World) (t : TypeId) (k : IntKind) (hu : P.underlying t = some (.int k)) (xs : Array Value) (o : Nat) (v : Value) (h : xs[o]? = some v) : (part t xs o).run P w = .ok v w := by
  simp [part, isAgg, run_underlying hu, h]
theorem run_part_arr {P : Program} (w : World) (t e : TypeId) (n m : Nat) (hu : P.underlying t = some (.array n e)) (hs : (P.info? t).map (·.size) = some m) (xs : Array Value) (o : Nat) (R : Array Value) (h : xs.extract o (o + m) = R) : (part t xs o).run P w = .ok (.agg R) w := by
  cases hq : P.info? t with
  | none => simp [hq] at hs
  | some q =>
    have hm : q.size = m := by simpa [hq] using hs
    simp [part, isAgg, run_underlying hu, sizeOf, typeInfo, hq, hm, h]
end Mem
end Go.Proofs.Ytmpibofkihfiiaa
