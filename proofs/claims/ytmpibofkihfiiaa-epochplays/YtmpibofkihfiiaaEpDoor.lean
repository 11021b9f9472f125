/- What layer 8's laws ask of arguments that came in: a number of 32 bits, a byte, an int. -/
import Derived.Test.YtmpibofkihfiiaaLift0
import Derived.Test.YtmpibofkihfiiaaEpOpen
namespace Go.Proofs.Ytmpibofkihfiiaa
namespace Sha
open Go.ChangeShapes Go.WideShapes Go.ChangeAt Go.WideMaps Go.WideElems Go.RowKit Mem
theorem open_u32 {H : Type} {enc : TypeId × Value → H} {W : World} {base : Nat} {v : Value} {d : DataW H} {p : List MemPlace} (hval : Value.okWide Try.prog W .any base 22 v) (h : DataW.Trod enc Try.prog W 0 (fun _ => true) true 22 v d p) :
    ∃ z : Int, v = .int .u32 z ∧ 0 ≤ z ∧ z ≤ 4294967295 := by
  obtain ⟨c, rfl, _, _, wc⟩ := open_int Try.underlying22 hval h
  simp [Lit.wf, IntKind.min, IntKind.max, IntKind.signed, IntKind.bits] at wc
  exact ⟨c, rfl, by omega, by omega⟩
theorem open_u8 {H : Type} {enc : TypeId × Value → H} {W : World} {base : Nat} {v : Value} {d : DataW H} {p : List MemPlace} (hval : Value.okWide Try.prog W .any base 5 v) (h : DataW.Trod enc Try.prog W 0 (fun _ => true) true 5 v d p) :
    ∃ x : BitVec 8, v = .int .u8 (x.toNat : Int) := by
  obtain ⟨c, rfl, _, _, wc⟩ := open_int Try.underlying5 hval h
  simp [Lit.wf, IntKind.min, IntKind.max, IntKind.signed, IntKind.bits] at wc
  refine ⟨BitVec.ofNat 8 c.toNat, ?_⟩
  rw [BitVec.toNat_ofNat]
  congr 1
  omega
theorem open_iw {H : Type} {enc : TypeId × Value → H} {W : World} {base : Nat} {v : Value} {d : DataW H} {p : List MemPlace} (hval : Value.okWide Try.prog W .any base 3 v) (h : DataW.Trod enc Try.prog W 0 (fun _ => true) true 3 v d p) :
    ∃ z : Int, v = .int .i64 z ∧ (Lit.int .i64 z).wf = true := by
  obtain ⟨c, rfl, _, _, wc⟩ := open_int Try.underlying3 hval h
  exact ⟨c, rfl, wc⟩
end Sha
end Go.Proofs.Ytmpibofkihfiiaa
