/- What layer 5's laws ask of arguments that came in: two numbers, a byte, numbers. -/
import Derived.Test.YtoefhcikfmgkbaaLift0
import Derived.Test.YtoefhcikfmgkbaaOpenK
import Derived.Test.YtoefhcikfmgkbaaPackOpen
namespace Go.Proofs.Ytoefhcikfmgkbaa
namespace Sha
open Go.ChangeShapes Go.WideShapes Go.ChangeAt Go.WideMaps Go.WideElems Go.RowKit Mem
theorem open_2n {H : Type} {enc : TypeId × Value → H} {W : World} {base : Nat} {v : Value} {d : DataW H} {p : List MemPlace} (hval : Value.okWide Try.prog W .any base 24 v) (h : DataW.Trod enc Try.prog W 0 (fun _ => true) true 24 v d p) :
    ∃ m n : Nat, v = .agg #[.int .u64 (m : Int), .int .u64 (n : Int)] ∧ m < 18446744073709551616 ∧ n < 18446744073709551616 := by
  obtain ⟨cs, rfl, hs, he⟩ := open_ints_row Try.underlying24 Try.underlying23 (by kernel_rfl) (by kernel_rfl) hval h
  obtain ⟨a, ha, wa⟩ := he 0 (by decide)
  obtain ⟨b, hb, wb⟩ := he 1 (by decide)
  simp [Lit.wf, IntKind.min, IntKind.max, IntKind.signed, IntKind.bits] at wa wb
  refine ⟨a.toNat, b.toNat, ?_, by omega, by omega⟩
  have g0 : ((a.toNat : Nat) : Int) = a := by omega
  have g1 : ((b.toNat : Nat) : Int) = b := by omega
  rw [g0, g1]
  congr 1
  apply Array.ext_getElem?
  intro i
  match i with
  | 0 => rw [ha]; rfl
  | 1 => rw [hb]; rfl
  | i + 2 => rw [Array.getElem?_eq_none (by omega), Array.getElem?_eq_none (by simp)]
theorem open_byteN {H : Type} {enc : TypeId × Value → H} {W : World} {base : Nat} {v : Value} {d : DataW H} {p : List MemPlace} (hval : Value.okWide Try.prog W .any base 5 v) (h : DataW.Trod enc Try.prog W 0 (fun _ => true) true 5 v d p) :
    ∃ n : Nat, v = .int .u8 (n : Int) ∧ n ≤ 255 := by
  obtain ⟨c, rfl, _, _, wc⟩ := open_int Try.underlying5 hval h
  simp [Lit.wf, IntKind.min, IntKind.max, IntKind.signed, IntKind.bits] at wc
  exact ⟨c.toNat, by congr 1; omega, by omega⟩
theorem open_nats {H : Type} {enc : TypeId × Value → H} {W : World} {base : Nat} {v : Value} {d : DataW H} {p : List MemPlace} (hval : Value.okWide Try.prog W .any base 50 v) (h : DataW.Trod enc Try.prog W 0 (fun _ => true) true 50 v d p) :
    ∃ ns : List Nat, SlK W .u64 v (ns.map (fun (x : Nat) => (x : Int))) ∧ ns.length ≤ 9223372036854775807 ∧ ∀ x ∈ ns, x < 18446744073709551616 := by
  obtain ⟨l, hl, ll, hw⟩ := open_slK Try.underlying50 Try.underlying23 (by kernel_rfl) hval h
  obtain ⟨ns, rfl, h2⟩ := nats_of l hw
  exact ⟨ns, hl, by simpa using ll, h2⟩
end Sha
end Go.Proofs.Ytoefhcikfmgkbaa
