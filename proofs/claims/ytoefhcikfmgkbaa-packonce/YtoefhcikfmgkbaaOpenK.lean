/- A slice of whole numbers that came in. -/
import Derived.Test.YtoefhcikfmgkbaaLaw0
import Derived.Test.YtoefhcikfmgkbaaSlK
namespace Go.Proofs.Ytoefhcikfmgkbaa
namespace Sha
open Go.ChangeShapes Go.WideShapes Go.ChangeAt Go.WideMaps Go.WideElems Go.RowKit Mem
theorem open_slK {H : Type} {enc : TypeId × Value → H} {W : World} {base : Nat} {t e : TypeId} {k : IntKind} {v : Value} {d : DataW H} {p : List MemPlace} (hu : Try.prog.underlying t = some (.slice e)) (he : Try.prog.underlying e = some (.int k)) (hce : Try.prog.cellsOf e = 1)
    (hval : Value.okWide Try.prog W .any base t v) (h : DataW.Trod enc Try.prog W 0 (fun _ => true) true t v d p) :
    ∃ l, SlK W k v l ∧ l.length ≤ 9223372036854775807 ∧ ∀ n ∈ l, (Lit.int k n).wf = true := by
  obtain ⟨a0, len, cap, rfl⟩ := okWide_slice hu hval
  obtain ⟨fuel, hf⟩ := h
  rcases open_ints hu he hce hf with ⟨hcs, _⟩ | ⟨a, len', cap', zs, hcs, _, hl, hm, hz, _, hcell, hwz⟩
  · simp [Value.cells] at hcs
    obtain ⟨rfl, rfl, rfl⟩ := hcs
    exact ⟨[], slK_nil _ _ _, by simp, by simp⟩
  · simp [Value.cells] at hcs
    obtain ⟨rfl, rfl, rfl⟩ := hcs
    simp only [if_true] at hz
    refine ⟨zs.take len, slK_of cap hl (by rw [hz]; exact hl) hcell, ?_, fun n hn => hwz n (List.mem_of_mem_take hn)⟩
    rw [List.length_take]
    unfold maxLen at hm
    omega
theorem nats_of : ∀ (zs : List Int), (∀ n ∈ zs, (Lit.int .u64 n).wf = true) → ∃ ns : List Nat, zs = ns.map (fun (x : Nat) => (x : Int)) ∧ ∀ x ∈ ns, x < 18446744073709551616
  | [], _ => ⟨[], rfl, by simp⟩
  | z :: zs, h => by
    obtain ⟨ns, h1, h2⟩ := nats_of zs (fun n hn => h n (List.mem_cons_of_mem _ hn))
    have hz := h z List.mem_cons_self
    simp [Lit.wf, IntKind.min, IntKind.max, IntKind.signed, IntKind.bits] at hz
    have hz1 : z = (z.toNat : Int) := by omega
    refine ⟨z.toNat :: ns, by rw [List.map_cons, ← hz1, h1], fun x hx => ?_⟩
    rcases List.mem_cons.1 hx with h | h
    · omega
    · exact h2 x h
end Sha
end Go.Proofs.Ytoefhcikfmgkbaa
