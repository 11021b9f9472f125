/- A map of ints with 1 behind each of the first so many numbers: made, looked up, counted up. -/
import Derived.Test.YtbboljmemomcnaaMapB
import Derived.Test.YtbboljmemomcnaaSlI
namespace Go.Proofs.Ytbboljmemomcnaa
namespace Sha
open Go.RowKit Mem
def RL (n : Nat) : List Int := (List.range n).map fun (x : Nat) => (x : Int)
theorem mem_RL (n x : Nat) : (x : Int) ∈ RL n ↔ x < n := by
  unfold RL
  rw [List.mem_map]
  constructor
  · rintro ⟨y, hy, e⟩
    have := List.mem_range.1 hy
    omega
  · intro h
    exact ⟨x, List.mem_range.2 h, rfl⟩
theorem mem_RLz (n : Nat) (z : Int) : z ∈ (n : Int) :: RL n ↔ z ∈ RL (n + 1) := by
  unfold RL
  rw [List.range_succ, List.map_append]
  simp [or_comm]
abbrev OneM (w : World) (b : Nat) (n : Nat) : Prop := SetM w Try.prog 3 (plainElem Try.prog 3) (.lit (.int .i64 1)) (fun x : Int => (Lit.int .i64 x).wf = true) (fun x => .int .i64 x) b (RL n)
theorem oneM_made (w : World) : OneM (w.alloc (.map #[] 0)) w.heap.size 0 := setM_made w _ _ _ _ _ _
theorem int_wf (x : Nat) (h : x ≤ 1000) : (Lit.int .i64 (x : Int)).wf = true := by
  simp [Lit.wf, IntKind.min, IntKind.max, IntKind.signed, IntKind.bits]
  omega
theorem keyTy_i : KeyTy Try.prog 3 (fun x : Int => (Lit.int .i64 x).wf = true) (fun x => .int .i64 x) (fun x => .int .i64 x) := keyTy_int Try.underlying3
theorem OneM.look {w : World} {b n x : Nat} (h : OneM w b n) (hx : x ≤ 1000) (v : Int) (hv : v = if x < n then 1 else 0) : (Instr.lookup 42 (.map (some b)) (.int .i64 (x : Int)) false).run Try.prog w = .ok (.int .i64 v) w := by
  obtain ⟨m, D, ho, _, hr⟩ := h
  have hw := int_wf x hx
  have hz : (zeroValue 3).run Try.prog w = .ok (.int .i64 0) w := by kernel_rfl
  obtain ⟨c, hrun, hat, _⟩ := ho.lookup_int keyTy_i.keyed Try.underlying42 Try.underlying3 hz (keyTy_i.read (x : Int) hw)
  rw [(hr (x : Int) hw).2] at hat
  rw [hrun, hv]
  by_cases hm : x < n
  · rw [if_pos ((mem_RL n x).2 hm)] at hat
    rw [if_pos hm]
    injection hat with hat
    injection hat with _ hat
    rw [hat]
  · rw [if_neg (fun e => hm ((mem_RL n x).1 e))] at hat
    rw [if_neg hm]
    injection hat with hat
    injection hat with _ hat
    rw [hat]
section
variable {ops : Array Oper} {rest : List Oper} {o : Oper} {a : Act} {w : World} {Q : Exit → Act → World → Prop}
theorem wpList_one_look (hw : Region.wanted o (yielded ops a.tmps) = true) (m x : Operand) (hop : o.op = .lookup 42 m x false) (b n c : Nat) (hm : a.eval m = .map (some b)) (hx : a.eval x = .int .i64 (c : Int)) (hs : OneM w b n) (hc : c ≤ 1000) (v : Int) (hv : v = if c < n then 1 else 0)
    (h : wpList Try.prog ops Q rest (a.put o.dst (.int .i64 v)) w) : wpList Try.prog ops Q (o :: rest) a w := by
  unfold wpList
  rw [if_pos hw]
  left
  unfold Oper.wp
  have : (execOp a.eval o).run Try.prog w = .ok (.value (.int .i64 v)) w := by
    simp [execOp, hop, hm, hx, hs.look hc v hv, Result.andThen]
  rw [this]
  exact h
theorem wpList_one_put (hw : Region.wanted o (yielded ops a.tmps) = true) (m x y : Operand) (hop : o.op = .mapUpdate 42 m x y) (b n : Nat) (hm : a.eval m = .map (some b)) (hx : a.eval x = .int .i64 (n : Int)) (hy : a.eval y = .int .i64 1) (hs : OneM w b n) (hc : n ≤ 1000)
    (h : ∀ w', OneM w' b (n + 1) → Chg (fun x => x = b) w w' → w'.heap.size = w.heap.size → wpList Try.prog ops Q rest (a.put o.dst undef) w') : wpList Try.prog ops Q (o :: rest) a w := by
  have hl : (RL n).length < maxLen := by unfold RL; simp [maxLen]; omega
  refine wpList_set_put (val := fun x : Int => .int .i64 x) hw 42 m x y hop 3 b (n : Int) (.int .i64 1) (plainElem Try.prog 3) (.lit (.int .i64 1)) [] hm hx hy (plainElem_int Try.underlying3 (by decide)) hs keyTy_i Try.underlying42 hl (int_wf n hc) ?_
  intro w' h1 h2 h3
  exact h w' (h1.alike (mem_RLz n) (by unfold RL; simp)) h2 h3
end
theorem OneM.cell {w : World} {b n : Nat} (h : OneM w b n) (o : Nat) : w.cell? ⟨b, o, none⟩ = none := by
  obtain ⟨m, D, ⟨es, clock, h1, _⟩, _⟩ := h
  simp [World.cell?, h1]
/-- A slice of ints that is not empty lies in no map. -/
theorem SlI.chg {w w' : World} {v : Value} {l : List Int} {b n : Nat} (h : SlI w v l) (hm : OneM w b n) (hc : Chg (fun x => x = b) w w') : SlI w' v l := by
  obtain ⟨a, cap, e, hcap, hr⟩ := h
  refine ⟨a, cap, e, hcap, fun hne => ?_⟩
  obtain ⟨g, o, ea, hlt, hcell⟩ := hr hne
  have hl : 0 < l.length := List.length_pos_iff.2 hne
  have hgb : g ≠ b := fun e => by
    subst e
    have h1 := hcell 0 hl
    rw [hm.cell] at h1
    cases h1
  exact ⟨g, o, ea, Nat.lt_of_lt_of_le hlt hc.size, fun i hi => (World.cell?_of_block (a := ⟨g, o + i, none⟩) (hc.block g hlt hgb)).trans (hcell i hi)⟩
end Sha
end Go.Proofs.Ytbboljmemomcnaa
