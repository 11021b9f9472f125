/- append of bytes 0, so many, onto the call's own slice of bytes. -/
import Derived.Test.YtmnhpochojplgaaDoorBytes
import Derived.Lib.AppendZeros
namespace Go.Proofs.YtmnhpochojplgaaDoor
namespace Sha
open Go.RowKit Mem

theorem zeroCells_bytes (n : Nat) : (Builtin.zeroCells #[Value.int .u8 0] n).toList = List.replicate n (Value.int .u8 0) := by
  apply List.ext_getElem?
  intro i
  simp [Builtin.zeroCells]
  by_cases h : i < n
  · simp [h, Nat.mod_one]
  · simp [h]
theorem u8s_zeros (l : List (BitVec 8)) (n : Nat) : u8s (l ++ List.replicate n 0) = u8s l ++ List.replicate n (Value.int .u8 0) := by
  unfold u8s
  rw [List.map_append, List.map_replicate]; rfl
theorem run_append_zeros {w : World} {B : Nat} {v : Value} {l : List (BitVec 8)} (hown : OwnB w B v l) (n : Nat) (hlen : l.length + n ≤ 1099511627776) (hB : B ≤ w.heap.size) (ty : TypeId) :
    ∃ v' w', (Builtin.append_ #[22, 3] ty #[v, .int .i64 (n : Int)]).run Tryd.prog w = .ok v' w' ∧ OwnB w' B v' (l ++ List.replicate n 0) ∧ w.grownBy w' v.ownBlock := by
  obtain ⟨i0, hi, hz0, hz1, hz2⟩ := info_parts infoU8
  have hw : IntKind.i64.wrap (n : Int) = n := by rw [IntKind.wrap_i64]; omega
  have h48i : ¬ (281474976710656 < (n : Int)) := by omega
  have hneg : ¬ ((n : Int) < 0) := by omega
  have hmlt : 1099511627776 ≤ maxLen := by simp [maxLen]
  have hll : (u8s (l ++ List.replicate n 0)).length = l.length + n := by rw [u8s_length, List.length_append, List.length_replicate]
  have hlr : (l ++ List.replicate n (0 : BitVec 8)).length = l.length + n := by rw [List.length_append, List.length_replicate]
  -- what a new row is
  have grown : ∀ (old : Nat) (row : Option Nat), old < l.length + n →
      OwnB (w.drew.alloc (.cells (((u8s l).toArray ++ Builtin.zeroCells #[Value.int .u8 0] n) ++ Builtin.zeroCells #[Value.int .u8 0] (grownCap w (l.length + n) old 5 - (l.length + n))) 5)) B (.slice (some ⟨w.heap.size, 0, none⟩) (l.length + n) (grownCap w (l.length + n) old 5)) (l ++ List.replicate n 0) ∧
      w.grownBy (w.drew.alloc (.cells (((u8s l).toArray ++ Builtin.zeroCells #[Value.int .u8 0] n) ++ Builtin.zeroCells #[Value.int .u8 0] (grownCap w (l.length + n) old 5 - (l.length + n))) 5)) row := by
    intro old row ho
    have hge := grownCap_ge w (l.length + n) old 5
    have hcm := grownCap_le_maxLen w (l.length + n) old 5 (by omega)
    refine ⟨?_, ⟨rfl, rfl, rfl, by simp, fun k hk _ => Below.heap_alloc w.drew _ k hk⟩⟩
    unfold OwnB
    rw [hlr]
    refine ⟨by rw [hll, Nat.mul_one], .inr ⟨w.heap.size, _, _, rfl, hB, heap_alloc_new w.drew _, hge, hcm, ?_, ?_⟩⟩
    · simp only [Array.size_append, List.size_toArray, u8s_length, size_zeroCells, Nat.mul_one]
      simp; omega
    · simp only [Array.toList_append, zeroCells_bytes]
      rw [← u8s_zeros, Nat.mul_one, ← hll]
      exact List.take_left
  by_cases hn : n = 0
  · subst hn
    refine ⟨v, w, ?_, by simpa using hown, World.grownBy.refl w _⟩
    rcases hown.2 with ⟨rfl, h0⟩ | ⟨g, cap, cur, rfl, hbg, hg, hnc, hcm, hcs, htake⟩
    · simp [Builtin.append_, run_underlying Tryd.underlying22, run_underlying Tryd.underlying3, sizeOf, typeInfo, hi, hz2, asInt, asIntOf, IntKind.wrap_i64]
    · simp [Builtin.append_, run_underlying Tryd.underlying22, run_underlying Tryd.underlying3, sizeOf, typeInfo, hi, hz2, asInt, asIntOf, IntKind.wrap_i64, hnc, storeCells]
  rcases hown.2 with ⟨rfl, h0⟩ | ⟨g, cap, cur, rfl, hbg, hg, hnc, hcm, hcs, htake⟩
  · have hl0 : l = [] := List.eq_nil_of_length_eq_zero h0
    subst hl0
    have hr := Lib.run_append_nil_zeros (P := Tryd.prog) w 22 3 ty 5 i0 (.int .u8 0) .i64 .i64 Tryd.underlying22 Tryd.underlying3 hi hz0 n (by omega) (by omega) (by omega) (by rw [hz2]; omega)
    have hgr := grown 0 (Value.ownBlock (.slice none 0 0)) (by simp; omega)
    simp only [List.length_nil, Nat.zero_add, u8s, List.map_nil, Array.empty_append] at hgr
    exact ⟨_, _, hr, hgr.1, hgr.2⟩
  · by_cases hroom : l.length + n ≤ cap
    · have hfit : l.length + 0 + (List.replicate n (Value.int .u8 0)).length ≤ cur.size := by rw [List.length_replicate, hcs]; omega
      have hst := run_storeCells_at Tryd.prog g l.length 5 (List.replicate n (Value.int .u8 0)) 0 cur w hg hfit (fun v hv => by rw [(List.mem_replicate.1 hv).2]; rfl)
      simp only [Nat.add_zero, List.length_replicate] at hst
      have hzc : (Builtin.zeroCells (Value.int .u8 0).cells n).toList = List.replicate n (Value.int .u8 0) := zeroCells_bytes n
      have hr : (Builtin.append_ #[22, 3] ty #[.slice (some ⟨g, 0, none⟩) l.length cap, .int .i64 (n : Int)]).run Tryd.prog w = .ok (.slice (some ⟨g, 0, none⟩) (l.length + n) cap) (w.setRow g (cur.toList.take l.length ++ List.replicate n (Value.int .u8 0) ++ cur.toList.drop (l.length + n)).toArray) := by
        simp [Builtin.append_, run_underlying Tryd.underlying22, run_underlying Tryd.underlying3, sizeOf, typeInfo, zeroValue, hi, hz0, hz1, hz2, asInt, asIntOf, hw, hn, hneg, h48i, hroom, hzc, Addr.add_lit, hst]
      refine ⟨_, _, hr, ?_, ⟨rfl, rfl, rfl, by simp, fun k _ hk => setRow_other w g k _ (fun e => hk (by simp [Value.ownBlock, e]))⟩⟩
      unfold OwnB
      rw [hlr]
      refine ⟨by rw [hll, Nat.mul_one], .inr ⟨g, cap, _, rfl, hbg, setRow_heap w g cur _ _ _ hg, hroom, hcm, ?_, ?_⟩⟩
      · simp only [List.size_toArray, List.length_append, List.length_take, List.length_drop, List.length_replicate, Array.length_toList]
        omega
      · rw [Nat.mul_one] at htake
        rw [htake, ← u8s_zeros, Nat.mul_one, ← hll]
        exact List.take_left
    · have hgr := grown cap (Value.ownBlock (.slice (some ⟨g, 0, none⟩) l.length cap)) (by omega)
      have hcells : ∀ j u, (u8s l)[j]? = some u → w.drew.cell? ((⟨g, 0, none⟩ : Addr).add j) = some u := World.ownsRow.cells (w := w) hown (g := g) rfl
      have hfo := run_firstCells_some (P := Tryd.prog) w.drew 1 l.length ⟨g, 0, none⟩ l.length cap (u8s l) (by rw [u8s_length, Nat.mul_one]) hcells
      have h63' : ¬ (9223372036854775807 < ((l.length : Int) + (n : Int))) := by omega
      have h48' : ¬ (281474976710656 < Builtin.nextslicecap (l.length + n) cap) := by
        have := growslice_fits (need := l.length + n) (old := cap) (bytes := 1) (by omega) (by omega)
        omega
      have hzc : (Value.int .u8 0).cells = #[Value.int .u8 0] := rfl
      have hr : (Builtin.append_ #[22, 3] ty #[.slice (some ⟨g, 0, none⟩) l.length cap, .int .i64 (n : Int)]).run Tryd.prog w = .ok (.slice (some ⟨w.heap.size, 0, none⟩) (l.length + n) (grownCap w (l.length + n) cap 5))
          (w.drew.alloc (.cells (((u8s l).toArray ++ Builtin.zeroCells #[Value.int .u8 0] n) ++ Builtin.zeroCells #[Value.int .u8 0] (grownCap w (l.length + n) cap 5 - (l.length + n))) 5)) := by
        simp [Builtin.append_, run_underlying Tryd.underlying22, run_underlying Tryd.underlying3, sizeOf, typeInfo, zeroValue, hi, hz0, hz1, hz2, asInt, asIntOf, hw, hn, hneg, h48i, hroom, hzc, h63', h48', Question.forced, hfo, newRow, grownCap]
      exact ⟨_, _, hr, hgr.1, hgr.2⟩
theorem wpList_append_zeros {w : World} {ops : Array Oper} {rest : List Oper} {o : Oper} {a : Act} {Q : Exit → Act → World → Prop} (hgd : o.guard = none) (s x : Operand)
    (ho : o.op = .call { callee := .builtin .append, args := #[s, x], argTypes := #[22, 3] }) (B : Nat) (v : Value) (l : List (BitVec 8)) (n : Nat)
    (hs : a.eval s = v) (hown : OwnB w B v l) (hx : a.eval x = .int .i64 (n : Int)) (hlen : l.length + n ≤ 1099511627776) (hB : B ≤ w.heap.size)
    (h : ∀ v' w', OwnB w' B v' (l ++ List.replicate n 0) → (∀ k, k < w.heap.size → v.ownBlock ≠ some k → w'.heap[k]? = w.heap[k]?) → Below B w w' → wpList Tryd.prog ops Q rest (a.put o.dst v') w') : wpList Tryd.prog ops Q (o :: rest) a w := by
  refine wpList_plain hgd fun K hK => ?_
  obtain ⟨v', w', hrun, h2, h3⟩ := run_append_zeros hown n hlen hB o.type
  unfold Oper.wp execOp
  simp only [ho, resolve, invoke, builtin, Sem.run_bind, Sem.run_pure, Result.andThen_ok, List.map_toArray, List.map_cons, List.map_nil, hs, hx, hrun]
  exact hK _ _ (h v' w' h2 (fun k hk hne => h3.block k hk (fun e => hne e.symm)) ((Below.refl _ _).grown h3 hB (fun g hg => (hown.lt g hg).1)))
end Sha
end Go.Proofs.YtmnhpochojplgaaDoor
