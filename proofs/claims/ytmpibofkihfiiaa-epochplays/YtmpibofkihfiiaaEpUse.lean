/- A use (an epoch and a block) as a map's key; the map of uses that a law keeps. -/
import Derived.Test.YtmpibofkihfiiaaMapB
import Derived.Test.YtmpibofkihfiiaaRows
import Derived.DeepKeys5
namespace Go.Proofs.Ytmpibofkihfiiaa
namespace Sha
open Go.RowKit Mem
theorem lay_out : laidOutB Try.prog = true := by kernel_rfl
theorem use_row : (43 : TypeId) < Try.prog.types.size := of_decide_eq_true (by kernel_rfl)
theorem use_keyed : Maps.Keyed Try.prog 43 := Maps.Keyed.of_law (deep_law_laid lay_out (m := 2) (by omega) use_row (by kernel_rfl) (by kernel_rfl))
theorem use_keyType : Try.prog.keyType 43 = true := by kernel_rfl
theorem use_cells : Try.prog.cellsOf 43 = 2 := by kernel_rfl
theorem u32_cells : Try.prog.cellsOf 22 = 1 := by kernel_rfl
theorem int_cells : Try.prog.cellsOf 3 = 1 := by kernel_rfl
/-- An epoch and a block. -/
abbrev EU := Int × Int
def euC (p : EU) : Array Value := #[.int .u32 p.1, .int .i64 p.2]
def euV (p : EU) : Value := .agg (euC p)
def EUok (p : EU) : Prop := (Lit.int .u32 p.1).wf = true ∧ (Lit.int .i64 p.2).wf = true
def euL (p : EU) : Lit := .string (keyBytes [.int .u32 p.1, .int .i64 p.2])
theorem eu_read (p : EU) (h : EUok p) : keyOf Try.prog 43 (euV p) = some (euL p) := by
  obtain ⟨n, hn⟩ : ∃ n, Try.prog.types.size = n + 1 := Nat.exists_eq_succ_of_ne_zero (Nat.ne_of_gt (Nat.lt_of_le_of_lt (Nat.zero_le _) use_row))
  have hf : (euV p).formed Try.prog 43 = true := by simp [Value.formed, euV, euC, Try.underlying43, use_cells]
  have h1 := h.1
  have h2 := h.2
  unfold keyOf
  rw [Try.underlying43]
  simp only [use_keyType, hf, Bool.and_self, if_true]
  rw [hn]
  simp [Program.keyLits, Try.underlying43, Try.underlying22, Try.underlying3, use_cells, u32_cells, int_cells, euV, euC, Value.cells, h1, h2, euL]
theorem keyTy_use : KeyTy Try.prog 43 EUok euV euL where
  keyed := use_keyed
  read := eu_read
  one a b _ _ h := by
    simp only [euV, euC, Value.agg.injEq, Array.mk.injEq, List.cons.injEq, Value.int.injEq, true_and, and_true] at h
    exact Prod.ext h.1 h.2
/-- A block as a key. -/
theorem keyTy_blk : KeyTy Try.prog 3 (fun x : Int => (Lit.int .i64 x).wf = true) (fun x => .int .i64 x) (fun x => .int .i64 x) := keyTy_int Try.underlying3
end Sha
end Go.Proofs.Ytmpibofkihfiiaa
