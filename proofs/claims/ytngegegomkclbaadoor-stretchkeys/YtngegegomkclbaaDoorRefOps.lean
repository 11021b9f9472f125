/- In a plan: the operations on words of 32 bits, the words as bit vectors; and on small whole numbers. Over any program. -/
import Derived.Test.YtngegegomkclbaaDoorRefPlan
import Derived.Test.YtngegegomkclbaaDoorRefMath
namespace Go.Proofs.YtngegegomkclbaaDoor
namespace Sha
open Go.RowKit Mem
section
variable {P : Program}
/-- No wrapping in range. -/
theorem i64_id (r : Int) (h0 : -9223372036854775808 ≤ r) (h1 : r ≤ 9223372036854775807) : IntKind.i64.wrap r = r := by
  simp [IntKind.wrap, IntKind.bits, IntKind.signed]; omega
theorem u32_id (r : Int) (h0 : 0 ≤ r) (h1 : r < 4294967296) : IntKind.u32.wrap r = r := by
  simp [IntKind.wrap, IntKind.bits, IntKind.signed]; omega
theorem o_add (t t2 : TypeId) (x y : Operand) (a b : BitVec 32) (w : World) : (do eqGuard .add t x y (.int .u32 (V a)) (.int .u32 (V b)); binOp .add t2 (.int .u32 (V a)) (.int .u32 (V b)) : Sem Value).run P w = .ok (.int .u32 (V (a + b))) w := by
  rw [← r_add']
  go_simp
theorem o_and (t t2 : TypeId) (x y : Operand) (a b : BitVec 32) (w : World) : (do eqGuard .and t x y (.int .u32 (V a)) (.int .u32 (V b)); binOp .and t2 (.int .u32 (V a)) (.int .u32 (V b)) : Sem Value).run P w = .ok (.int .u32 (V (a &&& b))) w := by
  rw [← r_and]
  go_simp
theorem o_xor (t t2 : TypeId) (x y : Operand) (a b : BitVec 32) (w : World) : (do eqGuard .xor t x y (.int .u32 (V a)) (.int .u32 (V b)); binOp .xor t2 (.int .u32 (V a)) (.int .u32 (V b)) : Sem Value).run P w = .ok (.int .u32 (V (a ^^^ b))) w := by
  rw [← r_xor]
  go_simp
theorem o_not (t t2 : TypeId) (x y : Operand) (a : BitVec 32) (w : World) : (do eqGuard .sub t x y (.int .u32 4294967295) (.int .u32 (V a)); binOp .sub t2 (.int .u32 4294967295) (.int .u32 (V a)) : Sem Value).run P w = .ok (.int .u32 (V (~~~a))) w := by
  have h0 := V_lo a
  have h1 := V_hi a
  rw [← not_sub, ← u32_id (4294967295 - V a) (by omega) (by omega)]
  go_simp
theorem o_shr3 (t t2 : TypeId) (x y : Operand) (a : BitVec 32) (w : World) : (do eqGuard .quo t x y (.int .u32 (V a)) (.int .u32 8); binOp .quo t2 (.int .u32 (V a)) (.int .u32 8) : Sem Value).run P w = .ok (.int .u32 (V (a >>> 3))) w := by
  have h0 := V_lo a
  have h1 := V_hi a
  rw [← shr3, ← u32_id (V a / 8) (by omega) (by omega), ← Int.tdiv_eq_ediv_of_nonneg h0]
  go_simp
theorem o_shr10 (t t2 : TypeId) (x y : Operand) (a : BitVec 32) (w : World) : (do eqGuard .quo t x y (.int .u32 (V a)) (.int .u32 1024); binOp .quo t2 (.int .u32 (V a)) (.int .u32 1024) : Sem Value).run P w = .ok (.int .u32 (V (a >>> 10))) w := by
  have h0 := V_lo a
  have h1 := V_hi a
  rw [← shr10, ← u32_id (V a / 1024) (by omega) (by omega), ← Int.tdiv_eq_ediv_of_nonneg h0]
  go_simp
theorem o_iadd (t t2 : TypeId) (x y : Operand) (a b r : Int) (h : a + b = r) (h0 : -9223372036854775808 ≤ r) (h1 : r ≤ 9223372036854775807) (w : World) : (do eqGuard .add t x y (.int .i64 a) (.int .i64 b); binOp .add t2 (.int .i64 a) (.int .i64 b) : Sem Value).run P w = .ok (.int .i64 r) w := by
  rw [← i64_id r h0 h1, ← h]
  go_simp
theorem o_uadd (t t2 : TypeId) (x y : Operand) (a b r : Int) (h : a + b = r) (h0 : 0 ≤ r) (h1 : r < 4294967296) (w : World) : (do eqGuard .add t x y (.int .u32 a) (.int .u32 b); binOp .add t2 (.int .u32 a) (.int .u32 b) : Sem Value).run P w = .ok (.int .u32 r) w := by
  rw [← u32_id r h0 h1, ← h]
  go_simp
theorem o_isub (t t2 : TypeId) (x y : Operand) (a b r : Int) (h : a - b = r) (h0 : -9223372036854775808 ≤ r) (h1 : r ≤ 9223372036854775807) (w : World) : (do eqGuard .sub t x y (.int .i64 a) (.int .i64 b); binOp .sub t2 (.int .i64 a) (.int .i64 b) : Sem Value).run P w = .ok (.int .i64 r) w := by
  rw [← i64_id r h0 h1, ← h]
  go_simp
theorem o_usub (t t2 : TypeId) (x y : Operand) (a b r : Int) (h : a - b = r) (h0 : 0 ≤ r) (h1 : r < 4294967296) (w : World) : (do eqGuard .sub t x y (.int .u32 a) (.int .u32 b); binOp .sub t2 (.int .u32 a) (.int .u32 b) : Sem Value).run P w = .ok (.int .u32 r) w := by
  rw [← u32_id r h0 h1, ← h]
  go_simp
theorem o_imul (t t2 : TypeId) (x y : Operand) (a b r : Int) (h : a * b = r) (h0 : -9223372036854775808 ≤ r) (h1 : r ≤ 9223372036854775807) (w : World) : (do eqGuard .mul t x y (.int .i64 a) (.int .i64 b); binOp .mul t2 (.int .i64 a) (.int .i64 b) : Sem Value).run P w = .ok (.int .i64 r) w := by
  rw [← i64_id r h0 h1, ← h]
  go_simp
theorem o_umul (t t2 : TypeId) (x y : Operand) (a b r : Int) (h : a * b = r) (h0 : 0 ≤ r) (h1 : r < 4294967296) (w : World) : (do eqGuard .mul t x y (.int .u32 a) (.int .u32 b); binOp .mul t2 (.int .u32 a) (.int .u32 b) : Sem Value).run P w = .ok (.int .u32 r) w := by
  rw [← u32_id r h0 h1, ← h]
  go_simp
theorem s0_val (x : BitVec 32) : bits .xor .u32 (bits .xor .u32 (V (x.rotateRight 7)) (V (x.rotateRight 18))) ((V x).tdiv 8 % 4294967296) = V (s0 x) := by
  have h : (V x).tdiv 8 % (4294967296 : Int) = V (x >>> 3) := by
    have := V_lo (x >>> 3); have := V_hi (x >>> 3)
    rw [Int.tdiv_eq_ediv_of_nonneg (V_lo x), shr3]; omega
  rw [h, r_xor, r_xor]; rfl
theorem s1_val (x : BitVec 32) : bits .xor .u32 (bits .xor .u32 (V (x.rotateRight 17)) (V (x.rotateRight 19))) ((V x).tdiv 1024 % 4294967296) = V (s1 x) := by
  have h : (V x).tdiv 1024 % (4294967296 : Int) = V (x >>> 10) := by
    have := V_lo (x >>> 10); have := V_hi (x >>> 10)
    rw [Int.tdiv_eq_ediv_of_nonneg (V_lo x), shr10]; omega
  rw [h, r_xor, r_xor]; rfl
theorem u32s_cells (l : List (BitVec 32)) : ∀ u ∈ u32s l, u.oneCell' = true := by
  intro u hu
  obtain ⟨x, _, rfl⟩ := List.mem_map.1 hu
  rfl
theorem adds_getD (l m : List (BitVec 32)) (h : l.length = m.length) (i : Nat) (hi : i < l.length) : (adds l m).getD i 0 = l.getD i 0 + m.getD i 0 := by
  have hm : i < m.length := by omega
  simp [adds, List.getD_eq_getElem?_getD, List.getElem?_zipWith, hi, hm]
end
end Sha
end Go.Proofs.YtngegegomkclbaaDoor
