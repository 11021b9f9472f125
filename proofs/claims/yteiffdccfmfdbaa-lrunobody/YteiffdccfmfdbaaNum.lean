/- Words and bytes as the model has them; operations on them. Over any program. -/
import Derived.Test.YteiffdccfmfdbaaShaMath
namespace Go.Proofs.Yteiffdccfmfdbaa
namespace Sha
open Go.RowKit
theorem u8s_set (l : List (BitVec 8)) (i : Nat) (x : BitVec 8) : (u8s l).toArray.setIfInBounds i (.int .u8 (x.toNat : Int)) = (u8s (l.set i x)).toArray := by
  simp [u8s, List.map_set]
def wb (x : BitVec 32) (k : Nat) : BitVec 8 := (x >>> k).setWidth 8
theorem wb_val (x : BitVec 32) (k : Nat) (q : Int) (hq : q = ((2 ^ k : Nat) : Int)) : (V x / q % (256 : Int)) = ((wb x k).toNat : Int) := by
  unfold wb V
  rw [BitVec.toNat_setWidth, BitVec.toNat_ushiftRight, Nat.shiftRight_eq_div_pow, hq, ← Int.natCast_ediv]; rfl
theorem wb24 (x : BitVec 32) : (V x / (16777216 : Int) % (256 : Int)) = ((wb x 24).toNat : Int) := wb_val x 24 _ rfl
theorem wb16 (x : BitVec 32) : (V x / (65536 : Int) % (256 : Int)) = ((wb x 16).toNat : Int) := wb_val x 16 _ rfl
theorem wb8 (x : BitVec 32) : (V x / (256 : Int) % (256 : Int)) = ((wb x 8).toNat : Int) := wb_val x 8 _ rfl
theorem wb0 (x : BitVec 32) : (V x % (256 : Int)) = ((wb x 0).toNat : Int) := by
  have := wb_val x 0 1 rfl
  simpa using this
theorem b_wrap (n : Nat) : IntKind.u8.wrap (n : Int) = ((n % 256 : Nat) : Int) := by
  simp [IntKind.wrap, IntKind.bits, IntKind.signed]
theorem b_ofInt (x : BitVec 8) : BitVec.ofInt 8 (x.toNat : Int) = x := by rw [BitVec.ofInt_natCast]; simp
theorem b_mod (x : BitVec 8) : x.toNat % 256 = x.toNat := Nat.mod_eq_of_lt x.isLt
theorem b_xor (a b : BitVec 8) : bits .xor .u8 (a.toNat : Int) (b.toNat : Int) = ((a ^^^ b).toNat : Int) := by
  show IntKind.u8.wrap (((BitVec.ofInt 8 (a.toNat : Int)) ^^^ (BitVec.ofInt 8 (b.toNat : Int))).toNat : Int) = _
  rw [b_ofInt, b_ofInt, b_wrap, b_mod]
theorem b_or (a b : BitVec 8) : bits .or .u8 (a.toNat : Int) (b.toNat : Int) = ((a ||| b).toNat : Int) := by
  show IntKind.u8.wrap (((BitVec.ofInt 8 (a.toNat : Int)) ||| (BitVec.ofInt 8 (b.toNat : Int))).toNat : Int) = _
  rw [b_ofInt, b_ofInt, b_wrap, b_mod]
/-- A byte as a value: behind a plain definition, so that no walk lays it open. -/
def B8 (x : BitVec 8) : Int := x.toNat
theorem B8_lo (x : BitVec 8) : 0 ≤ B8 x := Int.natCast_nonneg _
theorem B8_hi (x : BitVec 8) : B8 x ≤ 255 := by unfold B8; have := x.isLt; omega
theorem B8_xor (a b : BitVec 8) : bits .xor .u8 (B8 a) (B8 b) = B8 (a ^^^ b) := b_xor a b
theorem B8_or (a b : BitVec 8) : bits .or .u8 (B8 a) (B8 b) = B8 (a ||| b) := b_or a b
theorem B8_zero : B8 0 = 0 := rfl
theorem B8_eq (x : BitVec 8) : (B8 x == 0) = (x == 0) := by
  unfold B8
  rw [Bool.eq_iff_iff, beq_iff_eq, beq_iff_eq]
  constructor
  · intro h
    exact BitVec.eq_of_toNat_eq (by simpa using h)
  · intro h; rw [h]; rfl
theorem u8s_snoc (l : List (BitVec 8)) (x : BitVec 8) : u8s (l ++ [x]) = u8s l ++ [.int .u8 (x.toNat : Int)] := by simp [u8s]
theorem u8s_cells (l : List (BitVec 8)) : ∀ u ∈ u8s l, u.oneCell' = true := by
  intro u hu
  obtain ⟨x, _, rfl⟩ := List.mem_map.1 hu
  rfl
theorem u32s_cells (l : List (BitVec 32)) : ∀ u ∈ u32s l, u.oneCell' = true := by
  intro u hu
  obtain ⟨x, _, rfl⟩ := List.mem_map.1 hu
  rfl
theorem adds_length (l m : List (BitVec 32)) (h : l.length = m.length) : (adds l m).length = l.length := by simp [adds, h]
theorem adds_getD (l m : List (BitVec 32)) (h : l.length = m.length) (i : Nat) (hi : i < l.length) : (adds l m).getD i 0 = l.getD i 0 + m.getD i 0 := by
  have hm : i < m.length := by omega
  simp [adds, List.getD_eq_getElem?_getD, List.getElem?_zipWith, hi, hm]
/-- The greatest word less a word is its complement. -/
theorem not_sub (x : BitVec 32) : (4294967295 : Int) - V x = V (~~~x) := by
  have := x.isLt
  unfold V
  rw [BitVec.toNat_not]
  omega
/-- No wrapping in range. -/
theorem i64_id (r : Int) (h0 : -9223372036854775808 ≤ r) (h1 : r ≤ 9223372036854775807) : IntKind.i64.wrap r = r := by
  simp [IntKind.wrap, IntKind.bits, IntKind.signed]; omega
theorem u32_id (r : Int) (h0 : 0 ≤ r) (h1 : r < 4294967296) : IntKind.u32.wrap r = r := by
  simp [IntKind.wrap, IntKind.bits, IntKind.signed]; omega
section
variable {P : Program}
theorem o_add (t t2 : TypeId) (x y : Operand) (a b : BitVec 32) (w : World) : (do eqGuard .add t x y (.int .u32 (V a)) (.int .u32 (V b)); binOp .add t2 (.int .u32 (V a)) (.int .u32 (V b)) : Sem Value).run P w = .ok (.int .u32 (V (a + b))) w := by
  rw [← r_add']
  go_simp
theorem o_and (t t2 : TypeId) (x y : Operand) (a b : BitVec 32) (w : World) : (do eqGuard .and t x y (.int .u32 (V a)) (.int .u32 (V b)); binOp .and t2 (.int .u32 (V a)) (.int .u32 (V b)) : Sem Value).run P w = .ok (.int .u32 (V (a &&& b))) w := by
  rw [← r_and]
  go_simp
theorem o_xor (t t2 : TypeId) (x y : Operand) (a b : BitVec 32) (w : World) : (do eqGuard .xor t x y (.int .u32 (V a)) (.int .u32 (V b)); binOp .xor t2 (.int .u32 (V a)) (.int .u32 (V b)) : Sem Value).run P w = .ok (.int .u32 (V (a ^^^ b))) w := by
  rw [← r_xor]
  go_simp
theorem o_not (t t2 : TypeId) (x y : Operand) (a : BitVec 32) (w : World) : (do eqGuard .sub t x y (.int .u32 4294967295) (.int .u32 (V a)); binOp .sub t2 (.int .u32 4294967295) (.int .u32 (V a)) : Sem Value).run P w = .ok (.int .u32 (V (~~~a))) w := by
  have h0 := V_lo a
  have h1 := V_hi a
  rw [← not_sub, ← u32_id (4294967295 - V a) (by omega) (by omega)]
  go_simp
theorem o_shr3 (t t2 : TypeId) (x y : Operand) (a : BitVec 32) (w : World) : (do eqGuard .quo t x y (.int .u32 (V a)) (.int .u32 8); binOp .quo t2 (.int .u32 (V a)) (.int .u32 8) : Sem Value).run P w = .ok (.int .u32 (V (a >>> 3))) w := by
  have h0 := V_lo a
  have h1 := V_hi a
  rw [← shr3, ← u32_id (V a / 8) (by omega) (by omega), ← Int.tdiv_eq_ediv_of_nonneg h0]
  go_simp
theorem o_shr10 (t t2 : TypeId) (x y : Operand) (a : BitVec 32) (w : World) : (do eqGuard .quo t x y (.int .u32 (V a)) (.int .u32 1024); binOp .quo t2 (.int .u32 (V a)) (.int .u32 1024) : Sem Value).run P w = .ok (.int .u32 (V (a >>> 10))) w := by
  have h0 := V_lo a
  have h1 := V_hi a
  rw [← shr10, ← u32_id (V a / 1024) (by omega) (by omega), ← Int.tdiv_eq_ediv_of_nonneg h0]
  go_simp
theorem o_iadd (t t2 : TypeId) (x y : Operand) (a b r : Int) (h : a + b = r) (h0 : -9223372036854775808 ≤ r) (h1 : r ≤ 9223372036854775807) (w : World) : (do eqGuard .add t x y (.int .i64 a) (.int .i64 b); binOp .add t2 (.int .i64 a) (.int .i64 b) : Sem Value).run P w = .ok (.int .i64 r) w := by
  rw [← i64_id r h0 h1, ← h]
  go_simp
theorem o_uadd (t t2 : TypeId) (x y : Operand) (a b r : Int) (h : a + b = r) (h0 : 0 ≤ r) (h1 : r < 4294967296) (w : World) : (do eqGuard .add t x y (.int .u32 a) (.int .u32 b); binOp .add t2 (.int .u32 a) (.int .u32 b) : Sem Value).run P w = .ok (.int .u32 r) w := by
  rw [← u32_id r h0 h1, ← h]
  go_simp
theorem o_isub (t t2 : TypeId) (x y : Operand) (a b r : Int) (h : a - b = r) (h0 : -9223372036854775808 ≤ r) (h1 : r ≤ 9223372036854775807) (w : World) : (do eqGuard .sub t x y (.int .i64 a) (.int .i64 b); binOp .sub t2 (.int .i64 a) (.int .i64 b) : Sem Value).run P w = .ok (.int .i64 r) w := by
  rw [← i64_id r h0 h1, ← h]
  go_simp
theorem o_usub (t t2 : TypeId) (x y : Operand) (a b r : Int) (h : a - b = r) (h0 : 0 ≤ r) (h1 : r < 4294967296) (w : World) : (do eqGuard .sub t x y (.int .u32 a) (.int .u32 b); binOp .sub t2 (.int .u32 a) (.int .u32 b) : Sem Value).run P w = .ok (.int .u32 r) w := by
  rw [← u32_id r h0 h1, ← h]
  go_simp
theorem o_imul (t t2 : TypeId) (x y : Operand) (a b r : Int) (h : a * b = r) (h0 : -9223372036854775808 ≤ r) (h1 : r ≤ 9223372036854775807) (w : World) : (do eqGuard .mul t x y (.int .i64 a) (.int .i64 b); binOp .mul t2 (.int .i64 a) (.int .i64 b) : Sem Value).run P w = .ok (.int .i64 r) w := by
  rw [← i64_id r h0 h1, ← h]
  go_simp
theorem o_umul (t t2 : TypeId) (x y : Operand) (a b r : Int) (h : a * b = r) (h0 : 0 ≤ r) (h1 : r < 4294967296) (w : World) : (do eqGuard .mul t x y (.int .u32 a) (.int .u32 b); binOp .mul t2 (.int .u32 a) (.int .u32 b) : Sem Value).run P w = .ok (.int .u32 r) w := by
  rw [← u32_id r h0 h1, ← h]
  go_simp
end
theorem o_xorb {P : Program} (t t2 : TypeId) (x y : Operand) (a b : BitVec 8) (w : World) : (do eqGuard .xor t x y (.int .u8 (B8 a)) (.int .u8 (B8 b)); binOp .xor t2 (.int .u8 (B8 a)) (.int .u8 (B8 b)) : Sem Value).run P w = .ok (.int .u8 (B8 (a ^^^ b))) w := by
  rw [← B8_xor]
  go_simp
end Sha
end Go.Proofs.Yteiffdccfmfdbaa
