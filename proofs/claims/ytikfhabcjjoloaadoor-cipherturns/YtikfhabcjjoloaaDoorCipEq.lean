/- What the laws of the cipher compare: arrays, nonces. -/
import Derived.Test.YtikfhabcjjoloaaDoorCipRTurn
import Derived.Test.YtikfhabcjjoloaaDoorCipLive
import Derived.Test.YtikfhabcjjoloaaDoorSame
import Derived.Test.YtikfhabcjjoloaaDoorEqInts
namespace Go.Proofs.YtikfhabcjjoloaaDoor
namespace Sha
open Go.RowKit Mem
theorem eql_q (q : Q4) (x y : Operand) (w : World) : (do eqGuard .eql 26 x y (.agg (qOf q)) (.agg (qOf q)); binOp .eql 26 (.agg (qOf q)) (.agg (qOf q)) : Sem Value).run Tryd.prog w = .ok (.bool true) w := by
  have h := eql_ints (P := Tryd.prog) w 26 24 .u32 4 x y Tryd.underlying26 Tryd.underlying24 infoU32 (by kernel_rfl) [V q.a, V q.b, V q.c, V q.d] [V q.a, V q.b, V q.c, V q.d] rfl rfl
  simp only [beq_self_eq_true] at h
  exact h
theorem eql_cb (key nonce : List (BitVec 8)) (n : BitVec 32) (x y : Operand) (w : World) : (do eqGuard .eql 27 x y (.agg (cbOf key nonce n)) (.agg (cbOf key nonce n)); binOp .eql 27 (.agg (cbOf key nonce n)) (.agg (cbOf key nonce n)) : Sem Value).run Tryd.prog w = .ok (.bool true) w := by
  have := eql_bytes (P := Tryd.prog) w 27 5 64 x y Tryd.underlying27 Tryd.underlying5 infoB (by kernel_rfl) _ _ (cblk_length key nonce n) (cblk_length key nonce n)
  unfold cbOf
  rw [this]; simp
theorem eql_nc (e e' : BitVec 32) (b b' : BitVec 64) (x y : Operand) (w : World) : (do eqGuard .eql 23 x y (.agg (ncOf e b)) (.agg (ncOf e' b')); binOp .eql 23 (.agg (ncOf e b)) (.agg (ncOf e' b')) : Sem Value).run Tryd.prog w = .ok (.bool (cnonce e b == cnonce e' b')) w := by
  have := eql_bytes (P := Tryd.prog) w 23 5 12 x y Tryd.underlying23 Tryd.underlying5 infoB (by kernel_rfl) _ _ (cnonce_length e b) (cnonce_length e' b')
  unfold ncOf
  rw [this]
theorem eql_bb (a : Bool) (x y : Operand) (w : World) : (do eqGuard .eql 4 x y (.bool a) (.bool a); binOp .eql 4 (.bool a) (.bool a) : Sem Value).run Tryd.prog w = .ok (.bool true) w := by
  cases a <;> go_simp
theorem wb_inj (x y : BitVec 32) (h : ∀ j, j < 4 → wb x (8 * j) = wb y (8 * j)) : x = y := by
  apply BitVec.eq_of_getLsbD_eq
  intro i hi
  have h1 := congrArg (fun z : BitVec 8 => z.getLsbD (i % 8)) (h (i / 8) (by omega))
  have h8 : i % 8 < 8 := Nat.mod_lt _ (by decide)
  have e : 8 * (i / 8) + i % 8 = i := Nat.div_add_mod i 8
  simpa [wb, BitVec.getLsbD_setWidth, BitVec.getLsbD_ushiftRight, h8, e] using h1
theorem wb64_inj (x y : BitVec 64) (h : ∀ j, j < 8 → wb64 x (8 * j) = wb64 y (8 * j)) : x = y := by
  apply BitVec.eq_of_getLsbD_eq
  intro i hi
  have h1 := congrArg (fun z : BitVec 8 => z.getLsbD (i % 8)) (h (i / 8) (by omega))
  have h8 : i % 8 < 8 := Nat.mod_lt _ (by decide)
  have e : 8 * (i / 8) + i % 8 = i := Nat.div_add_mod i 8
  simpa [wb64, BitVec.getLsbD_setWidth, BitVec.getLsbD_ushiftRight, h8, e] using h1
/-- No two epochs and blocks have one nonce. -/
theorem cnonce_inj (e e' : BitVec 32) (b b' : BitVec 64) (h : cnonce e b = cnonce e' b') : e = e' ∧ b = b' :=
  ⟨wb_inj e e' fun j hj => by rw [← cnonce_low e b j hj, h, cnonce_low e' b' j hj], wb64_inj b b' fun j hj => by rw [← cnonce_high e b j hj, h, cnonce_high e' b' j hj]⟩
theorem same_yes (e : BitVec 32) (b : BitVec 64) : (cnonce e b == cnonce e b) = true := by simp
theorem same_no1 (e e' : BitVec 32) (b b' : BitVec 64) (h : e ≠ e') : (cnonce e b == cnonce e' b') = false := by
  rw [Bool.eq_false_iff]; intro h1; exact h (cnonce_inj e e' b b' (beq_iff_eq.1 h1)).1
theorem same_no2 (e e' : BitVec 32) (b b' : BitVec 64) (h : b ≠ b') : (cnonce e b == cnonce e' b') = false := by
  rw [Bool.eq_false_iff]; intro h1; exact h (cnonce_inj e e' b b' (beq_iff_eq.1 h1)).2
end Sha
end Go.Proofs.YtikfhabcjjoloaaDoor
