/- The document's digest, plainly: the state folded over the padded text's blocks is the digest that the program's states come to. | Over any program: in a plan, an element's address and the load of one cell that the class keeps. | In a plan: the operations on words of 32 bits, the words as bit vectors; and on small whole numbers. Over any program. -/
import Derived.Test.YtngegegomkclbaaDoorShaAlive
import Derived.Test.YtngegegomkclbaaDoorPlan
namespace Go.Proofs.YtngegegomkclbaaDoor
namespace Sha
theorem adds_length (l m : List (BitVec 32)) (h : l.length = m.length) : (adds l m).length = l.length := by simp [adds, h]
theorem adds_comm (l m : List (BitVec 32)) : adds l m = adds m l := by
  unfold adds
  exact List.zipWith_comm_of_comm (fun x y => BitVec.add_comm x y)
theorem adds_assoc : ∀ l m k : List (BitVec 32), adds (adds l m) k = adds l (adds m k)
  | [], _, _ => by simp [adds]
  | _ :: _, [], _ => by simp [adds]
  | _ :: _, _ :: _, [] => by simp [adds]
  | x :: l, y :: m, z :: k => by
    have ih := adds_assoc l m k
    unfold adds at ih ⊢
    simp only [List.zipWith_cons_cons, ih, BitVec.add_assoc]
theorem addB_comp (H : List (BitVec 32)) (T : List (BitVec 8)) : adds (addB H T) IVl = comp (adds H IVl) T := by
  unfold addB comp
  rw [adds_comm IVl H, adds_comm H, adds_assoc]
/-- The state after i blocks of a text. -/
def comps (s : List (BitVec 32)) (T : List (BitVec 8)) : Nat → List (BitVec 32)
  | 0 => s
  | i + 1 => comp (comps s T i) ((T.drop (64 * i)).take 64)
theorem lay_all (T c : List (BitVec 8)) (h : T.length = c.length) : lay T 0 c = c := by simp [lay, h]
theorem feeds_comps (T : List (BitVec 8)) (m : Nat) (hT : T.length = 64 * m) : ∀ i, i ≤ m →
    (feeds fed0 (T.take (64 * i))).at' = 0 ∧ (feeds fed0 (T.take (64 * i))).T.length = 64 ∧ adds (feeds fed0 (T.take (64 * i))).H IVl = comps IVl T i
  | 0, _ => by
    rw [Nat.mul_zero, List.take_zero]
    exact ⟨rfl, by decide, by show adds (List.replicate 8 0) IVl = IVl; decide⟩
  | i + 1, hi => by
    obtain ⟨h0, h1, h2⟩ := feeds_comps T m hT i (by omega)
    have hc : ((T.drop (64 * i)).take 64).length = 64 := by rw [List.length_take, List.length_drop]; omega
    have e : T.take (64 * (i + 1)) = T.take (64 * i) ++ (T.drop (64 * i)).take 64 := by rw [Nat.mul_add, List.take_add]
    rw [e, feeds_append, feeds_full _ _ h1 (by rw [h0]; decide) (by rw [h0, hc])]
    refine ⟨rfl, by simp [zs64], ?_⟩
    rw [h0, lay_all _ _ (by rw [h1, hc]), addB_comp, h2]; rfl
theorem padded_mod (n : Nat) : ∃ m, n + (padBytes n).length = 64 * m := by
  refine ⟨(n + (padBytes n).length) / 64, ?_⟩
  rw [padBytes_length]
  unfold padQ
  split <;> omega
/-- The document's digest is the program's. -/
theorem digest_comps (b : List (BitVec 8)) (m : Nat) (hm : (b ++ padBytes b.length).length = 64 * m) : dRow (comps IVl (b ++ padBytes b.length) m) 8 = digestOf b := by
  have h := (feeds_comps _ m hm m (Nat.le_refl m)).2.2
  rw [List.take_of_length_le (by omega), feeds_append] at h
  rw [← h]; rfl
/-- A word as a sum of four bytes. -/
theorem word_sum (b0 b1 b2 b3 : BitVec 8) : (b0.toNat : Int) * 16777216 + (b1.toNat : Int) * 65536 + (b2.toNat : Int) * 256 + (b3.toNat : Int) =
    V (b0.setWidth 32 <<< 24 ||| b1.setWidth 32 <<< 16 ||| b2.setWidth 32 <<< 8 ||| b3.setWidth 32) := by
  have l0 := b0.isLt
  have l1 := b1.isLt
  have l2 := b2.isLt
  have l3 := b3.isLt
  have e (b : BitVec 8) (k : Nat) (hk : k ≤ 24) : (b.setWidth 32 <<< k).toNat = b.toNat <<< k := by
    have lb := b.isLt
    have hp : 2 ^ k ≤ 2 ^ 24 := Nat.pow_le_pow_right (by decide) hk
    rw [BitVec.toNat_shiftLeft, BitVec.toNat_setWidth, Nat.mod_eq_of_lt (Nat.lt_of_lt_of_le lb (by decide)), Nat.mod_eq_of_lt]
    rw [Nat.shiftLeft_eq]
    exact Nat.lt_of_lt_of_le (Nat.mul_lt_mul_of_lt_of_le lb hp (Nat.two_pow_pos _)) (by decide)
  have e3 : (b3.setWidth 32).toNat = b3.toNat := by rw [BitVec.toNat_setWidth]; omega
  have h2 : b2.toNat <<< 8 ||| b3.toNat = b2.toNat * 256 + b3.toNat := by rw [← Nat.shiftLeft_add_eq_or_of_lt (by omega), Nat.shiftLeft_eq]
  have h1 : b1.toNat <<< 16 ||| (b2.toNat * 256 + b3.toNat) = b1.toNat * 65536 + (b2.toNat * 256 + b3.toNat) := by rw [← Nat.shiftLeft_add_eq_or_of_lt (by omega), Nat.shiftLeft_eq]
  have h0 : b0.toNat <<< 24 ||| (b1.toNat * 65536 + (b2.toNat * 256 + b3.toNat)) = b0.toNat * 16777216 + (b1.toNat * 65536 + (b2.toNat * 256 + b3.toNat)) := by rw [← Nat.shiftLeft_add_eq_or_of_lt (by omega), Nat.shiftLeft_eq]
  unfold V
  rw [BitVec.toNat_or, BitVec.toNat_or, BitVec.toNat_or, e _ _ (by decide), e _ _ (by decide), e _ _ (by decide), e3, Nat.or_assoc, Nat.or_assoc, h2, h1, h0]
  omega
/-- The greatest word less a word is its complement. -/
theorem not_sub (x : BitVec 32) : (4294967295 : Int) - V x = V (~~~x) := by
  have := x.isLt
  unfold V
  rw [BitVec.toNat_not]
  omega
/-- The first t words of a block's schedule. -/
def sofar (b : List (BitVec 8)) (t : Nat) : List (BitVec 32) := if t ≤ 16 then wds b t else ext (wds b 16) (t - 16)
theorem sofar_length (b : List (BitVec 8)) (t : Nat) : (sofar b t).length = t := by
  unfold sofar
  split
  · rw [wds_length]
  · rw [ext_length, wds_length]; omega
theorem sofar_word (b : List (BitVec 8)) (t : Nat) (h : t < 16) : sofar b (t + 1) = sofar b t ++ [word b t] := by
  unfold sofar
  rw [if_pos (by omega), if_pos (by omega)]; rfl
theorem sofar_more (b : List (BitVec 8)) (t : Nat) (h : 16 ≤ t) : sofar b (t + 1) = sofar b t ++ [nextW (sofar b t)] := by
  have e : sofar b t = ext (wds b 16) (t - 16) := by
    unfold sofar
    split
    · have : t = 16 := by omega
      subst this; rfl
    · rfl
  rw [e]
  unfold sofar
  rw [if_neg (by omega), show t + 1 - 16 = (t - 16) + 1 by omega]; rfl
theorem sofar_all (b : List (BitVec 8)) : sofar b 64 = sched b := rfl
end Sha
end Go.Proofs.YtngegegomkclbaaDoor
namespace Go.Proofs.YtngegegomkclbaaDoor
namespace Mem
open Go.RowKit
section
variable {P : Program} {ops : Array Oper} {Q : Exit → Act → World → Prop} {S : World → Prop}
/-- The address of a slice's element of one cell. -/
theorem plan_index {w : World} {a : Act} {o : Oper} {i : Nat} {r : Plan} (t e : TypeId) (x ix : Operand) (g off n c : Nat) (k : Nat) (ho : ops.toList[i]? = some o) (hw : Region.wanted o (yielded ops a.tmps) = true) (hop : o.op = .indexAddr t x ix)
    (hx : a.eval x = .slice (some ⟨g, off, none⟩) n c) (hi : a.eval ix = .int .i64 (k : Int)) (hk : k < n) (hu : P.underlying t = some (.slice e)) (hs : (P.info? e).map (·.size) = some 1)
    (h : wpPlan P ops Q S r (a.put o.dst (.pointer (some ⟨g, off + k, none⟩))) w) : wpPlan P ops Q S (.take i r) a w :=
  plan_take _ ho hw (fun w' _ => by
    cases hq : P.info? e with
    | none => simp [hq] at hs
    | some q =>
      have hs1 : q.size = 1 := by simpa [hq] using hs
      simp [execOp, hop, hx, hi, Instr.indexAt, asIntOf, Sem.run_bind, run_underlying hu, sizeOf, typeInfo, hq, hs1, hk, Addr.add]) h
/-- The load of one cell. -/
theorem plan_cell {w : World} {a : Act} {o : Oper} {i : Nat} {r : Plan} (t : TypeId) (x : Operand) (p : Addr) (v : Value) (d : TypeDesc) (ho : ops.toList[i]? = some o) (hw : Region.wanted o (yielded ops a.tmps) = true) (hop : o.op = .load t x)
    (hx : a.eval x = .pointer (some p)) (hc : ∀ w', S w' → w'.cell? p = some v) (hu : P.underlying t = some d) (hd : d.isRow = false)
    (h : wpPlan P ops Q S r (a.put o.dst v) w) : wpPlan P ops Q S (.take i r) a w :=
  plan_take _ ho hw (fun w' hw' => by
    have hagg : (isAgg t).run P w' = .ok false w' := by
      unfold isAgg
      rw [Sem.run_bind, run_underlying hu w']
      cases d <;> simp_all
    simp [execOp, hop, hx, Instr.loadAt, Instr.sureAddr, loadVar, Sem.run_bind, hagg, hc w' hw']) h
end
end Mem
end Go.Proofs.YtngegegomkclbaaDoor
namespace Go.Proofs.YtngegegomkclbaaDoor
namespace Sha
open Go.RowKit Mem
section
variable {P : Program}
/-- No wrapping in range. -/
theorem i64_id (r : Int) (h0 : -9223372036854775808 ≤ r) (h1 : r ≤ 9223372036854775807) : IntKind.i64.wrap r = r := by
  simp [IntKind.wrap, IntKind.bits, IntKind.signed]; omega
theorem u32_id (r : Int) (h0 : 0 ≤ r) (h1 : r < 4294967296) : IntKind.u32.wrap r = r := by
  simp [IntKind.wrap, IntKind.bits, IntKind.signed]; omega
theorem o_add (t t2 : TypeId) (x y : Operand) (a b : BitVec 32) (w : World) : (do eqGuard .add t x y (.int .u32 (V a)) (.int .u32 (V b)); binOp .add t2 (.int .u32 (V a)) (.int .u32 (V b)) : Sem Value).run P w = .ok (.int .u32 (V (a + b))) w := by
  rw [← r_add']
  go_simp
theorem o_and (t t2 : TypeId) (x y : Operand) (a b : BitVec 32) (w : World) : (do eqGuard .and t x y (.int .u32 (V a)) (.int .u32 (V b)); binOp .and t2 (.int .u32 (V a)) (.int .u32 (V b)) : Sem Value).run P w = .ok (.int .u32 (V (a &&& b))) w := by
  rw [← r_and]
  go_simp
theorem o_xor (t t2 : TypeId) (x y : Operand) (a b : BitVec 32) (w : World) : (do eqGuard .xor t x y (.int .u32 (V a)) (.int .u32 (V b)); binOp .xor t2 (.int .u32 (V a)) (.int .u32 (V b)) : Sem Value).run P w = .ok (.int .u32 (V (a ^^^ b))) w := by
  rw [← r_xor]
  go_simp
theorem o_not (t t2 : TypeId) (x y : Operand) (a : BitVec 32) (w : World) : (do eqGuard .sub t x y (.int .u32 4294967295) (.int .u32 (V a)); binOp .sub t2 (.int .u32 4294967295) (.int .u32 (V a)) : Sem Value).run P w = .ok (.int .u32 (V (~~~a))) w := by
  have h0 := V_lo a
  have h1 := V_hi a
  rw [← not_sub, ← u32_id (4294967295 - V a) (by omega) (by omega)]
  go_simp
theorem o_shr3 (t t2 : TypeId) (x y : Operand) (a : BitVec 32) (w : World) : (do eqGuard .quo t x y (.int .u32 (V a)) (.int .u32 8); binOp .quo t2 (.int .u32 (V a)) (.int .u32 8) : Sem Value).run P w = .ok (.int .u32 (V (a >>> 3))) w := by
  have h0 := V_lo a
  have h1 := V_hi a
  rw [← shr3, ← u32_id (V a / 8) (by omega) (by omega), ← Int.tdiv_eq_ediv_of_nonneg h0]
  go_simp
theorem o_shr10 (t t2 : TypeId) (x y : Operand) (a : BitVec 32) (w : World) : (do eqGuard .quo t x y (.int .u32 (V a)) (.int .u32 1024); binOp .quo t2 (.int .u32 (V a)) (.int .u32 1024) : Sem Value).run P w = .ok (.int .u32 (V (a >>> 10))) w := by
  have h0 := V_lo a
  have h1 := V_hi a
  rw [← shr10, ← u32_id (V a / 1024) (by omega) (by omega), ← Int.tdiv_eq_ediv_of_nonneg h0]
  go_simp
theorem o_iadd (t t2 : TypeId) (x y : Operand) (a b r : Int) (h : a + b = r) (h0 : -9223372036854775808 ≤ r) (h1 : r ≤ 9223372036854775807) (w : World) : (do eqGuard .add t x y (.int .i64 a) (.int .i64 b); binOp .add t2 (.int .i64 a) (.int .i64 b) : Sem Value).run P w = .ok (.int .i64 r) w := by
  rw [← i64_id r h0 h1, ← h]
  go_simp
theorem o_uadd (t t2 : TypeId) (x y : Operand) (a b r : Int) (h : a + b = r) (h0 : 0 ≤ r) (h1 : r < 4294967296) (w : World) : (do eqGuard .add t x y (.int .u32 a) (.int .u32 b); binOp .add t2 (.int .u32 a) (.int .u32 b) : Sem Value).run P w = .ok (.int .u32 r) w := by
  rw [← u32_id r h0 h1, ← h]
  go_simp
theorem o_isub (t t2 : TypeId) (x y : Operand) (a b r : Int) (h : a - b = r) (h0 : -9223372036854775808 ≤ r) (h1 : r ≤ 9223372036854775807) (w : World) : (do eqGuard .sub t x y (.int .i64 a) (.int .i64 b); binOp .sub t2 (.int .i64 a) (.int .i64 b) : Sem Value).run P w = .ok (.int .i64 r) w := by
  rw [← i64_id r h0 h1, ← h]
  go_simp
theorem o_usub (t t2 : TypeId) (x y : Operand) (a b r : Int) (h : a - b = r) (h0 : 0 ≤ r) (h1 : r < 4294967296) (w : World) : (do eqGuard .sub t x y (.int .u32 a) (.int .u32 b); binOp .sub t2 (.int .u32 a) (.int .u32 b) : Sem Value).run P w = .ok (.int .u32 r) w := by
  rw [← u32_id r h0 h1, ← h]
  go_simp
theorem o_imul (t t2 : TypeId) (x y : Operand) (a b r : Int) (h : a * b = r) (h0 : -9223372036854775808 ≤ r) (h1 : r ≤ 9223372036854775807) (w : World) : (do eqGuard .mul t x y (.int .i64 a) (.int .i64 b); binOp .mul t2 (.int .i64 a) (.int .i64 b) : Sem Value).run P w = .ok (.int .i64 r) w := by
  rw [← i64_id r h0 h1, ← h]
  go_simp
theorem o_umul (t t2 : TypeId) (x y : Operand) (a b r : Int) (h : a * b = r) (h0 : 0 ≤ r) (h1 : r < 4294967296) (w : World) : (do eqGuard .mul t x y (.int .u32 a) (.int .u32 b); binOp .mul t2 (.int .u32 a) (.int .u32 b) : Sem Value).run P w = .ok (.int .u32 r) w := by
  rw [← u32_id r h0 h1, ← h]
  go_simp
theorem s0_val (x : BitVec 32) : bits .xor .u32 (bits .xor .u32 (V (x.rotateRight 7)) (V (x.rotateRight 18))) ((V x).tdiv 8 % 4294967296) = V (s0 x) := by
  have h : (V x).tdiv 8 % (4294967296 : Int) = V (x >>> 3) := by
    have := V_lo (x >>> 3); have := V_hi (x >>> 3)
    rw [Int.tdiv_eq_ediv_of_nonneg (V_lo x), shr3]; omega
  rw [h, r_xor, r_xor]; rfl
theorem s1_val (x : BitVec 32) : bits .xor .u32 (bits .xor .u32 (V (x.rotateRight 17)) (V (x.rotateRight 19))) ((V x).tdiv 1024 % 4294967296) = V (s1 x) := by
  have h : (V x).tdiv 1024 % (4294967296 : Int) = V (x >>> 10) := by
    have := V_lo (x >>> 10); have := V_hi (x >>> 10)
    rw [Int.tdiv_eq_ediv_of_nonneg (V_lo x), shr10]; omega
  rw [h, r_xor, r_xor]; rfl
theorem u32s_cells (l : List (BitVec 32)) : ∀ u ∈ u32s l, u.oneCell' = true := by
  intro u hu
  obtain ⟨x, _, rfl⟩ := List.mem_map.1 hu
  rfl
theorem adds_getD (l m : List (BitVec 32)) (h : l.length = m.length) (i : Nat) (hi : i < l.length) : (adds l m).getD i 0 = l.getD i 0 + m.getD i 0 := by
  have hm : i < m.length := by omega
  simp [adds, List.getD_eq_getElem?_getD, List.getElem?_zipWith, hi, hm]
end
end Sha
end Go.Proofs.YtngegegomkclbaaDoor
