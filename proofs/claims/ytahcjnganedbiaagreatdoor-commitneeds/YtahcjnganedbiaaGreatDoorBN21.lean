/- References as values: zero, built, compared. A slice beside a row; how calls end that tell bytes, a reference, a number. -/
import Derived.Test.YtahcjnganedbiaaGreatDoorBN14
import Derived.Test.YtahcjnganedbiaaGreatDoorBN05
import Derived.Laws.Tables
import Derived.Test.YtahcjnganedbiaaGreatDoorBN04
import Derived.Test.YtahcjnganedbiaaGreatDoorBN15
import Derived.Test.YtahcjnganedbiaaGreatDoorBN09
import Derived.OwnWalk
import Derived.Deep.DeepCutAuto
namespace Go.Proofs.YtahcjnganedbiaaGreatDoor
namespace Sha
open Go.RowKit Mem
theorem zeroRfR (w : World) : (zeroValue 64).run Tryz.prog w = .ok (.agg (refC zref)) w := by kernel_rfl
theorem zeroRfP (w : World) : (zeroValue 69).run Tryz.prog w = .ok (.agg (refC zref)) w := by kernel_rfl
theorem infoRfR : (Tryz.prog.info? 64).map (·.size) = some 34 := by kernel_rfl
theorem infoRfP : (Tryz.prog.info? 69).map (·.size) = some 34 := by kernel_rfl
theorem parts_ref {a b : RefV} (ha : a.Wf) (hb : b.Wf) (d : Nat) (w : World) : (eqParts (d + 2) (refC a) (refC b) [(true, 3, 0), (true, 62, 1), (true, 61, 2)]).run Tryz.prog w = .ok (sameRef a b) w := by
 have e : sameRef a b = ((a.pl == b.pl) && ((V a.ep == V b.ep) && ((a.dg == b.dg) && true))) := by simp [sameRef]
 rw [e]
 refine eqParts_cons (run_part_int w 3 .i64 Tryz.underlying3 (refC a) 0 _ (ref0 a)) (run_part_int w 3 .i64 Tryz.underlying3 (refC b) 0 _ (ref0 b)) (run_equalIn_int w (d + 1) 3 .i64 .i64 _ _ Tryz.underlying3) ?_
 refine eqParts_cons (run_part_int w 62 .u32 Tryz.underlying62 (refC a) 1 _ (ref1 a)) (run_part_int w 62 .u32 Tryz.underlying62 (refC b) 1 _ (ref1 b)) (run_equalIn_int w (d + 1) 62 .u32 .u32 _ _ Tryz.underlying62) ?_
 exact eqParts_cons (run_part_arr w _ _ 32 32 Tryz.underlying61 infoDg _ 2 _ (ref_dgRow ha)) (run_part_arr w _ _ 32 32 Tryz.underlying61 infoDg _ 2 _ (ref_dgRow hb)) (eq32 d _ _ ha.dg hb.dg w) rfl
theorem eqlRf (t : TypeId) (hf : (Tryz.prog.fieldsOf t).toList.map (fun f => (decide (f.name ≠ "_"), f.type, f.offset)) = [(true, 3, 0), (true, 62, 1), (true, 61, 2)])
 (hu : Tryz.prog.underlying t = some (.struct (Tryz.prog.fieldsOf t))) (hp : Tryz.prog.stoodInHeld t = false) (hg : Tryz.prog.eqGuardType Tryz.prog.depth t = false) {a b : RefV} (ha : a.Wf) (hb : b.Wf) (x y : Operand) (w : World) :
 (do eqGuard .eql t x y (.agg (refC a)) (.agg (refC b)); binOp .eql t (.agg (refC a)) (.agg (refC b)) : Sem Value).run Tryz.prog w = .ok (.bool (sameRef a b)) w ∧
 (do eqGuard .neq t x y (.agg (refC a)) (.agg (refC b)); binOp .neq t (.agg (refC a)) (.agg (refC b)) : Sem Value).run Tryz.prog w = .ok (.bool (!sameRef a b)) w := by
 have h := run_equalIn_agg w 9999 t (refC a) (refC b) hu hp
 rw [eqFields_parts, hf, parts_ref ha hb 9997 w] at h
 constructor
 ·rw [Sem.run_bind, run_eqGuard_agg w .eql t x y _ _ hg, Result.andThen_ok, run_eql_struct, h]; rfl
 ·rw [Sem.run_bind, run_eqGuard_agg w .neq t x y _ _ hg, Result.andThen_ok, run_neq_struct, h]; rfl
def SealEnd (w : World) (l : List (BitVec 8)) (n : Int) (e : Ending) (w' : World) : Prop := ∃ v, e = .returned (.tuple #[v, .int .i64 n]) ∧ Sl w' v l ∧ Below w.heap.size w w'
theorem sl_inv {w : World} {v : Value} {l : List (BitVec 8)} (h : Sl w v l) : ∃ a c, v = .slice a l.length c := let ⟨a, c, e, _⟩ := h; ⟨a, c, e⟩
theorem ret_tmp_row_tmp {P : Program} {fn : Func} {R : Ending → World → Prop} {tmps : Array Value} {w : World} {q p u : Tmp} {ty : TypeId} (h : fn.results = #[.tmp q, .cell p ty, .tmp u]) (g : Nat) (t : TypeId) (cs : Array Value) (d : TypeDesc) (v1 v : Value)
 (hq : tmps.getD q undef = v1) (hp : tmps.getD p undef = .pointer (some ⟨g, 0, none⟩)) (hv : tmps.getD u undef = v) (hg : At w g cs t) (hu : P.underlying ty = some d) (hd : d.isRow = true) (hi : (P.info? ty).map (·.size) = some cs.size)
 (hR : R (.returned (.tuple #[v1, .agg cs, v])) w) : bodyPost P fn R .ret ⟨tmps, []⟩ w := by
 refine bodyPost_ret (v := .tuple #[v1, .agg cs, v]) ?_ rfl hR
 have hrow := run_loadVar_row (P := P) w g t ty cs (0, 0) d hg hu (by cases d <;> first | rfl | exact hd) hi
 rw [Array.getD_eq_getD_getElem?] at hq hp hv
 simp only [results, h]
 simp [Result.andThen, hq, hp, hv, asAddr, hrow]
def ThreeEnd (w : World) (l : List (BitVec 8)) (r : RefV) (n : Int) (e : Ending) (w' : World) : Prop := ∃ v, e = .returned (.tuple #[v, .agg (refC r), .int .i64 n]) ∧ Sl w' v l ∧ Below w.heap.size w w'
def ThreeOwn (w : World) (l : List (BitVec 8)) (r : RefV) (n : Int) (e : Ending) (w' : World) : Prop := ∃ v, e = .returned (.tuple #[v, .agg (refC r), .int .i64 n]) ∧ OwnB w' w.heap.size v l ∧ Below w.heap.size w w'
theorem ThreeOwn.three {w w' : World} {l : List (BitVec 8)} {r : RefV} {n : Int} {e : Ending} (h : ThreeOwn w l r n e w') : ThreeEnd w l r n e w' := let ⟨v, e, hs, hb⟩ := h; ⟨v, e, OwnB.sl hs, hb⟩
theorem buildPf0 (w : World) : (Instr.build 69 #[]).run Tryz.prog w = .ok (.agg (refC zref)) w := run_build w _ _ _ (by kernel_rfl)
end Sha
end Go.Proofs.YtahcjnganedbiaaGreatDoor
