/- Anchors as values: none of their fields set, some of them set, two compared. -/
import Derived.Test.YtknaimpnkflfnaaAncMath
import Derived.Test.YtknaimpnkflfnaaEqStruct
import Derived.Laws.Tables
namespace Go.Proofs.Ytknaimpnkflfnaa
namespace Sha
open Go.RowKit Mem
def Z32b : List (BitVec 8) := List.replicate 32 0
def zanc : Anc := ⟨0, 0, 0, 0, Z32b, 0, 0, Z32b, 0⟩
theorem zanc_wf : zanc.Wf := ⟨by decide, by decide, by decide, by decide, by decide, by decide, by decide, by decide, by decide, by decide, by decide, by decide, by decide⟩
theorem allocAncR (w : World) : (Instr.alloc 26 true (.tuple #[])).run Try.prog w = .ok (.pointer (some ⟨w.heap.size, 0, none⟩)) (w.alloc (.cells (ancC zanc) 26)) := by kernel_rfl
theorem allocAncP (w : World) : (Instr.alloc 31 true (.tuple #[])).run Try.prog w = .ok (.pointer (some ⟨w.heap.size, 0, none⟩)) (w.alloc (.cells (ancC zanc) 31)) := by kernel_rfl
theorem zeroAncR (w : World) : (zeroValue 26).run Try.prog w = .ok (.agg (ancC zanc)) w := by kernel_rfl
theorem zeroAncP (w : World) : (zeroValue 31).run Try.prog w = .ok (.agg (ancC zanc)) w := by kernel_rfl
theorem buildR0 (w : World) : (Instr.build 26 #[]).run Try.prog w = .ok (.agg (ancC zanc)) w := run_build w _ _ _ (by kernel_rfl)
theorem buildP0 (w : World) : (Instr.build 31 #[]).run Try.prog w = .ok (.agg (ancC zanc)) w := run_build w _ _ _ (by kernel_rfl)
theorem buildR7 (v p h r : Int) (e re c : Nat) (w : World) : (Instr.build 26 #[(0, .int .i64 v), (1, .int .i64 p), (2, .int .u32 (e : Int)), (3, .int .i64 h), (5, .int .i64 r), (6, .int .u32 (re : Int)), (8, .int .u64 (c : Int))]).run Try.prog w = .ok (.agg (ancC ⟨v, p, e, h, Z32b, r, re, Z32b, c⟩)) w := run_build w _ _ _ (by kernel_rfl)
def anc7 : Anc := ⟨1, 5, 7, 0, Z32b, 0, 7, Z32b, 3⟩
def ancBad : Anc := ⟨3, 1, 0, 0, Z32b, 0, 0, Z32b, 0⟩
theorem anc7_wf : anc7.Wf := ⟨by decide, by decide, by decide, by decide, by decide, by decide, by decide, by decide, by decide, by decide, by decide, by decide, by decide⟩
theorem ancBad_wf : ancBad.Wf := ⟨by decide, by decide, by decide, by decide, by decide, by decide, by decide, by decide, by decide, by decide, by decide, by decide, by decide⟩
theorem buildP7 (w : World) : (Instr.build 31 #[(0, .int .i64 1), (1, .int .i64 5), (2, .int .u32 7), (6, .int .u32 7), (8, .int .u64 3)]).run Try.prog w = .ok (.agg (ancC anc7)) w := run_build w _ _ _ (by kernel_rfl)
theorem buildPBad (w : World) : (Instr.build 31 #[(0, .int .i64 3), (1, .int .i64 1)]).run Try.prog w = .ok (.agg (ancC ancBad)) w := run_build w _ _ _ (by kernel_rfl)
theorem infoAncR : (Try.prog.info? 26).map (·.size) = some 71 := by kernel_rfl
theorem infoAncP : (Try.prog.info? 31).map (·.size) = some 71 := by kernel_rfl
theorem info32 : (Try.prog.info? 23).map (·.size) = some 32 := by kernel_rfl
theorem anc_headRow {a : Anc} (h : a.Wf) : (ancC a).extract 4 (4 + 32) = (u8s a.head).toArray := by
  apply Array.ext_getElem?
  intro i
  rw [Array.getElem?_extract]
  by_cases hi : i < 32
  · rw [if_pos (by rw [ancC_size h]; omega), anc_head h i hi, List.getElem?_toArray, u8s_get _ _ (by rw [h.head]; exact hi)]
  · rw [if_neg (by omega)]
    symm
    rw [List.getElem?_toArray, List.getElem?_eq_none (by rw [u8s_length, h.head]; omega)]
theorem anc_rootRow {a : Anc} (h : a.Wf) : (ancC a).extract 38 (38 + 32) = (u8s a.root).toArray := by
  apply Array.ext_getElem?
  intro i
  rw [Array.getElem?_extract]
  by_cases hi : i < 32
  · rw [if_pos (by rw [ancC_size h]; omega), anc_root h i hi, List.getElem?_toArray, u8s_get _ _ (by rw [h.root]; exact hi)]
  · rw [if_neg (by omega)]
    symm
    rw [List.getElem?_toArray, List.getElem?_eq_none (by rw [u8s_length, h.root]; omega)]
/-- Are two anchors the same? -/
def sameA (a b : Anc) : Bool := (a.ver == b.ver) && ((a.pages == b.pages) && (((a.epoch : Int) == (b.epoch : Int)) && ((a.hp == b.hp) && ((a.head == b.head) && ((a.rp == b.rp) && (((a.re : Int) == (b.re : Int)) && ((a.root == b.root) && (((a.com : Int) == (b.com : Int)) && true))))))))
theorem sameA_iff (a b : Anc) : sameA a b = true ↔ a = b := by
  obtain ⟨a0, a1, a2, a3, a4, a5, a6, a7, a8⟩ := a
  obtain ⟨b0, b1, b2, b3, b4, b5, b6, b7, b8⟩ := b
  have e : ∀ m n : Nat, ((m : Int) = (n : Int)) = (m = n) := fun m n => by rw [eq_iff_iff]; omega
  simp [sameA, e]
theorem sameA_self (a : Anc) : sameA a a = true := (sameA_iff a a).2 rfl
theorem sizeB1 (w : World) : (sizeOf 5).run Try.prog w = .ok 1 w := by kernel_rfl
theorem eq32 (d : Nat) (l m : List (BitVec 8)) (hl : l.length = 32) (hm : m.length = 32) (w : World) : (Op.equalIn (d + 2) 23 (.agg (u8s l).toArray) (.agg (u8s m).toArray)).run Try.prog w = .ok (l == m) w := by
  have e1 : ∀ k : List (BitVec 8), u8s k = (k.map fun x => (x.toNat : Int)).map (Value.int .u8) := fun k => by simp [u8s]
  have h := run_equalIn_ints (P := Try.prog) w d 23 5 .u8 32 Try.underlying23 Try.underlying5 sizeB1 (l.map fun x => (x.toNat : Int)) (m.map fun x => (x.toNat : Int)) (by simpa using hl) (by simpa using hm)
  rw [e1, e1, h]
  congr 1
  rw [Bool.eq_iff_iff, beq_iff_eq, beq_iff_eq]
  exact (List.map_inj_right (fun a b h => by apply BitVec.eq_of_toNat_eq; omega)).trans Iff.rfl
theorem parts_anc {a b : Anc} (ha : a.Wf) (hb : b.Wf) (d : Nat) (w : World) : (eqParts (d + 2) (ancC a) (ancC b) [(true, 3, 0), (true, 3, 1), (true, 22, 2), (true, 3, 3), (true, 23, 4), (true, 3, 36), (true, 22, 37), (true, 23, 38), (true, 24, 70)]).run Try.prog w = .ok (sameA a b) w := by
  have iI := fun (o : Nat) (x y : Int) (l : List (Bool × TypeId × Nat)) (s : Bool) (h1 : (ancC a)[o]? = some (.int .i64 x)) (h2 : (ancC b)[o]? = some (.int .i64 y)) (hl : (eqParts (d + 2) (ancC a) (ancC b) l).run Try.prog w = .ok s w) =>
    eqParts_cons (run_part_int w 3 .i64 Try.underlying3 (ancC a) o _ h1) (run_part_int w 3 .i64 Try.underlying3 (ancC b) o _ h2) (run_equalIn_int w (d + 1) 3 .i64 .i64 x y Try.underlying3) hl
  have iU := fun (o : Nat) (x y : Int) (l : List (Bool × TypeId × Nat)) (s : Bool) (h1 : (ancC a)[o]? = some (.int .u32 x)) (h2 : (ancC b)[o]? = some (.int .u32 y)) (hl : (eqParts (d + 2) (ancC a) (ancC b) l).run Try.prog w = .ok s w) =>
    eqParts_cons (run_part_int w 22 .u32 Try.underlying22 (ancC a) o _ h1) (run_part_int w 22 .u32 Try.underlying22 (ancC b) o _ h2) (run_equalIn_int w (d + 1) 22 .u32 .u32 x y Try.underlying22) hl
  have iW := fun (o : Nat) (x y : Int) (l : List (Bool × TypeId × Nat)) (s : Bool) (h1 : (ancC a)[o]? = some (.int .u64 x)) (h2 : (ancC b)[o]? = some (.int .u64 y)) (hl : (eqParts (d + 2) (ancC a) (ancC b) l).run Try.prog w = .ok s w) =>
    eqParts_cons (run_part_int w 24 .u64 Try.underlying24 (ancC a) o _ h1) (run_part_int w 24 .u64 Try.underlying24 (ancC b) o _ h2) (run_equalIn_int w (d + 1) 24 .u64 .u64 x y Try.underlying24) hl
  refine iI 0 _ _ _ _ (anc0 a) (anc0 b) ?_
  refine iI 1 _ _ _ _ (anc1 a) (anc1 b) ?_
  refine iU 2 _ _ _ _ (anc2 a) (anc2 b) ?_
  refine iI 3 _ _ _ _ (anc3 a) (anc3 b) ?_
  refine eqParts_cons (run_part_arr w _ _ 32 32 Try.underlying23 info32 _ 4 _ (anc_headRow ha)) (run_part_arr w _ _ 32 32 Try.underlying23 info32 _ 4 _ (anc_headRow hb)) (eq32 d _ _ ha.head hb.head w) ?_
  refine iI 36 _ _ _ _ (anc36 ha) (anc36 hb) ?_
  refine iU 37 _ _ _ _ (anc37 ha) (anc37 hb) ?_
  refine eqParts_cons (run_part_arr w _ _ 32 32 Try.underlying23 info32 _ 38 _ (anc_rootRow ha)) (run_part_arr w _ _ 32 32 Try.underlying23 info32 _ 38 _ (anc_rootRow hb)) (eq32 d _ _ ha.root hb.root w) ?_
  exact iW 70 _ _ _ _ (anc70 ha) (anc70 hb) rfl
theorem eqlAnc (t : TypeId) (hf : (Try.prog.fieldsOf t).toList.map (fun f => (decide (f.name ≠ "_"), f.type, f.offset)) = [(true, 3, 0), (true, 3, 1), (true, 22, 2), (true, 3, 3), (true, 23, 4), (true, 3, 36), (true, 22, 37), (true, 23, 38), (true, 24, 70)])
    (hu : Try.prog.underlying t = some (.struct (Try.prog.fieldsOf t))) (hp : Try.prog.stoodInHeld t = false) (hg : Try.prog.eqGuardType Try.prog.depth t = false) {a b : Anc} (ha : a.Wf) (hb : b.Wf) (x y : Operand) (w : World) :
    (do eqGuard .eql t x y (.agg (ancC a)) (.agg (ancC b)); binOp .eql t (.agg (ancC a)) (.agg (ancC b)) : Sem Value).run Try.prog w = .ok (.bool (sameA a b)) w ∧
    (do eqGuard .neq t x y (.agg (ancC a)) (.agg (ancC b)); binOp .neq t (.agg (ancC a)) (.agg (ancC b)) : Sem Value).run Try.prog w = .ok (.bool (!sameA a b)) w := by
  have h := run_equalIn_agg w 9999 t (ancC a) (ancC b) hu hp
  rw [eqFields_parts, hf, parts_anc ha hb 9997 w] at h
  constructor
  · rw [Sem.run_bind, run_eqGuard_agg w .eql t x y _ _ hg, Result.andThen_ok, run_eql_struct, h]; rfl
  · rw [Sem.run_bind, run_eqGuard_agg w .neq t x y _ _ hg, Result.andThen_ok, run_neq_struct, h]; rfl
theorem eqlR {a b : Anc} (ha : a.Wf) (hb : b.Wf) (x y : Operand) (w : World) : (do eqGuard .eql 26 x y (.agg (ancC a)) (.agg (ancC b)); binOp .eql 26 (.agg (ancC a)) (.agg (ancC b)) : Sem Value).run Try.prog w = .ok (.bool (sameA a b)) w :=
  (eqlAnc _ (by kernel_rfl) (by kernel_rfl) (by kernel_rfl) (by kernel_rfl) ha hb x y w).1
theorem eqlP {a b : Anc} (ha : a.Wf) (hb : b.Wf) (x y : Operand) (w : World) : (do eqGuard .eql 31 x y (.agg (ancC a)) (.agg (ancC b)); binOp .eql 31 (.agg (ancC a)) (.agg (ancC b)) : Sem Value).run Try.prog w = .ok (.bool (sameA a b)) w :=
  (eqlAnc _ (by kernel_rfl) (by kernel_rfl) (by kernel_rfl) (by kernel_rfl) ha hb x y w).1
theorem neqP {a b : Anc} (ha : a.Wf) (hb : b.Wf) (x y : Operand) (w : World) : (do eqGuard .neq 31 x y (.agg (ancC a)) (.agg (ancC b)); binOp .neq 31 (.agg (ancC a)) (.agg (ancC b)) : Sem Value).run Try.prog w = .ok (.bool (!sameA a b)) w :=
  (eqlAnc _ (by kernel_rfl) (by kernel_rfl) (by kernel_rfl) (by kernel_rfl) ha hb x y w).2
end Sha
end Go.Proofs.Ytknaimpnkflfnaa
