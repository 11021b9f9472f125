/- Seal: mathematics of references, sealed blocks and clashes. References as values: zero, built, compared. A slice beside a row; how calls end that tell bytes, a reference, a number. Node's pages: mathematics. Node's pages: which pages are pages of references (mathematics of a reader that looks at the pieces, and at what is behind them). Slices of references. One of an own slice's references is stored over. A struct of six references and how many: as one value; as a call's own; one of them stored over. copy of references into an own slice of references. The document's Lay of a reference. The document's Lay of a node's page. The document's Parse of a reference (written by sealparse.py). -/
import Derived.Test.YtfbhbdllbapnpaaBA
import Derived.Laws.Tables
import Derived.OwnWalk
import Derived.Deep.DeepCutAuto
namespace Go.Proofs.Ytfbhbdllbapnpaa
namespace Sha
open Go.RowKit Mem
/-- A reference, its digest as a list. -/
structure RefV where
  pl : Int
  ep : BitVec 32
  dg : List (BitVec 8)
structure RefV.Wf (r : RefV) : Prop where
  p0 : -9223372036854775808 ≤ r.pl
  p1 : r.pl ≤ 9223372036854775807
  dg : r.dg.length = 32
/-- Its cells. -/
def refL (r : RefV) : List Value := [.int .i64 r.pl, .int .u32 (V r.ep)] ++ u8s r.dg
def refC (r : RefV) : Array Value := (refL r).toArray
theorem refC_size {r : RefV} (h : r.Wf) : (refC r).size = 34 := by simp [refC, refL, u8s_length, h.dg]
theorem refC_one (r : RefV) : (refC r).all (·.oneCell') = true := by
  rw [Array.all_eq_true]
  intro i hi
  have hm : (refC r)[i] ∈ refL r := by
    have h : (refC r)[i] ∈ refC r := Array.getElem_mem hi
    exact Array.mem_toList_iff.2 h
  generalize (refC r)[i] = u at hm
  simp only [refL, List.mem_append, List.mem_cons, List.not_mem_nil, or_false] at hm
  rcases hm with (rfl | rfl) | hm
  all_goals first | rfl | exact u8s_cells _ _ hm
theorem ref0 (r : RefV) : (refC r)[0]? = some (.int .i64 r.pl) := by simp [refC, refL]
theorem ref1 (r : RefV) : (refC r)[1]? = some (.int .u32 (V r.ep)) := by simp [refC, refL]
theorem ref_dg {r : RefV} (h : r.Wf) (i : Nat) (hi : i < 32) : (refC r)[2 + i]? = some (.int .u8 ((r.dg.getD i 0).toNat : Int)) := by
  have e := u8s_get r.dg i (by rw [h.dg]; exact hi)
  rw [← e]
  simp only [refC, refL, List.getElem?_toArray]
  rw [List.getElem?_append_right (by simp)]
  simp
theorem ref_dgRow {r : RefV} (h : r.Wf) : (refC r).extract 2 (2 + 32) = (u8s r.dg).toArray := by
  apply Array.ext'
  simp [refC, refL]
  exact List.take_of_length_le (by rw [u8s_length, h.dg]; exact Nat.le_refl _)
def zref : RefV := ⟨0, 0, List.replicate 32 0⟩
theorem zref_wf : zref.Wf := ⟨by decide, by decide, by decide⟩
theorem V_inj {x y : BitVec 32} (h : V x = V y) : x = y := by
  apply BitVec.eq_of_toNat_eq
  have : (x.toNat : Int) = (y.toNat : Int) := h
  omega
def sameRef (a b : RefV) : Bool := (a.pl == b.pl) && ((V a.ep == V b.ep) && (a.dg == b.dg))
theorem sameRef_iff (a b : RefV) : sameRef a b = true ↔ a = b := by
  obtain ⟨p, e, d⟩ := a
  obtain ⟨p', e', d'⟩ := b
  simp only [sameRef, Bool.and_eq_true, beq_iff_eq, RefV.mk.injEq]
  exact ⟨fun ⟨h1, h2, h3⟩ => ⟨h1, V_inj h2, h3⟩, fun ⟨h1, h2, h3⟩ => ⟨h1, by rw [h2], h3⟩⟩
theorem sameRef_self (a : RefV) : sameRef a a = true := (sameRef_iff a a).2 rfl
/-- A reference's bytes; the reference of bytes. -/
def layRf (r : RefV) : List (BitVec 8) := [BitVec.ofInt 8 r.pl] ++ le4 r.ep ++ r.dg
theorem layRf_length {r : RefV} (h : r.Wf) : (layRf r).length = 37 := by simp [layRf, le4, h.dg]
def rfOf (b : List (BitVec 8)) : RefV := ⟨((b.getD 0 0).toNat : Int), lew (b.drop 1) 0, b.drop 5⟩
theorem rfOf_wf (b : List (BitVec 8)) (h : b.length = 37) : (rfOf b).Wf := by
  have := (b.getD 0 0).isLt
  exact ⟨by show _ ≤ ((b.getD 0 0).toNat : Int); omega, by show ((b.getD 0 0).toNat : Int) ≤ _; omega, by simp [rfOf, h]⟩
/-- Parse: the reference, and the error. -/
def parseRf (b : List (BitVec 8)) : RefV × Int := if b.length ≠ 37 ∨ 1 < (b.getD 0 0).toNat then (zref, 1) else (rfOf b, 0)
theorem parseRf_wf (b : List (BitVec 8)) : (parseRf b).1.Wf := by
  unfold parseRf
  split
  · exact zref_wf
  · rename_i h; exact rfOf_wf b (by omega)
theorem lew_le4 (x : BitVec 32) (t : List (BitVec 8)) : lew (le4 x ++ t) 0 = x := by
  simp only [lew, le4, List.cons_append, List.nil_append, Nat.mul_zero, Nat.zero_add, List.getD_cons_zero, List.getD_cons_succ, wb]
  apply BitVec.eq_of_getLsbD_eq
  intro i hi
  simp only [BitVec.getLsbD_or, BitVec.getLsbD_shiftLeft, BitVec.getLsbD_setWidth, BitVec.getLsbD_ushiftRight]
  rcases (by omega : i < 8 ∨ (8 ≤ i ∧ i < 16) ∨ (16 ≤ i ∧ i < 24) ∨ 24 ≤ i) with h | h | h | h
  · simp [hi, h, show i < 24 by omega, show i < 16 by omega]
  · simp [hi, show ¬ i < 8 by omega, show i < 24 by omega, show i < 16 by omega, show i - 8 < 8 by omega, show i - 8 < 32 by omega, show 8 + (i - 8) = i by omega]
  · simp [hi, show ¬ i < 8 by omega, show i < 24 by omega, show ¬ i < 16 by omega, show ¬ i - 8 < 8 by omega, show i - 16 < 8 by omega, show i - 16 < 32 by omega, show 16 + (i - 16) = i by omega]
  · simp [hi, show ¬ i < 8 by omega, show ¬ i < 24 by omega, show ¬ i < 16 by omega, show ¬ i - 8 < 8 by omega, show ¬ i - 16 < 8 by omega, show i - 24 < 8 by omega, show i - 24 < 32 by omega, show 24 + (i - 24) = i by omega]
theorem le4_lew (a b c d : BitVec 8) (t : List (BitVec 8)) : le4 (lew (a :: b :: c :: d :: t) 0) = [a, b, c, d] := by
  have key : ∀ (k : Nat) (z : BitVec 8), (∀ i, i < 8 → (lew (a :: b :: c :: d :: t) 0).getLsbD (k + i) = z.getLsbD i) → wb (lew (a :: b :: c :: d :: t) 0) k = z := by
    intro k z h
    apply BitVec.eq_of_getLsbD_eq
    intro i hi
    rw [wb, BitVec.getLsbD_setWidth, BitVec.getLsbD_ushiftRight]
    simp [hi, h i hi]
  have z8 : ∀ (y : BitVec 8) (i : Nat), 8 ≤ i → y.getLsbD i = false := fun y i h => BitVec.getLsbD_of_ge y i h
  have hl : ∀ i, (lew (a :: b :: c :: d :: t) 0).getLsbD i = (((decide (i < 32) && !decide (i < 24) && (decide (i - 24 < 32) && d.getLsbD (i - 24))) || (decide (i < 32) && !decide (i < 16) && (decide (i - 16 < 32) && c.getLsbD (i - 16)))) || (decide (i < 32) && !decide (i < 8) && (decide (i - 8 < 32) && b.getLsbD (i - 8)))
      || (decide (i < 32) && a.getLsbD i)) := by
    intro i
    simp only [lew, Nat.mul_zero, Nat.zero_add, List.getD_cons_zero, List.getD_cons_succ, BitVec.getLsbD_or, BitVec.getLsbD_shiftLeft, BitVec.getLsbD_setWidth]
  simp only [le4]
  rw [key 0 a, key 8 b, key 16 c, key 24 d]
  · intro i hi
    rw [hl]
    simp [show 24 + i < 32 by omega, show ¬ 24 + i < 24 by omega, show ¬ 24 + i < 16 by omega, show ¬ 24 + i < 8 by omega, show 24 + i - 24 = i by omega, z8 c (24 + i - 16) (by omega), z8 b (24 + i - 8) (by omega), z8 a (24 + i) (by omega), show i < 32 by omega]
  · intro i hi
    rw [hl]
    simp [show 16 + i < 32 by omega, show 16 + i < 24 by omega, show ¬ 16 + i < 16 by omega, show ¬ 16 + i < 8 by omega, show 16 + i - 16 = i by omega, z8 b (16 + i - 8) (by omega), z8 a (16 + i) (by omega), show i < 32 by omega]
  · intro i hi
    rw [hl]
    simp [show 8 + i < 32 by omega, show 8 + i < 24 by omega, show 8 + i < 16 by omega, show ¬ 8 + i < 8 by omega, show 8 + i - 8 = i by omega, show i < 32 by omega]
  · intro i hi
    rw [hl]
    simp [hi, show i < 32 by omega, show i < 24 by omega, show i < 16 by omega]
end Sha
end Go.Proofs.Ytfbhbdllbapnpaa
namespace Go.Proofs.Ytfbhbdllbapnpaa
namespace Sha
open Go.RowKit Mem
theorem allocRfR (w : World) : (Instr.alloc 37 true (.tuple #[])).run Try.prog w = .ok (.pointer (some ⟨w.heap.size, 0, none⟩)) (w.alloc (.cells (refC zref) 37)) := by kernel_rfl
theorem zeroRfR (w : World) : (zeroValue 37).run Try.prog w = .ok (.agg (refC zref)) w := by kernel_rfl
theorem zeroRfP (w : World) : (zeroValue 42).run Try.prog w = .ok (.agg (refC zref)) w := by kernel_rfl
theorem buildRf0 (w : World) : (Instr.build 37 #[]).run Try.prog w = .ok (.agg (refC zref)) w := run_build w _ _ _ (by kernel_rfl)
theorem buildRf1 (p : Int) (w : World) : (Instr.build 37 #[(0, .int .i64 p)]).run Try.prog w = .ok (.agg (refC ⟨p, 0, List.replicate 32 0⟩)) w := run_build w _ _ _ (by kernel_rfl)
theorem buildRf3 (p : Int) (e : BitVec 32) (dg : List (BitVec 8)) (h : dg.length = 32) (w : World) : (Instr.build 37 #[(0, .int .i64 p), (1, .int .u32 (V e)), (2, .agg (u8s dg).toArray)]).run Try.prog w = .ok (.agg (refC ⟨p, e, dg⟩)) w := by
  match dg, h with
  | [a0, a1, a2, a3, a4, a5, a6, a7, a8, a9, a10, a11, a12, a13, a14, a15, a16, a17, a18, a19, a20, a21, a22, a23, a24, a25, a26, a27, a28, a29, a30, a31], _ => exact run_build w _ _ _ (by kernel_rfl)
theorem infoRfR : (Try.prog.info? 37).map (·.size) = some 34 := by kernel_rfl
theorem infoRfP : (Try.prog.info? 42).map (·.size) = some 34 := by kernel_rfl
theorem parts_ref {a b : RefV} (ha : a.Wf) (hb : b.Wf) (d : Nat) (w : World) : (eqParts (d + 2) (refC a) (refC b) [(true, 3, 0), (true, 34, 1), (true, 35, 2)]).run Try.prog w = .ok (sameRef a b) w := by
  have e : sameRef a b = ((a.pl == b.pl) && ((V a.ep == V b.ep) && ((a.dg == b.dg) && true))) := by simp [sameRef]
  rw [e]
  refine eqParts_cons (run_part_int w 3 .i64 Try.underlying3 (refC a) 0 _ (ref0 a)) (run_part_int w 3 .i64 Try.underlying3 (refC b) 0 _ (ref0 b)) (run_equalIn_int w (d + 1) 3 .i64 .i64 _ _ Try.underlying3) ?_
  refine eqParts_cons (run_part_int w 34 .u32 Try.underlying34 (refC a) 1 _ (ref1 a)) (run_part_int w 34 .u32 Try.underlying34 (refC b) 1 _ (ref1 b)) (run_equalIn_int w (d + 1) 34 .u32 .u32 _ _ Try.underlying34) ?_
  exact eqParts_cons (run_part_arr w _ _ 32 32 Try.underlying35 infoDg _ 2 _ (ref_dgRow ha)) (run_part_arr w _ _ 32 32 Try.underlying35 infoDg _ 2 _ (ref_dgRow hb)) (eq32 d _ _ ha.dg hb.dg w) rfl
theorem eqlRf (t : TypeId) (hf : (Try.prog.fieldsOf t).toList.map (fun f => (decide (f.name ≠ "_"), f.type, f.offset)) = [(true, 3, 0), (true, 34, 1), (true, 35, 2)])
    (hu : Try.prog.underlying t = some (.struct (Try.prog.fieldsOf t))) (hp : Try.prog.stoodInHeld t = false) (hg : Try.prog.eqGuardType Try.prog.depth t = false) {a b : RefV} (ha : a.Wf) (hb : b.Wf) (x y : Operand) (w : World) :
    (do eqGuard .eql t x y (.agg (refC a)) (.agg (refC b)); binOp .eql t (.agg (refC a)) (.agg (refC b)) : Sem Value).run Try.prog w = .ok (.bool (sameRef a b)) w ∧
    (do eqGuard .neq t x y (.agg (refC a)) (.agg (refC b)); binOp .neq t (.agg (refC a)) (.agg (refC b)) : Sem Value).run Try.prog w = .ok (.bool (!sameRef a b)) w := by
  have h := run_equalIn_agg w 9999 t (refC a) (refC b) hu hp
  rw [eqFields_parts, hf, parts_ref ha hb 9997 w] at h
  constructor
  · rw [Sem.run_bind, run_eqGuard_agg w .eql t x y _ _ hg, Result.andThen_ok, run_eql_struct, h]; rfl
  · rw [Sem.run_bind, run_eqGuard_agg w .neq t x y _ _ hg, Result.andThen_ok, run_neq_struct, h]; rfl
theorem eqlRR {a b : RefV} (ha : a.Wf) (hb : b.Wf) (x y : Operand) (w : World) : (do eqGuard .eql 37 x y (.agg (refC a)) (.agg (refC b)); binOp .eql 37 (.agg (refC a)) (.agg (refC b)) : Sem Value).run Try.prog w = .ok (.bool (sameRef a b)) w :=
  (eqlRf _ (by kernel_rfl) (by kernel_rfl) (by kernel_rfl) (by kernel_rfl) ha hb x y w).1
theorem neqRR {a b : RefV} (ha : a.Wf) (hb : b.Wf) (x y : Operand) (w : World) : (do eqGuard .neq 37 x y (.agg (refC a)) (.agg (refC b)); binOp .neq 37 (.agg (refC a)) (.agg (refC b)) : Sem Value).run Try.prog w = .ok (.bool (!sameRef a b)) w :=
  (eqlRf _ (by kernel_rfl) (by kernel_rfl) (by kernel_rfl) (by kernel_rfl) ha hb x y w).2
theorem eqlRP {a b : RefV} (ha : a.Wf) (hb : b.Wf) (x y : Operand) (w : World) : (do eqGuard .eql 42 x y (.agg (refC a)) (.agg (refC b)); binOp .eql 42 (.agg (refC a)) (.agg (refC b)) : Sem Value).run Try.prog w = .ok (.bool (sameRef a b)) w :=
  (eqlRf _ (by kernel_rfl) (by kernel_rfl) (by kernel_rfl) (by kernel_rfl) ha hb x y w).1
end Sha
end Go.Proofs.Ytfbhbdllbapnpaa
namespace Go.Proofs.Ytfbhbdllbapnpaa
namespace Sha
open Go.RowKit Mem
theorem infoU9 : (Try.prog.info? 34).map (·.size) = some 1 := by kernel_rfl
theorem wb_pow9 (x : BitVec 32) (k : Nat) : V x / 2 ^ k % 256 = ((wb x k).toNat : Int) := wb_val x k _ (by simp)
/-- A slice that is longer than a block lies elsewhere. -/
theorem sl_row {w : World} {g : Nat} {v : Value} {l : List (BitVec 8)} {Z : Array Value} {t : TypeId} (h : Sl w v l) (hg : At w g Z t) (hs : Z.size < l.length) (M : Array Value) : Sl (w.setRow g M) v l := by
  obtain ⟨a, cap, e, hc, hr⟩ := h
  refine ⟨a, cap, e, hc, fun hne => ?_⟩
  obtain ⟨bb, oo, ea, hlt, hcell⟩ := hr hne
  have hb : bb ≠ g := by
    rintro rfl
    have h1 := hcell (l.length - 1) (by omega)
    rw [hg.cell, Array.getElem?_eq_none (by omega)] at h1
    cases h1
  refine ⟨bb, oo, ea, by simpa using hlt, fun i hi => ?_⟩
  rw [World.cell?_of_block (w := w) (w' := w.setRow g M) (a := ⟨bb, oo + i, none⟩) (setRow_other w g bb M hb)]
  exact hcell i hi
/-- It returns a slice that reads as l, and n. -/
def SealEnd (w : World) (l : List (BitVec 8)) (n : Int) (e : Ending) (w' : World) : Prop := ∃ v, e = .returned (.tuple #[v, .int .i64 n]) ∧ Sl w' v l ∧ Below w.heap.size w w'
theorem sl_inv {w : World} {v : Value} {l : List (BitVec 8)} (h : Sl w v l) : ∃ a c, v = .slice a l.length c := let ⟨a, c, e, _⟩ := h; ⟨a, c, e⟩
/-- The end of a function with three results, the second one a row in memory. -/
theorem ret_tmp_row_tmp {P : Program} {fn : Func} {R : Ending → World → Prop} {tmps : Array Value} {w : World} {q p u : Tmp} {ty : TypeId} (h : fn.results = #[.tmp q, .cell p ty, .tmp u]) (g : Nat) (t : TypeId) (cs : Array Value) (d : TypeDesc) (v1 v : Value)
    (hq : tmps.getD q undef = v1) (hp : tmps.getD p undef = .pointer (some ⟨g, 0, none⟩)) (hv : tmps.getD u undef = v) (hg : At w g cs t) (hu : P.underlying ty = some d) (hd : d.isRow = true) (hi : (P.info? ty).map (·.size) = some cs.size)
    (hR : R (.returned (.tuple #[v1, .agg cs, v])) w) : bodyPost P fn R .ret ⟨tmps, []⟩ w := by
  refine bodyPost_ret (v := .tuple #[v1, .agg cs, v]) ?_ rfl hR
  have hrow := run_loadVar_row (P := P) w g t ty cs (0, 0) d hg hu (by cases d <;> first | rfl | exact hd) hi
  rw [Array.getD_eq_getD_getElem?] at hq hp hv
  simp only [results, h]
  simp [Result.andThen, hq, hp, hv, asAddr, hrow]
/-- It returns a slice that reads as l, a reference, and n. -/
def ThreeEnd (w : World) (l : List (BitVec 8)) (r : RefV) (n : Int) (e : Ending) (w' : World) : Prop := ∃ v, e = .returned (.tuple #[v, .agg (refC r), .int .i64 n]) ∧ Sl w' v l ∧ Below w.heap.size w w'
theorem buildPf0 (w : World) : (Instr.build 42 #[]).run Try.prog w = .ok (.agg (refC zref)) w := run_build w _ _ _ (by kernel_rfl)
end Sha
end Go.Proofs.Ytfbhbdllbapnpaa
namespace Go.Proofs.Ytfbhbdllbapnpaa
namespace Sha
open Go.RowKit Mem
/-- Is a reference's place one? -/
def plOk (r : RefV) : Bool := decide (0 ≤ r.pl ∧ r.pl ≤ 1)
/-- The bytes of a page's first so many references, with how many ahead of them. -/
def bodyN (L : List RefV) (n : Nat) : List (BitVec 8) := BitVec.ofNat 8 L.length :: (L.take n).flatMap layRf
theorem bodyN_succ (L : List RefV) (n : Nat) (h : n < L.length) : bodyN L (n + 1) = bodyN L n ++ layRf (L.getD n zref) := by
  unfold bodyN
  rw [List.take_add_one, List.getElem?_eq_getElem h, List.flatMap_append]
  simp [List.getD_eq_getElem?_getD, List.getElem?_eq_getElem h]
theorem flat_length (L : List RefV) (h : ∀ r ∈ L, r.Wf) : (L.flatMap layRf).length = 37 * L.length := by
  induction L with
  | nil => rfl
  | cons r L ih =>
    rw [List.flatMap_cons, List.length_append, layRf_length (h r (List.mem_cons_self ..)), ih (fun x hx => h x (List.mem_cons_of_mem _ hx)), List.length_cons]
    omega
theorem bodyN_length (L : List RefV) (n : Nat) (h : ∀ r ∈ L, r.Wf) (hn : n ≤ L.length) : (bodyN L n).length = 1 + 37 * n := by
  unfold bodyN
  rw [List.length_cons, flat_length _ (fun r hr => h r (List.mem_of_mem_take hr)), List.length_take]
  omega
/-- Lay: the page, and the error. -/
def layN (L : List RefV) : List (BitVec 8) × Int :=
  if L.length < 1 ∨ 6 < L.length ∨ L.all plOk = false then ([], 1) else (bodyN L L.length ++ List.replicate (256 - (1 + 37 * L.length)) 0, 0)
theorem layN_ok {L : List RefV} {p : List (BitVec 8)} (h : layN L = (p, 0)) : (1 ≤ L.length ∧ L.length ≤ 6) ∧ L.all plOk = true ∧ p = bodyN L L.length ++ List.replicate (256 - (1 + 37 * L.length)) 0 := by
  unfold layN at h
  split at h
  · injection h with _ h; cases h
  · rename_i hc
    injection h with h _
    refine ⟨by omega, ?_, h.symm⟩
    cases e : L.all plOk
    · exact absurd (Or.inr (Or.inr e)) hc
    · rfl
theorem layN_bad {L : List RefV} (h : (layN L).2 ≠ 0) : layN L = ([], 1) := by
  unfold layN at *
  split at h
  · rename_i hc; rw [if_pos hc]
  · exact absurd rfl h
theorem layN_err (L : List RefV) : (layN L).2 = 0 ∨ (layN L).2 = 1 := by
  unfold layN
  split
  · exact .inr rfl
  · exact .inl rfl
theorem layN_length {L : List RefV} {p : List (BitVec 8)} (hw : ∀ r ∈ L, r.Wf) (h : layN L = (p, 0)) : p.length = 256 := by
  obtain ⟨h1, _, rfl⟩ := layN_ok h
  rw [List.length_append, bodyN_length L _ hw (Nat.le_refl _), List.length_replicate]
  omega
/-- A page's pieces; its references, as many as it tells. -/
def pieceN (p : List (BitVec 8)) (i : Nat) : List (BitVec 8) := (p.drop (1 + 37 * i)).take 37
def manyN (p : List (BitVec 8)) : Nat := min (p.getD 0 0).toNat 6
def refsN (p : List (BitVec 8)) (n : Nat) : List RefV := (List.range n).map fun i => rfOf (pieceN p i)
theorem refsN_length (p : List (BitVec 8)) (n : Nat) : (refsN p n).length = n := by simp [refsN]
theorem refsN_succ (p : List (BitVec 8)) (n : Nat) : refsN p (n + 1) = refsN p n ++ [rfOf (pieceN p n)] := by simp [refsN, List.range_succ]
theorem refsN_get (p : List (BitVec 8)) (n i : Nat) (h : i < n) : (refsN p n).getD i zref = rfOf (pieceN p i) := by simp [refsN, List.getD_eq_getElem?_getD, h]
theorem piece_length (p : List (BitVec 8)) (i : Nat) (h : p.length = 256) (hi : i < 6) : (pieceN p i).length = 37 := by
  unfold pieceN
  rw [List.length_take, List.length_drop]
  omega
theorem refsN_wf (p : List (BitVec 8)) (n : Nat) (h : p.length = 256) (hn : n ≤ 6) : ∀ r ∈ refsN p n, r.Wf := by
  intro r hr
  unfold refsN at hr
  obtain ⟨i, hi, rfl⟩ := List.mem_map.1 hr
  exact rfOf_wf _ (piece_length p i h (by have := List.mem_range.1 hi; omega))
/-- All of a page's references, and the error. -/
def allN (p : List (BitVec 8)) : List RefV × Int :=
  if p.length ≠ 256 then ([], 1) else if layN (refsN p (manyN p)) = (p, 0) then (refsN p (manyN p), 0) else ([], 9)
/-- Parse, Get, Set. -/
def parseN (p : List (BitVec 8)) (z : Int) : List RefV × Int :=
  if z < 1 ∨ 6 < z then ([], 1) else if (allN p).2 = 0 ∧ ((allN p).1.length : Int) ≠ z then ([], 9) else allN p
def getN (p : List (BitVec 8)) (z : Int) : RefV × Int :=
  if (allN p).2 ≠ 0 then (zref, (allN p).2) else if z < 0 ∨ ((allN p).1.length : Int) ≤ z then (zref, 1) else ((allN p).1.getD z.toNat zref, 0)
def setN (p : List (BitVec 8)) (z : Int) (r : RefV) : List (BitVec 8) × Int :=
  if (getN p z).2 ≠ 0 then ([], (getN p z).2) else layN ((allN p).1.set z.toNat r)
theorem bad_piece (p : List (BitVec 8)) (i n : Nat) (hi : i < n) (h : 1 < ((pieceN p i).getD 0 0).toNat) : layN (refsN p n) = ([], 1) := by
  unfold layN
  refine if_pos (Or.inr (Or.inr ?_))
  rw [List.all_eq_false]
  refine ⟨rfOf (pieceN p i), List.mem_map.2 ⟨i, List.mem_range.2 hi, rfl⟩, ?_⟩
  have e : (rfOf (pieceN p i)).pl = (((pieceN p i).getD 0 0).toNat : Int) := rfl
  unfold plOk
  rw [e]
  intro hc
  have h2 := of_decide_eq_true hc
  omega
theorem allN_lay {p : List (BitVec 8)} {L : List RefV} (h : allN p = (L, 0)) : layN L = (p, 0) := by
  unfold allN at h
  split at h
  · injection h with _ h; cases h
  · split at h
    · rename_i h2
      injection h with h _
      rw [← h]; exact h2
    · injection h with _ h; cases h
/-- What is laid is parsed. -/
theorem ref_back (r : RefV) (hr : r.Wf) (h : plOk r = true) : rfOf (layRf r) = r := by
  have h2 : 0 ≤ r.pl ∧ r.pl ≤ 1 := by simpa [plOk] using h
  obtain ⟨p, e, d⟩ := r
  have hd : d.length = 32 := hr.dg
  have hp : p = 0 ∨ p = 1 := by simp only at h2; omega
  unfold rfOf layRf
  rw [RefV.mk.injEq]
  refine ⟨?_, ?_, ?_⟩
  · rcases hp with rfl | rfl <;> rfl
  · show lew (([BitVec.ofInt 8 p] ++ le4 e ++ d).drop 1) 0 = e
    exact lew_le4 e d
  · show ([BitVec.ofInt 8 p] ++ le4 e ++ d).drop 5 = d
    rfl
theorem flat_piece : ∀ (L : List RefV) (t : List (BitVec 8)), (∀ r ∈ L, r.Wf) → ∀ i, i < L.length → ((L.flatMap layRf ++ t).drop (37 * i)).take 37 = layRf (L.getD i zref) := by
  intro L
  induction L with
  | nil => intro t _ i hi; simp at hi
  | cons r L ih =>
    intro t h i hi
    have hl := layRf_length (h r (List.mem_cons_self ..))
    rw [List.flatMap_cons, List.append_assoc]
    match i with
    | 0 =>
      show (layRf r ++ _).take 37 = layRf r
      rw [List.take_append_of_le_length (by omega), List.take_of_length_le (by omega)]
    | i + 1 =>
      have e : 37 * (i + 1) = (layRf r).length + 37 * i := by omega
      rw [e, List.drop_append, List.drop_of_length_le (by omega), List.nil_append, Nat.add_sub_cancel_left]
      exact ih t (fun x hx => h x (List.mem_cons_of_mem _ hx)) i (by simpa using hi)
theorem lay_piece {L : List RefV} {p : List (BitVec 8)} (hw : ∀ r ∈ L, r.Wf) (h : layN L = (p, 0)) (i : Nat) (hi : i < L.length) : pieceN p i = layRf (L.getD i zref) := by
  obtain ⟨_, _, rfl⟩ := layN_ok h
  unfold pieceN bodyN
  rw [List.take_of_length_le (Nat.le_refl _), List.cons_append, Nat.add_comm 1 (37 * i), List.drop_succ_cons]
  exact flat_piece L _ hw i hi
theorem lay_many {L : List RefV} {p : List (BitVec 8)} (h : layN L = (p, 0)) : manyN p = L.length ∧ (p.getD 0 0).toNat = L.length := by
  obtain ⟨h1, _, rfl⟩ := layN_ok h
  have e : ((bodyN L L.length ++ List.replicate (256 - (1 + 37 * L.length)) 0).getD 0 0).toNat = L.length := by
    show (BitVec.ofNat 8 L.length).toNat = L.length
    rw [BitVec.toNat_ofNat]
    omega
  unfold manyN
  rw [e]
  omega
theorem lay_refs {L : List RefV} {p : List (BitVec 8)} (hw : ∀ r ∈ L, r.Wf) (h : layN L = (p, 0)) : refsN p L.length = L := by
  have ho := (layN_ok h).2.1
  apply List.ext_getElem
  · rw [refsN_length]
  · intro i h1 h2
    have a := refsN_get p L.length i h2
    rw [lay_piece hw h i h2] at a
    have e : L.getD i zref = L[i] := by simp [List.getD_eq_getElem?_getD, h2]
    rw [e, ref_back L[i] (hw _ (List.getElem_mem h2)) (List.all_eq_true.1 ho _ (List.getElem_mem h2))] at a
    rw [← a]
    simp [List.getD_eq_getElem?_getD, h1]
theorem lay_all {L : List RefV} {p : List (BitVec 8)} (hw : ∀ r ∈ L, r.Wf) (h : layN L = (p, 0)) : allN p = (L, 0) := by
  unfold allN
  rw [if_neg (fun hn => hn (layN_length hw h)), (lay_many h).1, lay_refs hw h, if_pos h]
theorem lay_parse {L : List RefV} {p : List (BitVec 8)} (hw : ∀ r ∈ L, r.Wf) (h : layN L = (p, 0)) : parseN p (L.length : Int) = (L, 0) := by
  have h1 := (layN_ok h).1
  unfold parseN
  rw [lay_all hw h, if_neg (by omega), if_neg (by simp)]
theorem allN_wf (p : List (BitVec 8)) : ∀ r ∈ (allN p).1, r.Wf := by
  unfold allN
  split
  · intro r hr; cases hr
  · rename_i h
    split
    · exact refsN_wf p _ (by omega) (by unfold manyN; omega)
    · intro r hr; cases hr
theorem allN_le (p : List (BitVec 8)) : (allN p).1.length ≤ 6 := by
  unfold allN
  split
  · simp
  · split
    · rw [refsN_length]; unfold manyN; omega
    · simp
end Sha
end Go.Proofs.Ytfbhbdllbapnpaa
namespace Go.Proofs.Ytfbhbdllbapnpaa
namespace Sha
open Go.RowKit Mem
theorem lay_rfOf (b : List (BitVec 8)) (hl : b.length = 37) : layRf (rfOf b) = b := by
  match b, hl with
  | b0 :: b1 :: b2 :: b3 :: b4 :: t, _ =>
    have e0 : BitVec.ofInt 8 ((b0.toNat : Nat) : Int) = b0 := by
      apply BitVec.eq_of_toNat_eq
      have := b0.isLt
      rw [BitVec.toNat_ofInt]
      omega
    have e1 := le4_lew b1 b2 b3 b4 t
    show [BitVec.ofInt 8 ((b0.toNat : Nat) : Int)] ++ le4 (lew (b1 :: b2 :: b3 :: b4 :: t) 0) ++ t = _
    rw [e0, e1]; rfl
theorem pieces_flat (p : List (BitVec 8)) (hp : p.length = 256) : ∀ m, m ≤ 6 → (refsN p m).flatMap layRf = (p.drop 1).take (37 * m) := by
  intro m
  induction m with
  | zero => intro _; rfl
  | succ m ih =>
    intro hm
    rw [refsN_succ, List.flatMap_append, ih (by omega)]
    have e : [rfOf (pieceN p m)].flatMap layRf = pieceN p m := by
      rw [List.flatMap_cons, List.flatMap_nil, List.append_nil]
      exact lay_rfOf _ (piece_length p m hp (by omega))
    rw [e]
    unfold pieceN
    rw [show 37 * (m + 1) = 37 * m + 37 by omega, List.take_add, List.drop_drop]
theorem body_page (p : List (BitVec 8)) (hp : p.length = 256) (m : Nat) (hm : m ≤ 6) (h0 : (p.getD 0 0).toNat = m) : bodyN (refsN p m) m = p.take (1 + 37 * m) := by
  have hl := refsN_length p m
  unfold bodyN
  rw [hl, List.take_of_length_le (by rw [hl]; exact Nat.le_refl _), pieces_flat p hp m hm]
  match p, hp with
  | x :: t, _ =>
    have hx : x.toNat = m := h0
    have e : BitVec.ofNat 8 m = x := by
      apply BitVec.eq_of_toNat_eq
      have := x.isLt
      rw [BitVec.toNat_ofNat, hx]
      omega
    rw [e, Nat.add_comm 1, List.take_succ_cons]; rfl
/-- Do only zeros stand from here on? -/
def zerosFrom (p : List (BitVec 8)) (k : Nat) : Prop := ∀ j, k ≤ j → j < p.length → p.getD j 0 = 0
theorem drop_zeros (p : List (BitVec 8)) (k : Nat) (h : zerosFrom p k) : p.drop k = List.replicate (p.length - k) 0 := by
  apply List.ext_getElem
  · simp
  · intro i h1 h2
    rw [List.getElem_drop, List.getElem_replicate]
    have hi : k + i < p.length := by simp at h1; omega
    have := h (k + i) (by omega) hi
    simpa [List.getD_eq_getElem?_getD, hi] using this
theorem places_ok (p : List (BitVec 8)) (m : Nat) (h : ∀ i, i < m → ((pieceN p i).getD 0 0).toNat ≤ 1) : (refsN p m).all plOk = true := by
  rw [List.all_eq_true]
  intro r hr
  obtain ⟨i, hi, rfl⟩ := List.mem_map.1 hr
  have h1 := h i (List.mem_range.1 hi)
  exact decide_eq_true (show 0 ≤ (((pieceN p i).getD 0 0).toNat : Int) ∧ (((pieceN p i).getD 0 0).toNat : Int) ≤ 1 by omega)
/-- A page of so many references: the places are some, and zeros stand behind them. -/
theorem allN_good (p : List (BitVec 8)) (hp : p.length = 256) (m : Nat) (h0 : (p.getD 0 0).toNat = m) (h1 : 1 ≤ m) (h6 : m ≤ 6) (hpl : ∀ i, i < m → ((pieceN p i).getD 0 0).toNat ≤ 1) (hz : zerosFrom p (1 + 37 * m)) : allN p = (refsN p m, 0) := by
  have hm : manyN p = m := by unfold manyN; omega
  have hl := refsN_length p m
  have hlay : layN (refsN p m) = (p, 0) := by
    unfold layN
    rw [if_neg (by rw [hl, places_ok p m hpl]; rintro (a | a | a); omega; omega; cases a), hl, body_page p hp m h6 h0]
    have e := drop_zeros p (1 + 37 * m) hz
    rw [hp] at e
    rw [← e, List.take_append_drop]
  unfold allN
  rw [if_neg (fun x => x hp), hm, if_pos hlay]
theorem allN_few (p : List (BitVec 8)) (hp : p.length = 256) (h : (p.getD 0 0).toNat < 1 ∨ 6 < (p.getD 0 0).toNat) : allN p = ([], 9) := by
  unfold allN
  rw [if_neg (fun x => x hp)]
  refine if_neg (fun hl => ?_)
  have hm := (lay_many hl).2
  have hr := refsN_length p (manyN p)
  rw [hr] at hm
  unfold manyN at hm
  have h1 := (layN_ok hl).1
  rw [hr] at h1
  unfold manyN at h1
  omega
theorem allN_tail (p : List (BitVec 8)) (hp : p.length = 256) (m j : Nat) (h0 : (p.getD 0 0).toNat = m) (h6 : m ≤ 6) (hj : 1 + 37 * m ≤ j) (_hj2 : j < 256) (hne : p.getD j 0 ≠ 0) : allN p = ([], 9) := by
  have hm : manyN p = m := by unfold manyN; omega
  unfold allN
  rw [if_neg (fun x => x hp), hm]
  refine if_neg (fun hl => hne ?_)
  have hok := (layN_ok hl).2.2
  have hr := refsN_length p m
  rw [hr, body_page p hp m h6 h0] at hok
  rw [hok, List.getD_eq_getElem?_getD, List.getElem?_append_right (by rw [List.length_take]; omega), List.getElem?_replicate]
  split <;> rfl
theorem allN_place (p : List (BitVec 8)) (hp : p.length = 256) (m i : Nat) (h0 : (p.getD 0 0).toNat = m) (h6 : m ≤ 6) (hi : i < m) (h : 1 < ((pieceN p i).getD 0 0).toNat) : allN p = ([], 9) := by
  have hm : manyN p = m := by unfold manyN; omega
  unfold allN
  rw [if_neg (fun x => x hp), hm, bad_piece p i m hi h, if_neg (by intro e; injection e with _ e; cases e)]
end Sha
end Go.Proofs.Ytfbhbdllbapnpaa
namespace Go.Proofs.Ytfbhbdllbapnpaa
namespace Sha
open Go.RowKit Mem
def refCs (L : List RefV) : List Value := L.flatMap refL
theorem refL_length {r : RefV} (h : r.Wf) : (refL r).length = 34 := by simp [refL, u8s_length, h.dg]
theorem refCs_length (L : List RefV) (h : ∀ r ∈ L, r.Wf) : (refCs L).length = L.length * 34 := by
  induction L with
  | nil => rfl
  | cons r L ih =>
    unfold refCs at *
    rw [List.flatMap_cons, List.length_append, refL_length (h r (List.mem_cons_self ..)), ih (fun x hx => h x (List.mem_cons_of_mem _ hx)), List.length_cons]
    omega
theorem refCs_snoc (L : List RefV) (r : RefV) : refCs (L ++ [r]) = refCs L ++ refL r := by simp [refCs]
theorem refCs_take (L : List RefV) (n : Nat) (h : n < L.length) : refCs (L.take (n + 1)) = refCs (L.take n) ++ refL (L.getD n zref) := by
  unfold refCs
  rw [List.take_add_one, List.getElem?_eq_getElem h, List.flatMap_append]
  simp [List.getD_eq_getElem?_getD, List.getElem?_eq_getElem h]
theorem refCs_get : ∀ (L : List RefV), (∀ r ∈ L, r.Wf) → ∀ i k, i < L.length → k < 34 → (refCs L)[i * 34 + k]? = (refL (L.getD i zref))[k]? := by
  intro L
  induction L with
  | nil => intro _ i k hi _; simp at hi
  | cons r L ih =>
    intro h i k hi hk
    have hl := refL_length (h r (List.mem_cons_self ..))
    unfold refCs
    rw [List.flatMap_cons]
    match i with
    | 0 => rw [Nat.zero_mul, Nat.zero_add, List.getElem?_append_left (by omega)]; rfl
    | i + 1 =>
      rw [List.getElem?_append_right (by omega), hl, show (i + 1) * 34 + k - 34 = i * 34 + k by omega]
      exact ih (fun x hx => h x (List.mem_cons_of_mem _ hx)) i k (by simpa using hi) hk
theorem getD_wf {L : List RefV} (h : ∀ r ∈ L, r.Wf) (i : Nat) : (L.getD i zref).Wf := by
  rw [List.getD_eq_getElem?_getD]
  by_cases hi : i < L.length
  · rw [List.getElem?_eq_getElem hi]; exact h _ (List.getElem_mem hi)
  · rw [List.getElem?_eq_none (by omega)]; exact zref_wf
/-- A slice that reads as references. -/
def SlRf (w : World) (v : Value) (L : List RefV) : Prop :=
  ∃ a cap, v = .slice a L.length cap ∧ (L ≠ [] → ∃ b o, a = some ⟨b, o, none⟩ ∧ b < w.heap.size ∧ ∀ i, i < L.length → w.rangeAt b (o + i * 34) (refL (L.getD i zref)))
theorem SlRf.nil (w : World) : SlRf w (.slice none 0 0) [] := ⟨none, 0, rfl, fun h => absurd rfl h⟩
theorem SlRf.hd {w : World} {v : Value} {L : List RefV} (h : SlRf w v L) : ∃ a c, v = .slice a L.length c := let ⟨a, c, e, _⟩ := h; ⟨a, c, e⟩
theorem SlRf.hdn {w : World} {v : Value} {L : List RefV} {n : Nat} (h : SlRf w v L) (hn : L.length = n) : ∃ a c, v = .slice a n c := let ⟨a, c, e⟩ := h.hd; ⟨a, c, by rw [e, hn]⟩
theorem range_block {w wr : World} {b o : Nat} {cs : List Value} (h : w.rangeAt b o cs) (hb : wr.heap[b]? = w.heap[b]?) : wr.rangeAt b o cs := fun j v hv => (World.cell?_of_block (w := w) (w' := wr) (a := ⟨b, o + j, none⟩) hb).trans (h j v hv)
theorem SlRf.below {w wr : World} {v : Value} {L : List RefV} (h : SlRf w v L) (hb : Below w.heap.size w wr) : SlRf wr v L := by
  obtain ⟨a, cap, e, hr⟩ := h
  refine ⟨a, cap, e, fun hne => ?_⟩
  obtain ⟨b, o, ea, hlt, hc⟩ := hr hne
  exact ⟨b, o, ea, Nat.lt_of_lt_of_le hlt hb.size, fun i hi => range_block (hc i hi) (hb.block b hlt)⟩
theorem slrf_at {w : World} {a : Option Addr} {n c i : Nat} {L : List RefV} (h : SlRf w (.slice a n c) L) (hn : n = L.length) (hi : i < n) : ∃ b o, a = some ⟨b, o, none⟩ ∧ b < w.heap.size ∧ w.rangeAt b (o + i * 34) (refL (L.getD i zref)) := by
  obtain ⟨a', c', e, hr⟩ := h
  obtain ⟨b, o, ea, hlt, hc⟩ := hr (by intro e0; subst e0; simp at hn; omega)
  injection e with e1 _ _
  subst e1
  exact ⟨b, o, ea, hlt, hc i (by omega)⟩
theorem slrf_cell {w : World} {b o n c i : Nat} {L : List RefV} (h : SlRf w (.slice (some ⟨b, o, none⟩) n c) L) (hn : n = L.length) (hi : i < n) : w.rangeAt b (o + i * 34) (refL (L.getD i zref)) := by
  obtain ⟨b', o', e, _, cx⟩ := slrf_at h hn hi
  injection e with e
  injection e with e2 e3 _
  subst e2 e3
  exact cx
theorem range_pl {w : World} {b o : Nat} {r : RefV} (h : w.rangeAt b o (refL r)) : w.cell? ⟨b, o, none⟩ = some (.int .i64 r.pl) := by
  have := h 0 (.int .i64 r.pl) rfl
  simpa using this
/-- An own slice of references. -/
abbrev OwnRf (w : World) (B : Nat) (t : TypeId) (v : Value) (L : List RefV) : Prop := w.ownsRow B t 34 v L.length (refCs L)
theorem own_slrf {w : World} {B : Nat} {t : TypeId} {v : Value} {L : List RefV} (h : OwnRf w B t v L) (hw : ∀ r ∈ L, r.Wf) : SlRf w v L := by
  rcases h.2 with ⟨rfl, h0⟩ | ⟨g, cap, cur, rfl, _, hh, _, _, hs, ht⟩
  · have : L = [] := List.eq_nil_of_length_eq_zero h0
    subst this
    exact SlRf.nil w
  · refine ⟨_, _, rfl, fun _ => ⟨g, 0, rfl, (Array.getElem?_eq_some_iff.1 hh).1, fun i hi j u hu => ?_⟩⟩
    have hj : j < 34 := by
      have := (List.getElem?_eq_some_iff.1 hu).1
      rwa [refL_length (getD_wf hw i)] at this
    rw [cell_of_row w g _ cur _ (0, 0) hh, Nat.zero_add]
    have h1 := refCs_get L hw i j hi hj
    rw [← ht, List.getElem?_take, if_pos (by omega), Array.getElem?_toList] at h1
    rw [h1]; exact hu
theorem refL_one (r : RefV) : ∀ u ∈ refL r, u.oneCell' = true := by
  intro u hm
  simp only [refL, List.mem_append, List.mem_cons, List.not_mem_nil, or_false] at hm
  rcases hm with (rfl | rfl) | hm
  all_goals first | rfl | exact u8s_cells _ _ hm
theorem rfRR : (Try.prog.info? 37).map (fun i => (i.zero, i.size, i.bytes)) = some (some (.agg (refC zref)), 34, 48) := by kernel_rfl
theorem rfRP : (Try.prog.info? 42).map (fun i => (i.zero, i.size, i.bytes)) = some (some (.agg (refC zref)), 34, 48) := by kernel_rfl
theorem elemRR : elemR Try.prog 22 37 (.agg (refC zref)) 34 48 := ⟨Try.underlying22, rfRR⟩
theorem elemRP : elemR Try.prog 28 42 (.agg (refC zref)) 34 48 := ⟨Try.underlying28, rfRP⟩
theorem built_rr (r : RefV) (hr : r.Wf) : Try.prog.builtSlice 37 1 [(0, .agg (refC r))] = some (refC r) := by
  obtain ⟨p, e, dg⟩ := r
  have h : dg.length = 32 := hr.dg
  match dg, h with
  | [a0, a1, a2, a3, a4, a5, a6, a7, a8, a9, a10, a11, a12, a13, a14, a15, a16, a17, a18, a19, a20, a21, a22, a23, a24, a25, a26, a27, a28, a29, a30, a31], _ => show Program.builtSlice _ _ _ _ = some _; kernel_rfl
theorem built_rp (r : RefV) (hr : r.Wf) : Try.prog.builtSlice 42 1 [(0, .agg (refC r))] = some (refC r) := by
  obtain ⟨p, e, dg⟩ := r
  have h : dg.length = 32 := hr.dg
  match dg, h with
  | [a0, a1, a2, a3, a4, a5, a6, a7, a8, a9, a10, a11, a12, a13, a14, a15, a16, a17, a18, a19, a20, a21, a22, a23, a24, a25, a26, a27, a28, a29, a30, a31], _ => show Program.builtSlice _ _ _ _ = some _; kernel_rfl
/-- A literal of one reference reads. -/
theorem rd_rf {w : World} {e : TypeId} {r : RefV} (hr : r.Wf) : RdR (w.alloc (.cells (refC r) e)) 34 (.slice (some ⟨w.heap.size, 0, none⟩) 1 1) 1 (refL r) := by
  have h := rdR_new (w := w) (e := e) (C := refC r)
  rw [refC_size hr] at h
  exact h
def slenN : Value → Nat
  | .slice _ n _ => n
  | _ => 0
theorem own_slice {w : World} {B n : Nat} {v : Value} {l : List (BitVec 8)} (h : OwnB w B v l) (hn : l.length = n) : ∃ a c, v = .slice a n c := by
  rcases h.2 with ⟨rfl, h0⟩ | ⟨g, cap, cur, rfl, _⟩
  · exact ⟨none, 0, by rw [← hn, ← h0]⟩
  · exact ⟨_, _, by rw [hn]⟩
theorem ownB_v {w : World} {B : Nat} {v : Value} {l : List (BitVec 8)} (h : OwnB w B v l) : OwnV w B 5 v (u8s l) := by
  unfold OwnV
  rw [u8s_length]
  exact h
theorem ownV_b {w : World} {B : Nat} {v : Value} {l : List (BitVec 8)} (h : OwnV w B 5 v (u8s l)) : OwnB w B v l := by
  unfold OwnV at h
  rw [u8s_length] at h
  exact h
/-- It returns references, and a number. -/
def RfEnd (w : World) (L : List RefV) (n : Int) (e : Ending) (w' : World) : Prop := ∃ v, e = .returned (.tuple #[v, .int .i64 n]) ∧ SlRf w' v L ∧ Below w.heap.size w w'
/-- The same, in a block of the call's own. -/
def RfOwn (t : TypeId) (w : World) (L : List RefV) (n : Int) (e : Ending) (w' : World) : Prop := ∃ v, e = .returned (.tuple #[v, .int .i64 n]) ∧ OwnRf w' w.heap.size t v L ∧ Below w.heap.size w w'
end Sha
end Go.Proofs.Ytfbhbdllbapnpaa
namespace Go.Proofs.Ytfbhbdllbapnpaa
namespace Sha
open Go.RowKit Mem
theorem refCs_set : ∀ (L : List RefV) (i : Nat) (r : RefV), (∀ x ∈ L, x.Wf) → i < L.length → refCs (L.set i r) = (refCs L).take (i * 34) ++ refL r ++ (refCs L).drop (i * 34 + 34) := by
  intro L
  induction L with
  | nil => intro i r _ hi; simp at hi
  | cons x L ih =>
    intro i r h hi
    have hl := refL_length (h x (List.mem_cons_self ..))
    match i with
    | 0 =>
      show refL r ++ refCs L = ([] ++ refL r) ++ (refL x ++ refCs L).drop (0 * 34 + 34)
      rw [List.nil_append, List.drop_append, List.drop_of_length_le (by omega), List.nil_append, hl]
      rfl
    | i + 1 =>
      have e := ih i r (fun y hy => h y (List.mem_cons_of_mem _ hy)) (by simpa using hi)
      show refL x ++ refCs (L.set i r) = (refL x ++ refCs L).take ((i + 1) * 34) ++ refL r ++ (refL x ++ refCs L).drop ((i + 1) * 34 + 34)
      have t1 : (refL x ++ refCs L).take ((i + 1) * 34) = refL x ++ (refCs L).take (i * 34) := by
        rw [List.take_append, hl, List.take_of_length_le (show (refL x).length ≤ (i + 1) * 34 by omega), show (i + 1) * 34 - 34 = i * 34 by omega]
      have d1 : (refL x ++ refCs L).drop ((i + 1) * 34 + 34) = (refCs L).drop (i * 34 + 34) := by
        rw [List.drop_append, hl, List.drop_of_length_le (show (refL x).length ≤ (i + 1) * 34 + 34 by omega), List.nil_append, show (i + 1) * 34 + 34 - 34 = i * 34 + 34 by omega]
      rw [e, t1, d1]
      simp [List.append_assoc]
theorem splice_take (C : Array Value) (o m : Nat) (D : List Value) (h : o + D.length ≤ m) (hm : m ≤ C.size) : (Mem.splice C o D).toList.take m = (C.toList.take m).take o ++ D ++ (C.toList.take m).drop (o + D.length) := by
  have hs : C.toList.length = C.size := by simp
  have hA : (C.toList.take o ++ D).length = o + D.length := by rw [List.length_append, List.length_take, hs]; omega
  unfold Mem.splice
  show (C.toList.take o ++ D ++ C.toList.drop (o + D.length)).take m = _
  rw [List.take_append, hA, List.take_of_length_le (by omega), List.drop_take, List.take_take, Nat.min_eq_left (by omega)]
theorem own_store {w : World} {B i : Nat} {t : TypeId} {v : Value} {L : List RefV} {r : RefV} (h : OwnRf w B t v L) (hw : ∀ x ∈ L, x.Wf) (hr : r.Wf) (hi : i < L.length) :
    ∃ g cap cur, v = .slice (some ⟨g, 0, none⟩) L.length cap ∧ B ≤ g ∧ g < w.heap.size ∧ At w g cur t ∧ i * 34 + 34 ≤ cur.size ∧ OwnRf (w.setRow g (Mem.splice cur (i * 34) (refL r))) B t v (L.set i r) := by
  rcases h.2 with ⟨_, h0⟩ | ⟨g, cap, cur, rfl, hg, hh, hn, hm, hs, ht⟩
  · omega
  have hrl := refL_length hr
  have hle : i * 34 + 34 ≤ cur.size := by rw [hs]; omega
  refine ⟨g, cap, cur, rfl, hg, (Array.getElem?_eq_some_iff.1 hh).1, hh, hle, ?_, ?_⟩
  · rw [refCs_length _ (fun x hx => ?_), List.length_set]
    rcases List.mem_or_eq_of_mem_set hx with a | a
    · exact hw x a
    · rw [a]; exact hr
  · refine .inr ⟨g, cap, Mem.splice cur (i * 34) (refL r), ?_, hg, At.row (show At w g cur t from hh) _, ?_, hm, ?_, ?_⟩
    · rw [List.length_set]
    · rw [List.length_set]; exact hn
    · rw [← hs]
      unfold Mem.splice
      simp [hrl]
      omega
    · rw [List.length_set, splice_take cur (i * 34) (L.length * 34) (refL r) (by rw [hrl]; omega) (by rw [hs]; omega), ht, hrl, refCs_set L i r hw hi]
end Sha
end Go.Proofs.Ytfbhbdllbapnpaa
namespace Go.Proofs.Ytfbhbdllbapnpaa
namespace Sha
open Go.RowKit Mem
set_option maxRecDepth 100000
def tkC (L : List RefV) (n : Nat) : Array Value := (refCs L ++ [Value.int .i64 (n : Int)]).toArray
def pad6 (L : List RefV) : List RefV := L ++ List.replicate (6 - L.length) zref
theorem pad6_len {L : List RefV} (h : L.length ≤ 6) : (pad6 L).length = 6 := by simp [pad6]; omega
theorem pad6_wf {L : List RefV} (h : ∀ r ∈ L, r.Wf) : ∀ r ∈ pad6 L, r.Wf := by
  intro r hr
  rcases List.mem_append.1 hr with a | a
  · exact h r a
  · rw [(List.mem_replicate.1 a).2]; exact zref_wf
theorem pad6_take (L : List RefV) : (pad6 L).take L.length = L := by simp [pad6]
theorem pad6_get {L : List RefV} {i : Nat} (h : i < L.length) : (pad6 L).getD i zref = L.getD i zref := by
  simp [pad6, List.getD_eq_getElem?_getD, List.getElem?_append_left h]
theorem pad6_at {L : List RefV} {i : Nat} (r : RefV) (h : i < L.length) : (pad6 L).set i r = pad6 (L.set i r) := by
  simp [pad6, List.set_append_left _ _ h]
theorem pad6_next {L : List RefV} (r : RefV) (h : L.length < 6) : (pad6 L).set L.length r = pad6 (L ++ [r]) := by
  unfold pad6
  rw [List.set_append_right _ _ (Nat.le_refl _), Nat.sub_self, List.length_append, List.append_assoc]
  congr 1
  obtain ⟨k, hk⟩ : ∃ k, 6 - L.length = k + 1 := ⟨6 - L.length - 1, by omega⟩
  rw [hk, List.replicate_succ, List.set_cons_zero]
  simp
  omega
section
variable {L : List RefV} {n : Nat}
theorem tkC_size (hw : ∀ r ∈ L, r.Wf) (hl : L.length = 6) : (tkC L n).size = 205 := by simp [tkC, refCs_length L hw, hl]
theorem tkC_many (hw : ∀ r ∈ L, r.Wf) (hl : L.length = 6) : (tkC L n)[204]? = some (.int .i64 (n : Int)) := by
  have h := refCs_length L hw
  rw [hl] at h
  simp [tkC, h]
theorem tkC_one : (tkC L n).all (·.oneCell') = true := by
  rw [Array.all_eq_true]
  intro i hi
  have hm : (tkC L n)[i] ∈ refCs L ++ [Value.int .i64 (n : Int)] := by
    simp [tkC]
  rcases List.mem_append.1 hm with h | h
  · obtain ⟨r, _, hr⟩ := List.mem_flatMap.1 h
    exact refL_one r _ hr
  · rw [List.mem_singleton.1 h]; rfl
theorem tkC_set {r : RefV} {i : Nat} (hw : ∀ r ∈ L, r.Wf) (hl : L.length = 6) (hr : r.Wf) (hi : i < 6) : Mem.splice (tkC L n) (i * 34) (refL r) = tkC (L.set i r) n := by
  have h := refCs_length L hw
  rw [hl] at h
  have hrl := refL_length hr
  unfold Mem.splice tkC
  rw [refCs_set L i r hw (by omega), List.take_append_of_le_length (by omega), hrl, List.drop_append_of_le_length (by omega)]
  simp [List.append_assoc]
theorem tk_range {w : World} {b i : Nat} {t : TypeId} (h : At w b (tkC L n) t) (hw : ∀ r ∈ L, r.Wf) (hl : L.length = 6) (hi : i < 6) : w.rangeAt b (i * 34) (refL (L.getD i zref)) := by
  intro j v hv
  have hj : j < 34 := by
    have := (List.getElem?_eq_some_iff.1 hv).1
    rwa [refL_length (getD_wf hw i)] at this
  have hlen := refCs_length L hw
  rw [h.cell, tkC, List.getElem?_toArray, List.getElem?_append_left (by omega), refCs_get L hw i j (by omega) hj]
  exact hv
/-- The first ones of the struct's references, as a slice. -/
theorem tk_sl {w : World} {b m c : Nat} {t : TypeId} (h : At w b (tkC L n) t) (hw : ∀ r ∈ L, r.Wf) (hl : L.length = 6) (hm : m ≤ 6) : SlRf w (.slice (some ⟨b, 0, none⟩) m c) (L.take m) := by
  have e : (L.take m).length = m := by rw [List.length_take]; omega
  refine ⟨some ⟨b, 0, none⟩, c, by rw [e], fun _ => ⟨b, 0, rfl, h.lt, fun i hi => ?_⟩⟩
  rw [e] at hi
  have g : (L.take m).getD i zref = L.getD i zref := by simp [List.getD_eq_getElem?_getD, hi]
  rw [g, Nat.zero_add]
  exact tk_range h hw hl (by omega)
end
theorem zeroTk (w : World) : (zeroValue 61).run Try.prog w = .ok (.agg (tkC (pad6 []) 0)) w := by kernel_rfl
theorem buildTk0 (w : World) : (Instr.build 61 #[]).run Try.prog w = .ok (.agg (tkC (pad6 []) 0)) w := run_build w _ _ _ (by kernel_rfl)
theorem buildTk1 (n : Nat) (w : World) : (Instr.build 61 #[(1, .int .i64 (n : Int))]).run Try.prog w = .ok (.agg (tkC (pad6 []) n)) w := run_build w _ _ _ (by kernel_rfl)
theorem infoTk : (Try.prog.info? 61).map (·.size) = some 205 := by kernel_rfl
/-- A slice of an array: all of it, or up to a place. -/
theorem wpList_cut_all {P : Program} {ops : Array Oper} {rest : List Oper} {op : Oper} {a : Act} {w : World} {Q : Exit → Act → World → Prop} (hgd : op.guard = none) (ty : TypeId) (x : Operand) (ho : op.op = .slice ty x none none none)
    (n : Nat) (elem : TypeId) (hu : P.underlying ty = some (.array n elem)) (z : Nat) (hs : (P.info? elem).map (·.size) = some z) (b o : Nat) (hx : a.eval x = .pointer (some ⟨b, o, none⟩))
    (h : wpList P ops Q rest (a.put op.dst (.slice (some ⟨b, o, none⟩) n n)) w) : wpList P ops Q (op :: rest) a w := by
  refine wpList_plain hgd fun K hK => ?_
  cases hq : P.info? elem with
  | none => simp [hq] at hs
  | some q =>
    have hat : (Instr.sliceAt ty (.pointer (some ⟨b, o, none⟩)) none none none).run P w = .ok (.slice (some ⟨b, o, none⟩) n n) w := by
      simp [Instr.sliceAt, Instr.sureAddr, Instr.sliceBounds, Sem.run_bind, run_underlying hu, sizeOf, typeInfo, hq, Addr.add_mid]
    unfold Oper.wp execOp
    simp only [ho, hx, Option.map_none, Sem.run_bind, hat, Result.andThen_ok, Sem.run_pure]
    exact hK _ _ h
theorem wpList_cut_to {P : Program} {ops : Array Oper} {rest : List Oper} {op : Oper} {a : Act} {w : World} {Q : Exit → Act → World → Prop} (hgd : op.guard = none) (ty : TypeId) (x i : Operand) (ho : op.op = .slice ty x none (some i) none)
    (n : Nat) (elem : TypeId) (hu : P.underlying ty = some (.array n elem)) (z : Nat) (hs : (P.info? elem).map (·.size) = some z) (b o k : Nat) (hx : a.eval x = .pointer (some ⟨b, o, none⟩)) (hi : a.eval i = .int .i64 (k : Int)) (hk : k ≤ n)
    (h : wpList P ops Q rest (a.put op.dst (.slice (some ⟨b, o, none⟩) k n)) w) : wpList P ops Q (op :: rest) a w := by
  refine wpList_plain hgd fun K hK => ?_
  cases hq : P.info? elem with
  | none => simp [hq] at hs
  | some q =>
    have hle : (k : Int) ≤ (n : Int) := by omega
    have hat : (Instr.sliceAt ty (.pointer (some ⟨b, o, none⟩)) none (some (.int .i64 (k : Int))) none).run P w = .ok (.slice (some ⟨b, o, none⟩) k n) w := by
      simp [Instr.sliceAt, Instr.sureAddr, Instr.sliceBounds, Instr.sliceBound, asIntOf, Sem.run_bind, run_underlying hu, sizeOf, typeInfo, hq, hk, Addr.add_mid]
    unfold Oper.wp execOp
    simp only [ho, hx, hi, Option.map_some, Option.map_none, Sem.run_bind, hat, Result.andThen_ok, Sem.run_pure]
    exact hK _ _ h
end Sha
end Go.Proofs.Ytfbhbdllbapnpaa
namespace Go.Proofs.Ytfbhbdllbapnpaa
namespace Sha
open Go.RowKit Mem
set_option maxRecDepth 100000
theorem run_copy_big {P : Program} (w : World) (dT sT ty elem : TypeId) (g o dLen dCap : Nat) (a : Addr) (sLen sCap : Nat) (cur : Array Value) (t : TypeId) (cs : List Value) (sz k : Nat)
    (hu : P.underlying dT = some (.slice elem)) (hs : (P.info? elem).map (·.size) = some sz)
    (hg : w.heap[g]? = some (.cells cur t (0, 0))) (hk : Nat.min sLen dLen = k) (hn : cs.length = k * sz)
    (hsrc : ∀ j v, cs[j]? = some v → w.cell? (a.add j) = some v) (hfit : o + cs.length ≤ cur.size) (h1 : ∀ v ∈ cs, v.oneCell' = true) :
    (Builtin.copy_ #[dT, sT] ty #[.slice (some ⟨g, o, none⟩) dLen dCap, .slice (some a) sLen sCap]).run P w = .ok (goInt k) (w.setRow g (Mem.splice cur o cs)) := by
  have hl := run_loadCells_list (P := P) w a cs hsrc
  have hst := run_storeCells_at P g o t cs 0 cur w hg (by simpa using hfit) h1
  cases hq : P.info? elem with
  | none => simp [hq] at hs
  | some i =>
    have hi : i.size = sz := by simpa [hq] using hs
    rw [hn] at hl
    simp [Builtin.copy_, run_underlying hu, Builtin.lenOf, Builtin.firstCells, sizeOf, typeInfo, hq, hi, hk, hl, hst, Mem.splice]
theorem run_copy_few {P : Program} (w : World) (dT sT ty elem : TypeId) (d a : Option Addr) (dLen dCap sLen sCap sz : Nat) (hu : P.underlying dT = some (.slice elem)) (hs : (P.info? elem).map (·.size) = some sz) (hn : Nat.min sLen dLen = 0) :
    (Builtin.copy_ #[dT, sT] ty #[.slice d dLen dCap, .slice a sLen sCap]).run P w = .ok (goInt 0) w := by
  cases hq : P.info? elem with
  | none => simp [hq] at hs
  | some i =>
    have hl : ∀ (x : Addr), (loadCells x 0).run P w = .ok #[] w := fun x => by simpa using run_loadCells_list (P := P) w x [] (by simp)
    cases d <;> cases a <;> simp [Builtin.copy_, run_underlying hu, Builtin.lenOf, Builtin.firstCells, sizeOf, typeInfo, hq, hn, storeCells, hl]
theorem slrf_cells {w : World} {b o n c : Nat} {L : List RefV} (h : SlRf w (.slice (some ⟨b, o, none⟩) n c) L) (hn : n = L.length) (hw : ∀ r ∈ L, r.Wf) (j : Nat) (v : Value) (hv : (refCs L)[j]? = some v) : w.cell? ((⟨b, o, none⟩ : Addr).add j) = some v := by
  have hj : j < L.length * 34 := by
    rw [← refCs_length L hw]; exact (List.getElem?_eq_some_iff.1 hv).1
  have hi : j / 34 < L.length := by omega
  have hk : j % 34 < 34 := by omega
  have he : j / 34 * 34 + j % 34 = j := by omega
  have hg := refCs_get L hw (j / 34) (j % 34) hi hk
  rw [he, hv] at hg
  have hc := slrf_cell h hn (i := j / 34) (by omega) (j % 34) v hg.symm
  rw [show o + j / 34 * 34 + j % 34 = o + j by omega] at hc
  by_cases hj0 : j = 0
  · subst hj0; simpa [Addr.add] using hc
  · simpa [Addr.add, hj0] using hc
theorem wpList_copy_rfn {P : Program} {ops : Array Oper} {rest : List Oper} {op : Oper} {a : Act} {w : World} {Q : Exit → Act → World → Prop} (hgd : op.guard = none) (x y : Operand) (dT sT : TypeId)
    (ho : op.op = .call { callee := .builtin .copy, args := #[x, y], argTypes := #[dT, sT] }) (elem : TypeId) (hu : P.underlying dT = some (.slice elem)) (hs : (P.info? elem).map (·.size) = some 34)
    (B : Nat) (e : TypeId) (n g cap : Nat) (xs : List Value) (hown : w.ownsRow B e 34 (.slice (some ⟨g, 0, none⟩) n cap) n xs) (hx : a.eval x = .slice (some ⟨g, 0, none⟩) n cap)
    (sa : Option Addr) (m sc : Nat) (hy : a.eval y = .slice sa m sc) (L : List RefV) (hsl : SlRf w (.slice sa m sc) L) (hl : m = L.length) (hnm : n ≤ m) (h0 : 0 < n) (hw : ∀ r ∈ L, r.Wf)
    (h : ∀ w', w'.ownsRow B e 34 (.slice (some ⟨g, 0, none⟩) n cap) n (refCs (L.take n)) → w'.heap.size = w.heap.size → (∀ k, k ≠ g → w'.heap[k]? = w.heap[k]?) → (∀ B' w0, Below B' w0 w → B' ≤ g → Below B' w0 w') → wpList P ops Q rest (a.put op.dst (.int .i64 (n : Int))) w') : wpList P ops Q (op :: rest) a w := by
  have hwt : ∀ r ∈ L.take n, r.Wf := fun r hr => hw r (List.mem_of_mem_take hr)
  have hlen := refCs_length (L.take n) hwt
  have hlt : (L.take n).length = n := by rw [List.length_take]; omega
  rw [hlt] at hlen
  obtain ⟨b, o, ea, _, _⟩ := slrf_at (i := 0) hsl hl (by omega)
  subst ea
  have hpre : ∀ j v, (refCs (L.take n))[j]? = some v → (refCs L)[j]? = some v := fun j v hv => by
    have hj : j < n * 34 := by rw [← hlen]; exact (List.getElem?_eq_some_iff.1 hv).1
    have h1 : refCs L = refCs (L.take n) ++ refCs (L.drop n) := by
      unfold refCs
      rw [← List.flatMap_append, List.take_append_drop]
    rw [h1, List.getElem?_append_left (by omega)]
    exact hv
  rcases hown.2 with ⟨_, hz⟩ | ⟨g2, cap2, cur, hv, hg, hh, hn, hm, hsz, ht⟩
  · omega
  · injection hv with hv1 hv2 hv3
    injection hv1 with hv1
    injection hv1 with hv1
    subst hv1 hv3
    refine wpList_plain hgd fun K hK => ?_
    have hrun := run_copy_big (P := P) w dT sT op.type elem g 0 n cap ⟨b, o, none⟩ m sc cur e (refCs (L.take n)) 34 n hu hs hh (Nat.min_eq_right hnm) hlen (fun j v hv => slrf_cells hsl hl hw j v (hpre j v hv)) (by rw [hlen, hsz]; omega) (fun v hv => by
      obtain ⟨r, _, hr2⟩ := List.mem_flatMap.1 hv
      exact refL_one r v hr2)
    unfold Oper.wp
    simp [execOp, ho, resolve, invoke, builtin, hx, hy, hrun, Result.andThen]
    refine hK _ _ (h _ ⟨hlen, .inr ⟨g, cap, Mem.splice cur 0 (refCs (L.take n)), rfl, hg, At.row (show At w g cur e from hh) _, hn, hm, ?_, ?_⟩⟩ (by simp) (fun k hk => setRow_other w g k _ hk) (fun B' w0 hb hB => below_row hb hB _))
    · rw [← hsz]
      unfold Mem.splice
      simp [hlen]
      omega
    · rw [splice_take cur 0 (n * 34) (refCs (L.take n)) (by rw [hlen]; omega) (by rw [hsz]; exact Nat.mul_le_mul_right _ hn), hlen]
      simp
end Sha
end Go.Proofs.Ytfbhbdllbapnpaa
namespace Go.Proofs.Ytfbhbdllbapnpaa
namespace Sha
open Go.RowKit Mem
theorem own_lit8 {w : World} {B : Nat} (x : BitVec 8) (hB : B ≤ w.heap.size) : OwnB (w.alloc (.cells #[.int .u8 (B8 x)] 5)) B (.slice (some ⟨w.heap.size, 0, none⟩) 1 1) [x] :=
  ⟨by simp [u8s], .inr ⟨w.heap.size, 1, #[.int .u8 (B8 x)], rfl, hB, at_new w _ _, by simp, by simp [maxLen], by simp, by simp [u8s, B8]⟩⟩
theorem sl_dg {w : World} {bx : Nat} {r : RefV} {t : TypeId} (hA : At w bx (refC r) t) (h : r.Wf) : Sl w (.slice (some ⟨bx, 2, none⟩) 32 32) r.dg :=
  ⟨_, _, by rw [h.dg], by rw [h.dg]; exact Nat.le_refl _, fun _ => ⟨bx, 2, rfl, hA.lt, fun i hi => (hA.cell _).trans (ref_dg h i (by rw [h.dg] at hi; exact hi))⟩⟩
theorem B8_ofInt (p : BitVec 8) (z : Int) (h : p = BitVec.ofInt 8 z) : B8 p = z % 256 := by
  show (p.toNat : Int) = z % 256
  rw [h, BitVec.toNat_ofInt]
  omega
theorem conv_i8 (z : Int) (w : World) : (convert 3 5 (.int .i64 z)).run Try.prog w = .ok (.int .u8 (B8 (BitVec.ofInt 8 z))) w := by
  have h2 : IntKind.u8.wrap z = B8 (BitVec.ofInt 8 z) := by
    rw [IntKind.wrap_u8]
    show z % 256 = ((BitVec.ofInt 8 z).toNat : Int)
    rw [BitVec.toNat_ofInt]
    omega
  go_simp
/-- j bytes of the epoch are laid. -/
structure LayInv (r : RefV) (M : Array Value) (g : Nat) (w : World) (j : Nat) (v : Value) (wr : World) : Prop where
  o : OwnB wr (g + 1) v ([BitVec.ofInt 8 r.pl] ++ (le4 r.ep).take j)
  a : At wr g M 37
  b : Below w.heap.size w wr
theorem le4_take (x : BitVec 32) (j : Nat) (h : j < 4) : (le4 x).take (j + 1) = (le4 x).take j ++ [wb x (8 * j)] := by
  match j, h with
  | 0, _ => rfl
  | 1, _ => rfl
  | 2, _ => rfl
  | 3, _ => rfl
set_option maxRecDepth 100000 in
set_option maxHeartbeats 4000000 in
theorem rlay_any (r : RefV) (hr : r.Wf) (w : World) : Calls Try.prog 24 #[.agg (refC r)] w (RSEnd w (layRf r)) := by
  have rs := refC_size hr
  have r0 := ref0 r
  have r1 := ref1 r
  have an := at_new w (refC r) 37
  have bn : Below w.heap.size w (w.alloc (.cells (refC r) 37)) := (Below.refl _ _).alloc (Nat.le_refl _) _
  have cv := fun wx => conv_i8 r.pl wx
  have sd := fun (wx : World) (g : Nat) (h : At wx g (refC r) 37) => sl_dg h hr
  have hdl := hr.dg
  obtain ⟨M, hM⟩ : ∃ M, M = refC r := ⟨_, rfl⟩
  rw [← hM] at rs r0 r1 an bn sd ⊢
  obtain ⟨ep, hep⟩ : ∃ ep, ep = r.ep := ⟨_, rfl⟩
  obtain ⟨pl, hpl⟩ : ∃ pl, pl = r.pl := ⟨_, rfl⟩
  rw [← hep] at r1
  rw [← hpl] at r0 cv
  obtain ⟨p, hp⟩ : ∃ p, p = BitVec.ofInt 8 pl := ⟨_, rfl⟩
  rw [← hp] at cv
  have CV := Lib.hid cv; have AN := Lib.hid an; have BN := Lib.hid bn; have SD := Lib.hid sd; have HP := Lib.hid hp; have HEP := Lib.hid hep; have HPL := Lib.hid hpl; have DL := Lib.hid hdl; have R1 := Lib.hid r1
  have ve0 := V_lo ep; have ve1 := V_hi ep
  have c0 : (w.alloc (.cells M 37)).cell? ⟨w.heap.size, 0, none⟩ = some (.int .i64 pl) := (an.cell 0).trans r0
  clear rs r0 r1 an bn sd cv hM hep hpl hp hdl hr
  go_enter Try.func24, Try.ntmps24
  go_upto_region 1 with fail
  obtain ⟨g, hg⟩ : ∃ g, g = w.heap.size := ⟨_, rfl⟩
  have hgs : (w.alloc (.cells M 37)).heap.size = g + 1 := by rw [hg]; simp
  rw [← hg] at AN c0 ⊢
  have HG := Lib.hid hg
  clear hg
  generalize w.alloc (.cells M 37) = w1 at *
  have I0 : Hid (LayInv r M g w 0 (.slice (some ⟨w1.heap.size, 0, none⟩) 1 1) (w1.alloc (.cells #[.int .u8 (pl % 256)] 5))) := Lib.hid ⟨by have h := own_lit8 (w := w1) (B := g + 1) p (by omega); rw [B8_ofInt p pl HP.out, HP.out] at h; rw [← HPL.out]; simpa using h, AN.out.alloc _, BN.out.alloc BN.out.size _⟩
  clear hgs
  go_wp2_with fail
  go_loopw [3, 4] (fun v i wr => ∃ j : Nat, j ≤ 4 ∧ i = .int .i64 j ∧ ∃ v', v' = v ∧ LayInv r M g w j v' wr) (fun _ i _ => 4 - (intOf i).toNat)
  case atStart => exact ⟨0, by omega, rfl, _, rfl, I0.out⟩
  case round =>
    clear I0 c0
    obtain ⟨j, hj, rfl, v, rfl, hI⟩ := hrel
    by_cases hlt : j < 4
    · have hlt' : (j : Int) < 4 := by omega
      have c1 : wr.cell? ⟨g, 1, none⟩ = some (.int .u32 (V ep)) := (hI.a.cell 1).trans R1.out
      have OW : Hid (OwnV wr (g + 1) 5 v (u8s ([BitVec.ofInt 8 r.pl] ++ (le4 r.ep).take j))) := Lib.hid (ownB_V hI.o)
      have AA := Lib.hid hI.a; have BB := Lib.hid hI.b
      have LN : Hid (([BitVec.ofInt 8 r.pl] ++ (le4 r.ep).take j).length ≤ 5) := Lib.hid (by simp [le4]; omega)
      have GS : Hid (g + 1 ≤ wr.heap.size) := Lib.hid (by have := hI.a.lt; omega)
      clear hI
      go_wp2_with (at_builtin; go_loud (refine wpList_append_lit (by rfl) _ _ 24 (by rfl) _ (.int .u8 0) 1 elemB8 (by rfl) (by rfl) OW.out (by rfl) (by rfl) (by rw [u8s_length]; have := LN.out; omega) (by rw [u8s_length]; have := LN.out; omega) GS.out ?_); intro v8 w8 ho8 hk8 hb8 _; have O8 := Lib.hid ho8; have K8 := Lib.hid hk8; have B8' := Lib.hid hb8; clear ho8 hk8 hb8)
      go_roundw
      case rel =>
        refine ⟨j + 1, by omega, by go_num, v8, rfl, ?_, ?_, BB.out.trans (B8'.out.mono (by have := BB.out.size; have := GS.out; have := HG.out; omega))⟩
        · have h := O8.out
          rw [wb_pow9, HEP.out] at h
          apply ownV_B
          rw [le4_take _ _ hlt, ← List.append_assoc, u8s_snoc]
          exact h
        · have hne : v.ownBlock ≠ some g := fun e => by have := (World.ownsRow.lt OW.out g e).1; omega
          have h := AA.out
          unfold At at *
          rw [K8.out g (by have := GS.out; omega) hne]; exact h
      case measure => simp [intOf]; omega
    · have hj4 : j = 4 := by omega
      have hge : ¬ (j : Int) < 4 := by omega
      subst hj4
      have OW : Hid (OwnB wr (g + 1) v ([BitVec.ofInt 8 r.pl] ++ le4 r.ep)) := Lib.hid (by have h := hI.o; rw [List.take_of_length_le (by simp [le4])] at h; exact h)
      have S2 := Lib.hid (SD.out wr g hI.a)
      have BB := Lib.hid hI.b
      have GS : Hid (g + 1 ≤ wr.heap.size) := Lib.hid (by have := hI.a.lt; omega)
      clear hI hlt hj
      go_wp2_with (first
        | (refine wpList_slice_arr (by rfl) 35 _ (by rfl) 32 5 g 2 (by rfl) Try.underlying35 infoB ?_)
        | (at_builtin; go_loud (refine wpList_append_bytes (by rfl) _ _ (by rfl) (g + 1) v (.slice (some ⟨g, 2, none⟩) 32 32) ([BitVec.ofInt 8 r.pl] ++ le4 r.ep) r.dg (by rfl) OW.out (by rfl) S2.out (by rw [DL.out]; simp [le4]) GS.out ?_); intro v9 w9 ho9 _ hb9; have O9 := Lib.hid ho9; have B9 := Lib.hid hb9; clear ho9 hb9))
      go_ret
      exact ⟨_, rfl, O9.out.sl, BB.out.trans (B9.out.mono (by have := HG.out; omega))⟩
end Sha
end Go.Proofs.Ytfbhbdllbapnpaa
namespace Go.Proofs.Ytfbhbdllbapnpaa
namespace Sha
open Go.RowKit Mem
set_option maxRecDepth 100000
/-- A reference is loaded whole out of a slice. -/
theorem wpList_load_rf {P : Program} {ops : Array Oper} {rest : List Oper} {op : Oper} {a : Act} {w : World} {Q : Exit → Act → World → Prop} (hgd : op.guard = none) (ty : TypeId) (x : Operand) (ho : op.op = .load ty x) (b o : Nat) (hx : a.eval x = .pointer (some ⟨b, o, none⟩)) (r : RefV) (hr : r.Wf) (hc : w.rangeAt b o (refL r)) (d : TypeDesc) (hu : P.underlying ty = some d) (hd : d.isRow = true) (hi : (P.info? ty).map (·.size) = some 34)
    (h : wpList P ops Q rest (a.put op.dst (.agg (refC r))) w) : wpList P ops Q (op :: rest) a w :=
  wpList_load_mid hgd ty x ho b o hx (refL r) d hc hu hd (by rw [hi, refL_length hr]) h
theorem layN_few {L : List RefV} (h : L.length < 1 ∨ 6 < L.length) : layN L = ([], 1) := by
  unfold layN
  exact if_pos (by rcases h with h | h; exact .inl h; exact .inr (.inl h))
theorem layN_place {L : List RefV} (i : Nat) (hi : i < L.length) (h : plOk (L.getD i zref) = false) : layN L = ([], 1) := by
  unfold layN
  refine if_pos (.inr (.inr ?_))
  rw [List.all_eq_false]
  have e : L.getD i zref = L[i] := by simp [List.getD_eq_getElem?_getD, hi]
  rw [e] at h
  exact ⟨L[i], List.getElem_mem hi, by rw [h]; decide⟩
theorem layN_good {L : List RefV} (h1 : 1 ≤ L.length) (h6 : L.length ≤ 6) (h : ∀ i, i < L.length → plOk (L.getD i zref) = true) : layN L = (bodyN L L.length ++ List.replicate (256 - (1 + 37 * L.length)) 0, 0) := by
  unfold layN
  refine if_neg (fun hc => ?_)
  rcases hc with hc | hc | hc
  · omega
  · omega
  · rw [List.all_eq_false] at hc
    obtain ⟨r, hr, hp⟩ := hc
    obtain ⟨i, hi, rfl⟩ := List.getElem_of_mem hr
    have e : L.getD i zref = L[i] := by simp [List.getD_eq_getElem?_getD, hi]
    exact hp (by rw [← e]; exact h i hi)
theorem rlayN_few (L : List RefV) (v : Value) (w : World) (hv : SlRf w v L) (hl : L.length ≤ 1000) (h : L.length < 1 ∨ 6 < L.length) : Calls Try.prog 10 #[v] w (SealEnd w (layN L).1 (layN L).2) := by
  rw [layN_few h]
  obtain ⟨a, c, rfl⟩ := hv.hd
  obtain ⟨n, hn⟩ : ∃ n, n = L.length := ⟨_, rfl⟩
  rw [← hn] at h hl ⊢
  clear hv hn
  rcases h with h | h
  · have h1 : (n : Int) < 1 := by omega
    clear h
    go_enter Try.func10, Try.ntmps10
    go_wp2_with fail
    go_ret2
    exact ⟨_, rfl, sl_none _, Below.refl _ _⟩
  · have h1 : ¬ (n : Int) < 1 := by omega
    have h2 : (6 : Int) < (n : Int) := by omega
    clear h
    go_enter Try.func10, Try.ntmps10
    go_wp2_with fail
    go_ret2
    exact ⟨_, rfl, sl_none _, Below.refl _ _⟩
set_option maxHeartbeats 400000 in
theorem rlayN_many (L : List RefV) (v : Value) (w : World) (hv : SlRf w v L) (hw : ∀ r ∈ L, r.Wf) (h1 : 1 ≤ L.length) (h6 : L.length ≤ 6) : Calls Try.prog 10 #[v] w (SealEnd w (layN L).1 (layN L).2) := by
  have hgood := layN_good h1 h6
  have hbad := fun i hi h => layN_place (L := L) i hi h
  obtain ⟨Y, hY⟩ : ∃ Y, Y = layN L := ⟨_, rfl⟩
  rw [← hY] at hgood hbad ⊢
  have hbs := fun n h => bodyN_succ L n h
  have hbl := fun n h => bodyN_length L n hw h
  have hgw := fun i => getD_wf hw i
  have hrl := fun i wx => rlay_any (L.getD i zref) (hgw i) wx
  have hrll := fun i => layRf_length (hgw i)
  obtain ⟨a, c, rfl⟩ := hv.hd
  obtain ⟨n, hn⟩ : ∃ n, n = L.length := ⟨_, rfl⟩
  have hb0 : bodyN L 0 = [BitVec.ofNat 8 n] := by unfold bodyN; rw [hn]; rfl
  have hB8 : B8 (BitVec.ofNat 8 n) = (n : Int) := by show (((BitVec.ofNat 8 n).toNat : Nat) : Int) = _; rw [BitVec.toNat_ofNat]; omega
  have hlit := own_lit8 (w := w) (BitVec.ofNat 8 n) (Nat.le_refl _)
  rw [hB8, ← hb0] at hlit
  rw [← hn] at hv h1 h6 hgood hbad hbs hbl ⊢
  have g1 : ¬ (n : Int) < 1 := by omega
  have g6 : ¬ (6 : Int) < (n : Int) := by omega
  have HV := Lib.hid hv; have GOOD := Lib.hid hgood; have BAD := Lib.hid hbad; have BS := Lib.hid hbs; have BL := Lib.hid hbl; have GW := Lib.hid hgw; have RL := Lib.hid hrl; have RLL := Lib.hid hrll; have HN := Lib.hid hn; have LIT := Lib.hid hlit
  have B0 : Hid (Below w.heap.size w (w.alloc (.cells #[.int .u8 (n : Int)] 5))) := Lib.hid ((Below.refl _ _).alloc (Nat.le_refl _) _)
  clear hv hgood hbad hbs hbl hgw hrl hrll hn hlit hY hw hb0 hB8
  go_enter Try.func10, Try.ntmps10
  go_wp2_with fail
  go_loopw [4, 5] (fun vo vi wr => ∃ i : Nat, i ≤ n ∧ vi = .int .i64 (i : Int) ∧ OwnB wr w.heap.size vo (bodyN L i) ∧ (∀ k, k < i → plOk (L.getD k zref) = true) ∧ Below w.heap.size w wr) (fun _ vi _ => n - (intOf vi).toNat)
  case atStart => exact ⟨0, by omega, rfl, LIT.out, fun k hk => by omega, B0.out⟩
  case round =>
    obtain ⟨i, hi, rfl, ho, hpl, hbw⟩ := hrel
    have OW := Lib.hid ho; have BW := Lib.hid hbw; have PL := Lib.hid hpl; have VW := Lib.hid (HV.out.below hbw)
    clear ho hbw hpl
    by_cases hlt : i < n
    · have hlt2 : (i : Int) < (n : Int) := by omega
      obtain ⟨b, o, ea, _, hr⟩ := slrf_at (i := i) VW.out HN.out hlt
      subst ea
      have cp := range_pl hr
      have RG := Lib.hid hr
      have hok : plOk (L.getD i zref) = decide (0 ≤ (L.getD i zref).pl ∧ (L.getD i zref).pl ≤ 1) := rfl
      have WFI := Lib.hid (GW.out i); have RLI := Lib.hid (RL.out i)
      have hrll := RLL.out i
      have hbs := BS.out i hlt
      have hbd := BAD.out i hlt
      obtain ⟨r, hr0⟩ : ∃ r, r = L.getD i zref := ⟨_, rfl⟩
      have hgi : plOk r = true → ∀ k, k < i + 1 → plOk (L.getD k zref) = true := fun h k hk => by
        rcases Nat.lt_or_ge k i with x | x
        · exact PL.out k x
        · rw [show k = i by omega, ← hr0]; exact h
      rw [← hr0] at cp hok RG WFI RLI hrll hbs hbd
      obtain ⟨pl, hp⟩ : ∃ pl, pl = r.pl := ⟨_, rfl⟩
      rw [← hp] at cp hok
      have HBS := Lib.hid hbs; have HBD := Lib.hid hbd; have HGI := Lib.hid hgi; have HOK := Lib.hid hok; have HRL := Lib.hid hrll
      clear hr hok hrll hbs hbd hr0 hgi hp
      by_cases p0 : pl < 0
      · have hy : Y = ([], 1) := HBD.out (by rw [HOK.out]; exact decide_eq_false (by omega))
        have HY := Lib.hid hy
        clear hy
        go_wp2_with fail
        go_ret2
        exact ⟨_, by rw [HY.out]; rfl, by rw [HY.out]; exact sl_none _, BW.out⟩
      · by_cases p1 : 1 < pl
        · have hy : Y = ([], 1) := HBD.out (by rw [HOK.out]; exact decide_eq_false (by omega))
          have HY := Lib.hid hy
          clear hy
          go_wp2_with fail
          go_ret2
          exact ⟨_, by rw [HY.out]; rfl, by rw [HY.out]; exact sl_none _, BW.out⟩
        · have hokt : plOk r = true := by rw [HOK.out]; exact decide_eq_true (by omega)
          have HG2 := Lib.hid (HGI.out hokt)
          have HLB := Lib.hid (BL.out i (by omega))
          clear hokt
          go_wp2_with (refine wpList_load_rf (by rfl) 37 _ (by rfl) b (o + i * 34) (by rfl) r WFI.out RG.out _ Try.underlying37 (by rfl) infoRfR ?_)
          refine (RLI.out wr).mono ?_
          rintro e w2 ⟨v2, rfl, hs2, hb2⟩
          have S2 := Lib.hid hs2; have B2 : Hid (Below w.heap.size w w2) := Lib.hid (BW.out.trans (hb2.mono BW.out.size)); have O2 := Lib.hid (ownsRow_below OW.out hb2)
          clear hs2 hb2 cp
          go_wp2_with (at_builtin; go_loud (refine wpList_append_bytes (by rfl) _ _ (by rfl) w.heap.size _ v2 (bodyN L i) (layRf r) (by rfl) O2.out (by rfl) S2.out (by rw [HLB.out, HRL.out]; omega) B2.out.size ?_); intro v3 w3 ho3 _ hb3; have O3 : Hid (OwnB w3 w.heap.size v3 (bodyN L (i + 1))) := Lib.hid (by rw [HBS.out]; exact ho3); have B3 : Hid (Below w.heap.size w w3) := Lib.hid (B2.out.trans hb3); clear ho3 hb3)
          go_roundw
          case rel => exact ⟨i + 1, by omega, by go_num, O3.out, HG2.out, B3.out⟩
          case measure => simp [intOf]; omega
    · have hin : i = n := by omega
      subst hin
      have hy := GOOD.out PL.out
      have HY := Lib.hid hy
      have HLB := Lib.hid (BL.out i (Nat.le_refl _))
      clear hy
      go_wp2_with fail
      obtain ⟨T, hT⟩ : ∃ T, T = 256 - (1 + 37 * i) := ⟨_, rfl⟩
      have hT2 : T + (1 + 37 * i) = 256 := by omega
      rw [← hT] at HY
      clear hT
      go_loopw [4] (fun vo wx => ∃ k : Nat, k ≤ T ∧ OwnB wx w.heap.size vo (bodyN L i ++ List.replicate k 0) ∧ Below w.heap.size w wx) (fun vo _ => 256 - slenN vo)
      case atStart => exact ⟨0, by omega, by rw [List.replicate_zero, List.append_nil]; exact OW.out, BW.out⟩
      case round =>
        obtain ⟨k, hk, ho, hbx⟩ := hrel
        have hlen : (bodyN L i ++ List.replicate k (0 : BitVec 8)).length = 1 + 37 * i + k := by rw [List.length_append, HLB.out, List.length_replicate]
        obtain ⟨a5, c5, rfl⟩ := own_slice ho hlen
        have OX := Lib.hid ho; have BX := Lib.hid hbx; have HLEN := Lib.hid hlen
        obtain ⟨m, hm⟩ : ∃ m, m = 1 + 37 * i + k := ⟨_, rfl⟩
        rw [← hm] at OX HLEN ⊢
        clear ho hbx hlen
        by_cases hlt2 : m < 256
        · have hlt3 : (m : Int) < 256 := by omega
          have hkT : k + 1 ≤ T := by omega
          have HM := Lib.hid hm; have HKT := Lib.hid hkT; have HT2 := Lib.hid hT2
          clear hm hkT hk
          go_wp2_with (at_builtin; go_loud (refine wpList_append_lit (by rfl) _ _ 24 (by rfl) (.int .u8 0) (.int .u8 0) 1 elemB8 (by rfl) (by rfl) (ownB_v OX.out) (by rfl) (by rfl) (by rw [u8s_length]; have := HLEN.out; omega) (by rw [u8s_length]; have := HLEN.out; omega) BX.out.size ?_); intro v8 w8 ho8 hk8 hb8 _; have O8 : Hid (OwnB w8 w.heap.size v8 (bodyN L i ++ List.replicate (k + 1) 0)) := Lib.hid (ownV_b (by rw [List.replicate_succ', ← List.append_assoc, u8s_snoc]; exact ho8)); have B8' : Hid (Below w.heap.size w w8) := Lib.hid (BX.out.trans hb8); clear ho8 hk8 hb8)
          obtain ⟨a8, c8, rfl⟩ := own_slice O8.out (n := m + 1) (by rw [List.length_append, HLB.out, List.length_replicate, HM.out]; omega)
          go_roundw
          case rel => exact ⟨k + 1, HKT.out, O8.out, B8'.out⟩
          case measure => simp [slenN]; omega
        · have hk2 : k = T := by omega
          have hge : ¬ (m : Int) < 256 := by omega
          have OY := OX.out
          rw [hk2] at OY
          have OZ := Lib.hid OY
          clear OY hk2 hm hT2 hk hlt2
          go_wp2_with fail
          go_ret2
          exact ⟨_, by rw [HY.out]; rfl, by rw [HY.out]; exact OZ.out.sl, BX.out⟩
theorem rlayN_any (L : List RefV) (v : Value) (w : World) (hv : SlRf w v L) (hw : ∀ r ∈ L, r.Wf) (hl : L.length ≤ 1000) : Calls Try.prog 10 #[v] w (SealEnd w (layN L).1 (layN L).2) := by
  by_cases h : L.length < 1 ∨ 6 < L.length
  · exact rlayN_few L v w hv hl h
  · exact rlayN_many L v w hv hw (by omega) (by omega)
end Sha
end Go.Proofs.Ytfbhbdllbapnpaa
namespace Go.Proofs.Ytfbhbdllbapnpaa
namespace Sha
open Go.RowKit Mem
/-- The sum of the epoch's first i bytes. -/
def eN (b : List (BitVec 8)) : Nat → Nat
  | 0 => 0
  | i + 1 => eN b i + (b.getD (1 + i) 0).toNat * 256 ^ i
theorem eN_lt (b : List (BitVec 8)) : ∀ i, i ≤ 4 → eN b i < 256 ^ i := by
  intro i hi
  have h0 := (b.getD 1 0).isLt; have h1 := (b.getD 2 0).isLt; have h2 := (b.getD 3 0).isLt; have h3 := (b.getD 4 0).isLt
  match i, hi with
  | 0, _ => simp [eN]
  | 1, _ => simp only [eN]; omega
  | 2, _ => simp only [eN]; omega
  | 3, _ => simp only [eN]; omega
  | 4, _ => simp only [eN]; omega
theorem lew_bytes (a b c d : BitVec 8) (t : List (BitVec 8)) : lew (a :: b :: c :: d :: t) 0 = BitVec.ofNat 32 (a.toNat + b.toNat * 256 + c.toNat * 65536 + d.toNat * 16777216) := by
  have h0 := a.isLt; have h1 := b.isLt; have h2 := c.isLt; have h3 := d.isLt
  obtain ⟨x, hx⟩ : ∃ x, x = BitVec.ofNat 32 (a.toNat + b.toNat * 256 + c.toNat * 65536 + d.toNat * 16777216) := ⟨_, rfl⟩
  have hn : x.toNat = a.toNat + b.toNat * 256 + c.toNat * 65536 + d.toNat * 16777216 := by rw [hx, BitVec.toNat_ofNat]; omega
  have w0 : wb x 0 = a := by apply BitVec.eq_of_toNat_eq; rw [wb, BitVec.toNat_setWidth, BitVec.toNat_ushiftRight, hn, Nat.shiftRight_eq_div_pow]; omega
  have w1 : wb x 8 = b := by apply BitVec.eq_of_toNat_eq; rw [wb, BitVec.toNat_setWidth, BitVec.toNat_ushiftRight, hn, Nat.shiftRight_eq_div_pow]; omega
  have w2 : wb x 16 = c := by apply BitVec.eq_of_toNat_eq; rw [wb, BitVec.toNat_setWidth, BitVec.toNat_ushiftRight, hn, Nat.shiftRight_eq_div_pow]; omega
  have w3 : wb x 24 = d := by apply BitVec.eq_of_toNat_eq; rw [wb, BitVec.toNat_setWidth, BitVec.toNat_ushiftRight, hn, Nat.shiftRight_eq_div_pow]; omega
  rw [← hx]
  have h := lew_le4 x t
  rw [show le4 x = [a, b, c, d] by rw [le4, w0, w1, w2, w3]] at h
  exact h
theorem eN_all (b : List (BitVec 8)) (h : b.length = 37) : BitVec.ofNat 32 (eN b 4) = lew (b.drop 1) 0 := by
  match b, h with
  | _ :: x :: y :: z :: u :: t, _ =>
    show _ = lew (x :: y :: z :: u :: t) 0
    rw [lew_bytes]
    congr 1
    simp [eN]
/-- The reference with i bytes of the epoch and k of the digest. -/
def rfAt (b : List (BitVec 8)) (i k : Nat) : RefV := ⟨((b.getD 0 0).toNat : Int), BitVec.ofNat 32 (eN b i), rowZ (b.drop 5) 32 k⟩
theorem rfAt_wf (b : List (BitVec 8)) (h : b.length = 37) (i k : Nat) (hk : k ≤ 32) : (rfAt b i k).Wf := by
  have := (b.getD 0 0).isLt
  exact ⟨by show _ ≤ ((b.getD 0 0).toNat : Int); omega, by show ((b.getD 0 0).toNat : Int) ≤ _; omega, rowZ_length _ 32 k (by simp [h]) hk⟩
theorem rfAt_all (b : List (BitVec 8)) (h : b.length = 37) : rfAt b 4 32 = rfOf b := by
  unfold rfAt rfOf
  rw [eN_all b h, rowZ_all _ 32 (by simp [h])]
theorem ref_set1 (r : RefV) (e : BitVec 32) : (refC r).setIfInBounds 1 (.int .u32 (V e)) = refC { r with ep := e } := by simp [refC, refL]
theorem ref_setDg (r : RefV) (i : Nat) (x : BitVec 8) (_hi : i < r.dg.length) : (refC r).setIfInBounds (2 + i) (.int .u8 (x.toNat : Int)) = refC { r with dg := r.dg.set i x } := by
  apply Array.ext'
  simp only [refC, refL, List.setIfInBounds_toArray]
  rw [List.set_append_right _ _ (by simp), show 2 + i - [Value.int .i64 r.pl, Value.int .u32 (V r.ep)].length = i by simp]
  simp [u8s, List.map_set]
theorem V_ofNat (n : Nat) (h : n < 4294967296) : V (BitVec.ofNat 32 n) = (n : Int) := by
  show ((BitVec.ofNat 32 n).toNat : Int) = n
  rw [BitVec.toNat_ofNat]; omega
theorem o_shl8 (c j : Nat) (hc : c < 256) (hj : j < 4) (t : TypeId) (x y : Operand) (w : World) : (do eqGuard .shl t x y (.int .u32 (c : Int)) (.int .i64 ((8 * j : Nat) : Int)); binOp .shl t (.int .u32 (c : Int)) (.int .i64 ((8 * j : Nat) : Int)) : Sem Value).run Try.prog w = .ok (.int .u32 ((c * 256 ^ j : Nat) : Int)) w := by
  match j, hj with
  | 0, _ => go_simp; rw [IntKind.wrap_u32]; omega
  | 1, _ => go_simp; rw [IntKind.wrap_u32]; omega
  | 2, _ => go_simp; rw [IntKind.wrap_u32]; omega
  | 3, _ => go_simp; rw [IntKind.wrap_u32]; omega
theorem conv_bI (x : Nat) (_h : x < 256) (w : World) : (convert 5 3 (.int .u8 (x : Int))).run Try.prog w = .ok (.int .i64 (x : Int)) w := by
  have h2 : IntKind.i64.wrap (x : Int) = (x : Int) := by simp [IntKind.wrap, IntKind.bits, IntKind.signed]; omega
  go_simp
theorem conv_bU (x : Nat) (_h : x < 256) (w : World) : (convert 5 34 (.int .u8 (x : Int))).run Try.prog w = .ok (.int .u32 (x : Int)) w := by
  have h2 : IntKind.u32.wrap (x : Int) = (x : Int) := by simp [IntKind.wrap, IntKind.bits, IntKind.signed]; omega
  go_simp
set_option maxRecDepth 100000 in
set_option maxHeartbeats 4000000 in
theorem rparseRf_bad (b : List (BitVec 8)) (v : Value) (w : World) (hv : Sl w v b) (hl : b.length ≤ 1000) (h : b.length ≠ 37 ∨ 1 < (b.getD 0 0).toNat) :
    Calls Try.prog 36 #[v] w fun e w' => e = .returned (.tuple #[.agg (refC zref), .int .i64 1]) ∧ Below w.heap.size w w' := by
  have hv0 := hv
  obtain ⟨a0, cap, rfl, hcap, hr⟩ := hv
  obtain ⟨n, hn⟩ : ∃ n, n = b.length := ⟨_, rfl⟩
  rw [← hn] at h hl ⊢
  obtain ⟨Z, hZ⟩ : ∃ Z, Z = refC zref := ⟨_, rfl⟩
  have zs : Z.size = 34 := by rw [hZ]; exact refC_size zref_wf
  have zo : Z.all (·.oneCell') = true := by rw [hZ]; exact refC_one _
  have hx : ∀ w, (zeroValue 37).run Try.prog w = .ok (.agg Z) w := by rw [hZ]; exact zeroRfR
  have bn : ∀ w, (Instr.build 37 #[]).run Try.prog w = .ok (.agg Z) w := by rw [hZ]; exact buildRf0
  rw [← hZ]
  have az := at_new w Z 37
  have bz : Below w.heap.size w (w.alloc (.cells Z 37)) := (Below.refl _ _).alloc (Nat.le_refl _) _
  have ZS := Lib.hid zs; have ZO := Lib.hid zo; have BN := Lib.hid bn; have AZ := Lib.hid az; have BZ := Lib.hid bz
  clear zs zo bn az bz hZ
  by_cases h37 : n = 37
  · subst h37
    have h1 : 1 < (b.getD 0 0).toNat := h.resolve_left (fun h => h rfl)
    obtain ⟨bb, oo, ea, hlt, hc⟩ := hr (by intro e; rw [e] at hn; simp at hn)
    subst ea
    have c0 := hc 0 (by omega)
    have c0 : (w.alloc (.cells Z 37)).cell? ⟨bb, oo, none⟩ = some (.int .u8 ((b.getD 0 0).toNat : Int)) := (BZ.out.cell (p := ⟨bb, oo, none⟩) hlt).trans c0
    obtain ⟨x, hx0⟩ : ∃ x, x = (b.getD 0 0).toNat := ⟨_, rfl⟩
    rw [← hx0] at c0 h1
    have h1' : (1 : Int) < (x : Int) := by omega
    clear hc hr hv0 hn h hx0 hl hcap
    go_enter Try.func36, Try.ntmps36
    go_upto_region 1 with fail
    clear hx
    generalize w.alloc (.cells Z 37) = w1 at *
    go_wp2_with (first
      | (refine Mem.wpList_build (by rfl) 37 _ #[] (.agg Z) (by rfl) (by simp) BN.out ?_)
      | (refine wpList_store_all (by rfl) 37 _ _ (by rfl) (by rfl) w.heap.size Z (by rfl) (by rfl) (by rw [ZS.out]; exact infoRfR) Z 37 AZ.out (by rfl) ZO.out ?_))
    try simp only [Exit.inBlock, Exit.then]
    refine ret_row_tmp (by rfl) w.heap.size 37 Z _ _ (by rfl) (by rfl) (AZ.out.row Z) Try.underlying37 (by rfl) (by rw [ZS.out]; exact infoRfR) ?_
    exact ⟨rfl, below_row BZ.out (Nat.le_refl _) Z⟩
  · have g : ¬ (n : Int) = 37 := by omega
    clear hr hv0 hn h h37 hcap
    go_enter Try.func36, Try.ntmps36
    go_upto_region 1 with fail
    clear hx
    generalize w.alloc (.cells Z 37) = w1 at *
    go_wp2_with (first
      | (refine Mem.wpList_build (by rfl) 37 _ #[] (.agg Z) (by rfl) (by simp) BN.out ?_)
      | (refine wpList_store_all (by rfl) 37 _ _ (by rfl) (by rfl) w.heap.size Z (by rfl) (by rfl) (by rw [ZS.out]; exact infoRfR) Z 37 AZ.out (by rfl) ZO.out ?_))
    try simp only [Exit.inBlock, Exit.then]
    refine ret_row_tmp (by rfl) w.heap.size 37 Z _ _ (by rfl) (by rfl) (AZ.out.row Z) Try.underlying37 (by rfl) (by rw [ZS.out]; exact infoRfR) ?_
    exact ⟨rfl, below_row BZ.out (Nat.le_refl _) Z⟩
/-- In Parse's loops: the result's block rb, the reference's block g. -/
structure RpInv (b : List (BitVec 8)) (Z : Array Value) (rb g i k : Nat) (w w4 wr : World) : Prop where
  z : At wr rb Z 37
  r : At wr g (refC (rfAt b i k)) 37
  o : But g w4 wr
  b : Below w.heap.size w wr
theorem rp_next {b : List (BitVec 8)} {Z : Array Value} {rb g i k i' k' : Nat} {w w4 wr w' : World} (h : RpInv b Z rb g i k w w4 wr) (hne : rb ≠ g) (hg : w.heap.size ≤ g) (ha : At w' g (refC (rfAt b i' k')) 37) (ho : ∀ q, q ≠ g → w'.heap[q]? = wr.heap[q]?) (hk : ∀ B a, Below B a wr → B ≤ g → Below B a w') : RpInv b Z rb g i' k' w w4 w' :=
  ⟨at_keep h.z ho hne, ha, ⟨Nat.le_trans h.o.size (hk g wr (Below.refl _ _) (Nat.le_refl _)).size, fun q hq hn => (ho q hn).trans (h.o.block q hq hn)⟩, hk _ _ h.b hg⟩
set_option maxRecDepth 100000 in
set_option maxHeartbeats 8000000 in
theorem rparseRf_good (b : List (BitVec 8)) (v : Value) (w : World) (hv : Sl w v b) (hl : b.length = 37) (h1 : (b.getD 0 0).toNat ≤ 1) :
    Calls Try.prog 36 #[v] w fun e w' => e = .returned (.tuple #[.agg (refC (rfOf b)), .int .i64 0]) ∧ Below w.heap.size w w' := by
  obtain ⟨a0, cap, rfl, hcap, hr⟩ := hv
  obtain ⟨bb, oo, ea, hblt, hc⟩ := hr (by intro e; rw [e] at hl; simp at hl)
  subst ea
  have hfs := refC_size (rfOf_wf b hl)
  have hfo := refC_one (rfOf b)
  obtain ⟨F, hF⟩ : ∃ F, F = refC (rfOf b) := ⟨_, rfl⟩
  rw [← hF] at hfs hfo ⊢
  have FS := Lib.hid hfs; have FO := Lib.hid hfo; have HF := Lib.hid hF
  clear hfs hfo hF
  obtain ⟨Z, hZ⟩ : ∃ Z, Z = refC zref := ⟨_, rfl⟩
  have zs : Z.size = 34 := by rw [hZ]; exact refC_size zref_wf
  have hx : ∀ w, (zeroValue 37).run Try.prog w = .ok (.agg Z) w := by rw [hZ]; exact zeroRfR
  have az := at_new w Z 37
  have bz : Below w.heap.size w (w.alloc (.cells Z 37)) := (Below.refl _ _).alloc (Nat.le_refl _) _
  have b1 : ∀ wx, (Instr.build 37 #[(0, .int .i64 ((b.getD 0 0).toNat : Int))]).run Try.prog wx = .ok (.agg (refC (rfAt b 0 0))) wx := fun wx => buildRf1 _ wx
  have hcells : Hid (∀ wx, But (w.heap.size + 1) w wx → ∀ q, q < 37 → wx.cell? ⟨bb, oo + q, none⟩ = some (.int .u8 ((b.getD q 0).toNat : Int))) := Lib.hid fun wx h q hq => by
    rw [World.cell?_of_block (w := w) (w' := wx) (a := ⟨bb, oo + q, none⟩) (h.block bb hblt (by omega))]
    exact hc q (by omega)
  have ms0 := refC_size (rfAt_wf b hl 0 0 (by decide))
  have mo0 := refC_one (rfAt b 0 0)
  obtain ⟨M, hM⟩ : ∃ M, M = refC (rfAt b 0 0) := ⟨_, rfl⟩
  rw [← hM] at b1 ms0 mo0
  have c0 : (w.alloc (.cells Z 37)).cell? ⟨bb, oo, none⟩ = some (.int .u8 ((b.getD 0 0).toNat : Int)) := (bz.cell (p := ⟨bb, oo, none⟩) hblt).trans (hc 0 (by omega))
  obtain ⟨x, hx0⟩ : ∃ x, x = (b.getD 0 0).toNat := ⟨_, rfl⟩
  rw [← hx0] at c0 h1 b1
  have h1' : ¬ (1 : Int) < (x : Int) := by omega
  have cvb := fun wx => conv_bI x (by omega) wx
  have I0 : Hid (RpInv b Z w.heap.size (w.heap.size + 1) 0 0 w w ((w.alloc (.cells Z 37)).alloc (.cells M 37))) := by
    refine Lib.hid ⟨az.alloc _, ?_, ?_, bz.alloc (by simp) _⟩
    · have h := at_new (w.alloc (.cells Z 37)) M 37
      rw [← hM]; simpa using h
    · have h := bz.alloc (by simp) (.cells M 37)
      exact ⟨h.size, fun q hq _ => h.block q hq⟩
  have HLN := Lib.hid hl; have ZS := Lib.hid zs; have B1 := Lib.hid b1; have MS := Lib.hid ms0; have MO := Lib.hid mo0; have CVB := Lib.hid cvb; have BLT := Lib.hid hblt
  rw [hl]
  have hws : (w.alloc (.cells Z 37)).heap.size = w.heap.size + 1 := by simp
  have HWS := Lib.hid hws
  clear hc hr hcap zs az bz b1 ms0 mo0 cvb hM hZ hx0 hl h1 hblt hws
  go_enter Try.func36, Try.ntmps36
  go_upto_region 1 with fail
  generalize w.alloc (.cells Z 37) = w1 at *
  go_wp2_with (first
    | (refine Mem.wpList_build (by rfl) 37 _ #[(0, .int .i64 (x : Int))] (.agg M) (by rfl) (by simp [Act.eval]) B1.out ?_)
    | (refine wpList_store_new (by rfl) 37 _ _ (by rfl) (by rfl) M _ _ (by rfl) (by rfl) (by rw [MS.out]; exact infoRfR) (by rw [MS.out, ZS.out]) MO.out ?_; rw [HWS.out]; clear c0 hx))
  obtain ⟨rb, hrb⟩ : ∃ rb, rb = w.heap.size := ⟨_, rfl⟩
  rw [← hrb] at I0 hcells ⊢
  generalize w1.alloc (.cells M 37) = w4 at *
  obtain ⟨g, hgg⟩ : ∃ g, g = rb + 1 := ⟨_, rfl⟩
  rw [← hgg] at I0 hcells ⊢
  have HRB := Lib.hid hrb; have HGG := Lib.hid hgg
  clear hrb hgg HWS B1 MS MO CVB
  go_loopw [5] (fun i wr => ∃ j : Nat, j ≤ 4 ∧ i = .int .i64 j ∧ RpInv b Z rb g j 0 w w wr) (fun i _ => 4 - (intOf i).toNat)
  case atStart => exact ⟨0, by omega, rfl, I0.out⟩
  case round =>
    clear I0
    obtain ⟨j, hj, rfl, hI⟩ := hrel
    by_cases hlt : j < 4
    · have hlt' : (j : Int) < 4 := by omega
      have cb := hcells.out wr hI.o (1 + j) (by omega)
      obtain ⟨c, hcc⟩ : ∃ c, c = (b.getD (1 + j) 0).toNat := ⟨_, rfl⟩
      have hc8 : c < 256 := by rw [hcc]; exact (b.getD (1 + j) 0).isLt
      rw [← hcc] at cb
      have hn := eN_lt b (j + 1) (by omega)
      have hn0 : eN b (j + 1) = eN b j + c * 256 ^ j := by rw [hcc]; rfl
      have hp4 : 256 ^ (j + 1) ≤ 256 ^ 4 := Nat.pow_le_pow_right (by decide) (by omega)
      have c1 : wr.cell? ⟨g, 1, none⟩ = some (.int .u32 (eN b j : Int)) := by
        rw [(hI.r.cell 1).trans (ref1 _)]
        show some (Value.int .u32 (V (BitVec.ofNat 32 (eN b j)))) = _
        rw [V_ofNat _ (by omega)]
      have hset : (refC (rfAt b j 0)).setIfInBounds 1 (.int .u32 ((eN b (j + 1) : Nat) : Int)) = refC (rfAt b (j + 1) 0) := by
        have h := ref_set1 (rfAt b j 0) (BitVec.ofNat 32 (eN b (j + 1)))
        rw [V_ofNat _ (by omega)] at h
        exact h
      have hsz : (refC (rfAt b j 0)).size = 34 := refC_size (rfAt_wf b HLN.out j 0 (by decide))
      obtain ⟨e1, he1⟩ : ∃ e1, e1 = eN b j := ⟨_, rfl⟩
      obtain ⟨e2, he2⟩ : ∃ e2, e2 = eN b (j + 1) := ⟨_, rfl⟩
      obtain ⟨s, hs⟩ : ∃ s, s = c * 256 ^ j := ⟨_, rfl⟩
      rw [← he1] at c1 hn0
      rw [← he2] at hn hn0 hset
      rw [← hs] at hn0
      have he2' : e2 < 4294967296 := by omega
      have hshl := fun (t : TypeId) (x y : Operand) wx => o_shl8 c j hc8 hlt t x y wx
      rw [← hs] at hshl
      have hadd : ∀ (t : TypeId) (x y : Operand) wx, (do eqGuard .add t x y (.int .u32 (e1 : Int)) (.int .u32 (s : Int)); binOp .add t (.int .u32 (e1 : Int)) (.int .u32 (s : Int)) : Sem Value).run Try.prog wx = .ok (.int .u32 (e2 : Int)) wx := fun t x y wx => o_uadd _ _ _ _ _ _ _ (by omega) (by omega) (by omega) wx
      have hcv := fun wx => conv_bU c hc8 wx
      have hi : ∀ (t : TypeId) (x y : Operand) wx, (do eqGuard .add t x y (.int .i64 1) (.int .i64 (j : Int)); binOp .add t (.int .i64 1) (.int .i64 (j : Int)) : Sem Value).run Try.prog wx = .ok (.int .i64 ((1 + j : Nat) : Int)) wx := fun t x y wx => o_iadd _ _ _ _ _ _ _ (by omega) (by omega) (by omega) wx
      have hm8 : ∀ (t : TypeId) (x y : Operand) wx, (do eqGuard .mul t x y (.int .i64 8) (.int .i64 (j : Int)); binOp .mul t (.int .i64 8) (.int .i64 (j : Int)) : Sem Value).run Try.prog wx = .ok (.int .i64 ((8 * j : Nat) : Int)) wx := fun t x y wx => o_imul _ _ _ _ _ _ _ (by omega) (by omega) (by omega) wx
      have hcb : ∀ wx, But g wr wx → wx.cell? ⟨bb, oo + (1 + j), none⟩ = some (.int .u8 (c : Int)) := fun wx h => by
        rw [World.cell?_of_block (w := wr) (w' := wx) (a := ⟨bb, oo + (1 + j), none⟩) (h.block bb (Nat.lt_of_lt_of_le BLT.out hI.o.size) (by have := BLT.out; have := HRB.out; have := HGG.out; show bb ≠ g; omega))]
        exact cb
      obtain ⟨E, hE⟩ : ∃ E, E = refC (rfAt b j 0) := ⟨_, rfl⟩
      have hr2 := hI.r
      rw [← hE] at hr2 hset hsz
      have II := Lib.hid hI; have RR := Lib.hid hr2; have SET := Lib.hid hset; have ES := Lib.hid hsz; have SHL := Lib.hid hshl; have ADD := Lib.hid hadd; have CV := Lib.hid hcv; have IADD := Lib.hid hi; have IMUL := Lib.hid hm8; have CB := Lib.hid hcb; have C1 : Hid (wr.drew.cell? ⟨g, 1, none⟩ = some (.int .u32 (e1 : Int))) := Lib.hid c1
      clear hI hr2 hset hsz hE hshl hadd hcv hi hm8 hcb cb hcc hc8 hn hn0 hp4 he1 he2 hs he2' c1
      have DR : Hid (But g wr wr.drew) := Lib.hid ⟨Nat.le_refl _, fun _ _ _ => rfl⟩
      go_wp2_with fail
      refine wp_region_plan_in (fun x => But g wr x) (.take 0 (.take 2 (.take 3 (.take 4 (.take 5 (.take 6 (.take 7 (.take 8 (.take 9 (.take 10 (.sole 1 (.take 11 (.take 12 (.sole 13 .done)))))))))))))) (by kernel_rfl) (by kernel_rfl) (by kernel_rfl) DR.out ?_
      refine plan_field 37 _ 1 g 0 ⟨g, 1, none⟩ (by rfl) (by rfl) (by rfl) (by first | (with_reducible exact Mem.ev_const _ _) | (with_reducible exact Mem.ev_zero _ _ _) | (with_reducible (apply Eq.trans (Mem.ev_tmp _ _ _)); simp only [List.getD_cons_succ, List.getD_cons_zero] <;> rfl)) (fun wx => by go_simp) ?_
      (simp only [Act.put, List.setIfInBounds_toArray, List.set_cons_zero, List.set_cons_succ])
      (first | (refine plan_move _ _ (by rfl) (by rfl) (.inl (by rfl)) (by first | (with_reducible exact Mem.ev_const _ _) | (with_reducible exact Mem.ev_zero _ _ _) | (with_reducible (apply Eq.trans (Mem.ev_tmp _ _ _)); simp only [List.getD_cons_succ, List.getD_cons_zero] <;> rfl)) ?_) | (refine plan_move _ _ (by rfl) (by rfl) (.inr (by rfl)) (by first | (with_reducible exact Mem.ev_const _ _) | (with_reducible exact Mem.ev_zero _ _ _) | (with_reducible (apply Eq.trans (Mem.ev_tmp _ _ _)); simp only [List.getD_cons_succ, List.getD_cons_zero] <;> rfl)) ?_) | (refine plan_pick_t _ _ _ _ (by rfl) (by rfl) (by rfl) (by first | (with_reducible exact Mem.ev_const _ _) | (with_reducible exact Mem.ev_zero _ _ _) | (with_reducible (apply Eq.trans (Mem.ev_tmp _ _ _)); simp only [List.getD_cons_succ, List.getD_cons_zero] <;> rfl)) (by first | (with_reducible exact Mem.ev_const _ _) | (with_reducible exact Mem.ev_zero _ _ _) | (with_reducible (apply Eq.trans (Mem.ev_tmp _ _ _)); simp only [List.getD_cons_succ, List.getD_cons_zero] <;> rfl)) ?_) | (refine plan_pick_f _ _ _ _ (by rfl) (by rfl) (by rfl) (by first | (with_reducible exact Mem.ev_const _ _) | (with_reducible exact Mem.ev_zero _ _ _) | (with_reducible (apply Eq.trans (Mem.ev_tmp _ _ _)); simp only [List.getD_cons_succ, List.getD_cons_zero] <;> rfl)) (by first | (with_reducible exact Mem.ev_const _ _) | (with_reducible exact Mem.ev_zero _ _ _) | (with_reducible (apply Eq.trans (Mem.ev_tmp _ _ _)); simp only [List.getD_cons_succ, List.getD_cons_zero] <;> rfl)) ?_))
      (simp only [Act.put, List.setIfInBounds_toArray, List.set_cons_zero, List.set_cons_succ])
      (first | (refine plan_move _ _ (by rfl) (by rfl) (.inl (by rfl)) (by first | (with_reducible exact Mem.ev_const _ _) | (with_reducible exact Mem.ev_zero _ _ _) | (with_reducible (apply Eq.trans (Mem.ev_tmp _ _ _)); simp only [List.getD_cons_succ, List.getD_cons_zero] <;> rfl)) ?_) | (refine plan_move _ _ (by rfl) (by rfl) (.inr (by rfl)) (by first | (with_reducible exact Mem.ev_const _ _) | (with_reducible exact Mem.ev_zero _ _ _) | (with_reducible (apply Eq.trans (Mem.ev_tmp _ _ _)); simp only [List.getD_cons_succ, List.getD_cons_zero] <;> rfl)) ?_) | (refine plan_pick_t _ _ _ _ (by rfl) (by rfl) (by rfl) (by first | (with_reducible exact Mem.ev_const _ _) | (with_reducible exact Mem.ev_zero _ _ _) | (with_reducible (apply Eq.trans (Mem.ev_tmp _ _ _)); simp only [List.getD_cons_succ, List.getD_cons_zero] <;> rfl)) (by first | (with_reducible exact Mem.ev_const _ _) | (with_reducible exact Mem.ev_zero _ _ _) | (with_reducible (apply Eq.trans (Mem.ev_tmp _ _ _)); simp only [List.getD_cons_succ, List.getD_cons_zero] <;> rfl)) ?_) | (refine plan_pick_f _ _ _ _ (by rfl) (by rfl) (by rfl) (by first | (with_reducible exact Mem.ev_const _ _) | (with_reducible exact Mem.ev_zero _ _ _) | (with_reducible (apply Eq.trans (Mem.ev_tmp _ _ _)); simp only [List.getD_cons_succ, List.getD_cons_zero] <;> rfl)) (by first | (with_reducible exact Mem.ev_const _ _) | (with_reducible exact Mem.ev_zero _ _ _) | (with_reducible (apply Eq.trans (Mem.ev_tmp _ _ _)); simp only [List.getD_cons_succ, List.getD_cons_zero] <;> rfl)) ?_))
      (simp only [Act.put, List.setIfInBounds_toArray, List.set_cons_zero, List.set_cons_succ])
      refine plan_bin _ _ _ _ _ _ _ (.int .i64 ((1 + j : Nat) : Int)) (by rfl) (by rfl) (by rfl) (by rfl) (by first | (with_reducible exact Mem.ev_const _ _) | (with_reducible exact Mem.ev_zero _ _ _) | (with_reducible (apply Eq.trans (Mem.ev_tmp _ _ _)); simp only [List.getD_cons_succ, List.getD_cons_zero] <;> rfl)) (fun wx => IADD.out _ _ _ wx) ?_
      (simp only [Act.put, List.setIfInBounds_toArray, List.set_cons_zero, List.set_cons_succ])
      refine plan_index 24 5 _ _ bb oo 37 cap (1 + j) (by rfl) (by rfl) (by rfl) (by first | (with_reducible exact Mem.ev_const _ _) | (with_reducible exact Mem.ev_zero _ _ _) | (with_reducible (apply Eq.trans (Mem.ev_tmp _ _ _)); simp only [List.getD_cons_succ, List.getD_cons_zero] <;> rfl)) (by first | (with_reducible exact Mem.ev_const _ _) | (with_reducible exact Mem.ev_zero _ _ _) | (with_reducible (apply Eq.trans (Mem.ev_tmp _ _ _)); simp only [List.getD_cons_succ, List.getD_cons_zero] <;> rfl)) (by omega) Try.underlying24 (by kernel_rfl) ?_
      (simp only [Act.put, List.setIfInBounds_toArray, List.set_cons_zero, List.set_cons_succ])
      refine plan_cell 5 _ _ (.int .u8 (c : Int)) _ (by rfl) (by rfl) (by rfl) (by first | (with_reducible exact Mem.ev_const _ _) | (with_reducible exact Mem.ev_zero _ _ _) | (with_reducible (apply Eq.trans (Mem.ev_tmp _ _ _)); simp only [List.getD_cons_succ, List.getD_cons_zero] <;> rfl)) (fun w' hw' => CB.out w' hw') Try.underlying5 (by rfl) ?_
      (simp only [Act.put, List.setIfInBounds_toArray, List.set_cons_zero, List.set_cons_succ])
      refine plan_conv 5 34 _ (.int .u8 (c : Int)) (.int .u32 (c : Int)) (by rfl) (by rfl) (by rfl) (by first | (with_reducible exact Mem.ev_const _ _) | (with_reducible exact Mem.ev_zero _ _ _) | (with_reducible (apply Eq.trans (Mem.ev_tmp _ _ _)); simp only [List.getD_cons_succ, List.getD_cons_zero] <;> rfl)) (fun wx => CV.out wx) ?_
      (simp only [Act.put, List.setIfInBounds_toArray, List.set_cons_zero, List.set_cons_succ])
      (first | (refine plan_move _ _ (by rfl) (by rfl) (.inl (by rfl)) (by first | (with_reducible exact Mem.ev_const _ _) | (with_reducible exact Mem.ev_zero _ _ _) | (with_reducible (apply Eq.trans (Mem.ev_tmp _ _ _)); simp only [List.getD_cons_succ, List.getD_cons_zero] <;> rfl)) ?_) | (refine plan_move _ _ (by rfl) (by rfl) (.inr (by rfl)) (by first | (with_reducible exact Mem.ev_const _ _) | (with_reducible exact Mem.ev_zero _ _ _) | (with_reducible (apply Eq.trans (Mem.ev_tmp _ _ _)); simp only [List.getD_cons_succ, List.getD_cons_zero] <;> rfl)) ?_) | (refine plan_pick_t _ _ _ _ (by rfl) (by rfl) (by rfl) (by first | (with_reducible exact Mem.ev_const _ _) | (with_reducible exact Mem.ev_zero _ _ _) | (with_reducible (apply Eq.trans (Mem.ev_tmp _ _ _)); simp only [List.getD_cons_succ, List.getD_cons_zero] <;> rfl)) (by first | (with_reducible exact Mem.ev_const _ _) | (with_reducible exact Mem.ev_zero _ _ _) | (with_reducible (apply Eq.trans (Mem.ev_tmp _ _ _)); simp only [List.getD_cons_succ, List.getD_cons_zero] <;> rfl)) ?_) | (refine plan_pick_f _ _ _ _ (by rfl) (by rfl) (by rfl) (by first | (with_reducible exact Mem.ev_const _ _) | (with_reducible exact Mem.ev_zero _ _ _) | (with_reducible (apply Eq.trans (Mem.ev_tmp _ _ _)); simp only [List.getD_cons_succ, List.getD_cons_zero] <;> rfl)) (by first | (with_reducible exact Mem.ev_const _ _) | (with_reducible exact Mem.ev_zero _ _ _) | (with_reducible (apply Eq.trans (Mem.ev_tmp _ _ _)); simp only [List.getD_cons_succ, List.getD_cons_zero] <;> rfl)) ?_))
      (simp only [Act.put, List.setIfInBounds_toArray, List.set_cons_zero, List.set_cons_succ])
      refine plan_bin _ _ _ _ _ _ _ (.int .i64 ((8 * j : Nat) : Int)) (by rfl) (by rfl) (by rfl) (by rfl) (by first | (with_reducible exact Mem.ev_const _ _) | (with_reducible exact Mem.ev_zero _ _ _) | (with_reducible (apply Eq.trans (Mem.ev_tmp _ _ _)); simp only [List.getD_cons_succ, List.getD_cons_zero] <;> rfl)) (fun wx => IMUL.out _ _ _ wx) ?_
      (simp only [Act.put, List.setIfInBounds_toArray, List.set_cons_zero, List.set_cons_succ])
      refine plan_bin _ _ _ _ _ _ _ (.int .u32 (s : Int)) (by rfl) (by rfl) (by rfl) (by first | (with_reducible exact Mem.ev_const _ _) | (with_reducible exact Mem.ev_zero _ _ _) | (with_reducible (apply Eq.trans (Mem.ev_tmp _ _ _)); simp only [List.getD_cons_succ, List.getD_cons_zero] <;> rfl)) (by first | (with_reducible exact Mem.ev_const _ _) | (with_reducible exact Mem.ev_zero _ _ _) | (with_reducible (apply Eq.trans (Mem.ev_tmp _ _ _)); simp only [List.getD_cons_succ, List.getD_cons_zero] <;> rfl)) (fun wx => SHL.out _ _ _ wx) ?_
      (simp only [Act.put, List.setIfInBounds_toArray, List.set_cons_zero, List.set_cons_succ])
      refine plan_sole_cell 34 _ _ (.int .u32 (e1 : Int)) _ (by rfl) (by rfl) (by rfl) (by first | (with_reducible exact Mem.ev_const _ _) | (with_reducible exact Mem.ev_zero _ _ _) | (with_reducible (apply Eq.trans (Mem.ev_tmp _ _ _)); simp only [List.getD_cons_succ, List.getD_cons_zero] <;> rfl)) C1.out Try.underlying34 (by rfl) DR.out ?_
      (simp only [Act.put, List.setIfInBounds_toArray, List.set_cons_zero, List.set_cons_succ])
      refine plan_bin _ _ _ _ _ _ _ (.int .u32 (e2 : Int)) (by rfl) (by rfl) (by rfl) (by first | (with_reducible exact Mem.ev_const _ _) | (with_reducible exact Mem.ev_zero _ _ _) | (with_reducible (apply Eq.trans (Mem.ev_tmp _ _ _)); simp only [List.getD_cons_succ, List.getD_cons_zero] <;> rfl)) (by first | (with_reducible exact Mem.ev_const _ _) | (with_reducible exact Mem.ev_zero _ _ _) | (with_reducible (apply Eq.trans (Mem.ev_tmp _ _ _)); simp only [List.getD_cons_succ, List.getD_cons_zero] <;> rfl)) (fun wx => ADD.out _ _ _ wx) ?_
      (simp only [Act.put, List.setIfInBounds_toArray, List.set_cons_zero, List.set_cons_succ])
      refine plan_field 37 _ 1 g 0 ⟨g, 1, none⟩ (by rfl) (by rfl) (by rfl) (by first | (with_reducible exact Mem.ev_const _ _) | (with_reducible exact Mem.ev_zero _ _ _) | (with_reducible (apply Eq.trans (Mem.ev_tmp _ _ _)); simp only [List.getD_cons_succ, List.getD_cons_zero] <;> rfl)) (fun wx => by go_simp) ?_
      (simp only [Act.put, List.setIfInBounds_toArray, List.set_cons_zero, List.set_cons_succ])
      refine plan_store_one 34 _ _ g 1 (.int .u32 (e2 : Int)) _ 37 (by rfl) (by rfl) (by rfl) (by rfl) (by first | (with_reducible exact Mem.ev_const _ _) | (with_reducible exact Mem.ev_zero _ _ _) | (with_reducible (apply Eq.trans (Mem.ev_tmp _ _ _)); simp only [List.getD_cons_succ, List.getD_cons_zero] <;> rfl)) (by first | (with_reducible exact Mem.ev_const _ _) | (with_reducible exact Mem.ev_zero _ _ _) | (with_reducible (apply Eq.trans (Mem.ev_tmp _ _ _)); simp only [List.getD_cons_succ, List.getD_cons_zero] <;> rfl)) (by rfl) infoU9 RR.out (by rw [ES.out]; decide) (DR.out.row (by simp) (fun j hj => heap_setCell_other _ _ _ _ hj)) ?_
      refine plan_nil ?_
      go_wp2_with fail
      go_roundw
      case rel => exact ⟨j + 1, by omega, by go_num, rp_next II.out (by have := HGG.out; omega) (by have := HGG.out; have := HRB.out; omega) (by have h := RR.out.set 1 (.int .u32 (e2 : Int)); rw [SET.out] at h; exact h) (fun q hq => heap_setCell_other wr.drew ⟨g, 1, none⟩ q _ hq) (fun B a hB hle => hB.drew.setCell hle _)⟩
      case measure => simp [intOf]; omega
    · have hj4 : j = 4 := by omega
      have hge : ¬ (j : Int) < 4 := by omega
      subst hj4
      have I1 := Lib.hid hI
      clear hI hlt hj
      go_wp2_with fail
      go_loopw [6] (fun i wr => ∃ k : Nat, k ≤ 32 ∧ i = .int .i64 k ∧ RpInv b Z rb g 4 k w w wr) (fun i _ => 32 - (intOf i).toNat)
      case atStart => exact ⟨0, by omega, rfl, I1.out⟩
      case round =>
        clear I1
        obtain ⟨k, hk, rfl, hI⟩ := hrel
        by_cases hlt : k < 32
        · have hlt' : (k : Int) < 32 := by omega
          have cb := hcells.out wr hI.o (5 + k) (by omega)
          have hwf := rfAt_wf b HLN.out 4 k (by omega)
          have hset : (refC (rfAt b 4 k)).setIfInBounds (2 + k) (.int .u8 ((b.getD (5 + k) 0).toNat : Int)) = refC (rfAt b 4 (k + 1)) := by
            rw [ref_setDg _ k _ (by rw [hwf.dg]; exact hlt)]
            have e : (b.drop 5).getD k 0 = b.getD (5 + k) 0 := by simp [List.getD_eq_getElem?_getD, List.getElem?_drop]
            have h := rowZ_set (b.drop 5) 32 k (by simp [HLN.out]) hlt
            rw [e] at h
            show refC ⟨_, _, (rowZ (b.drop 5) 32 k).set k _⟩ = refC ⟨_, _, rowZ (b.drop 5) 32 (k + 1)⟩
            rw [h]
            rfl
          have hsz : 2 + k < (refC (rfAt b 4 k)).size := by rw [refC_size hwf]; omega
          obtain ⟨c, hcc⟩ : ∃ c, c = (b.getD (5 + k) 0).toNat := ⟨_, rfl⟩
          rw [← hcc] at cb hset
          obtain ⟨E, hE⟩ : ∃ E, E = refC (rfAt b 4 k) := ⟨_, rfl⟩
          have hr2 := hI.r
          rw [← hE] at hr2 hset hsz
          have II := Lib.hid hI; have RR := Lib.hid hr2; have SET := Lib.hid hset; have ES := Lib.hid hsz
          clear hI hr2 hset hsz hE hwf hcc
          go_wp2_with (refine Mem.wpList_store_one (by rfl) 5 _ _ (by rfl) (by rfl) g (2 + k) (.int .u8 (c : Int)) (by rfl) (by rfl) (by rfl) infoB _ 37 RR.out ES.out ?_; intro w' hat' ho' hb'; have K' := Lib.hid hat'; have O' := Lib.hid ho'; have B' := Lib.hid hb'; clear hat' ho' hb')
          go_roundw
          case rel => exact ⟨k + 1, by omega, by go_num, rp_next II.out (by have := HGG.out; omega) (by have := HGG.out; have := HRB.out; omega) (by rw [← SET.out]; exact K'.out) O'.out B'.out⟩
          case measure => simp [intOf]; omega
        · have hk32 : k = 32 := by omega
          have hge2 : ¬ (k : Int) < 32 := by omega
          subst hk32
          have hr2 := hI.r
          rw [rfAt_all b HLN.out] at hr2
          have hz := hI.z
          have hbw := hI.b
          rw [← HF.out] at hr2
          have RR := Lib.hid hr2; have ZZ := Lib.hid hz; have BB := Lib.hid hbw
          clear hI hr2 hlt hk hz hbw
          go_wp2_with (first
            | (refine wpList_load_all (by rfl) 37 _ (by rfl) g (by rfl) _ Try.underlying37 (by rfl) F _ RR.out (by rw [FS.out]; exact infoRfR) ?_)
            | (refine wpList_store_all (by rfl) 37 _ _ (by rfl) (by rfl) rb F (by rfl) (by rfl) (by rw [FS.out]; exact infoRfR) Z 37 ZZ.out (by rw [ZS.out, FS.out]) FO.out ?_))
          try simp only [Exit.inBlock, Exit.then]
          refine ret_row_tmp (by rfl) rb 37 F _ _ (by rfl) (by rfl) (At.row (C := Z) ZZ.out F) Try.underlying37 (by rfl) (by rw [FS.out]; exact infoRfR) ?_
          exact ⟨rfl, below_row BB.out (by rw [HRB.out]; exact Nat.le_refl _) F⟩
theorem rparseRf_any (b : List (BitVec 8)) (v : Value) (w : World) (hv : Sl w v b) (hl : b.length ≤ 1000) :
    Calls Try.prog 36 #[v] w fun e w' => e = .returned (.tuple #[.agg (refC (parseRf b).1), .int .i64 (parseRf b).2]) ∧ Below w.heap.size w w' := by
  unfold parseRf
  by_cases h : b.length ≠ 37 ∨ 1 < (b.getD 0 0).toNat
  · rw [if_pos h]; exact rparseRf_bad b v w hv hl h
  · rw [if_neg h]; exact rparseRf_good b v w hv (by omega) (by omega)
end Sha
end Go.Proofs.Ytfbhbdllbapnpaa
