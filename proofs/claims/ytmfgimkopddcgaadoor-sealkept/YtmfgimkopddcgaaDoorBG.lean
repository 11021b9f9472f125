/- Seal: mathematics of references, sealed blocks and clashes. References as values: zero, built, compared. The document's Seal, Hide and Open (written by sealref.py). The document's Open (written by sealopen.py). The document's Lay of a reference. The document's Parse of a reference (written by sealparse.py). What Clash tells; digests as cells. The document's Clash (written by sealclash.py). Layer 9's law: page; references turned into each other's type. What the laws of layer 9 ask of the program: its contracts; alive. Layer 9: what a page is sealed with. Layer 9: numbers compared; how long what is told is; an error. -/
import Derived.Test.YtmfgimkopddcgaaDoorBA
import Derived.Test.YtmfgimkopddcgaaDoorBD
import Derived.Laws.Tables
import Derived.Test.YtmfgimkopddcgaaDoorBE
import Derived.Test.YtmfgimkopddcgaaDoorBC
import Derived.Great.Walk
import Derived.OwnWalk
import Derived.Deep.DeepCutAuto
import Derived.Lib.SlBytesConst
namespace Go.Proofs.YtmfgimkopddcgaaDoor
namespace Sha
open Go.RowKit Mem
/-- A reference, its digest as a list. -/
structure RefV where
  pl : Int
  ep : BitVec 32
  dg : List (BitVec 8)
structure RefV.Wf (r : RefV) : Prop where
  p0 : -9223372036854775808 ≤ r.pl
  p1 : r.pl ≤ 9223372036854775807
  dg : r.dg.length = 32
/-- Its cells. -/
def refL (r : RefV) : List Value := [.int .i64 r.pl, .int .u32 (V r.ep)] ++ u8s r.dg
def refC (r : RefV) : Array Value := (refL r).toArray
theorem refC_size {r : RefV} (h : r.Wf) : (refC r).size = 34 := by simp [refC, refL, u8s_length, h.dg]
theorem refC_one (r : RefV) : (refC r).all (·.oneCell') = true := by
  rw [Array.all_eq_true]
  intro i hi
  have hm : (refC r)[i] ∈ refL r := by
    have h : (refC r)[i] ∈ refC r := Array.getElem_mem hi
    exact Array.mem_toList_iff.2 h
  generalize (refC r)[i] = u at hm
  simp only [refL, List.mem_append, List.mem_cons, List.not_mem_nil, or_false] at hm
  rcases hm with (rfl | rfl) | hm
  all_goals first | rfl | exact u8s_cells _ _ hm
theorem ref0 (r : RefV) : (refC r)[0]? = some (.int .i64 r.pl) := by simp [refC, refL]
theorem ref1 (r : RefV) : (refC r)[1]? = some (.int .u32 (V r.ep)) := by simp [refC, refL]
theorem ref_dg {r : RefV} (h : r.Wf) (i : Nat) (hi : i < 32) : (refC r)[2 + i]? = some (.int .u8 ((r.dg.getD i 0).toNat : Int)) := by
  have e := u8s_get r.dg i (by rw [h.dg]; exact hi)
  rw [← e]
  simp only [refC, refL, List.getElem?_toArray]
  rw [List.getElem?_append_right (by simp)]
  simp
theorem ref_dgRow {r : RefV} (h : r.Wf) : (refC r).extract 2 (2 + 32) = (u8s r.dg).toArray := by
  apply Array.ext'
  simp [refC, refL]
  exact List.take_of_length_le (by rw [u8s_length, h.dg]; exact Nat.le_refl _)
def zref : RefV := ⟨0, 0, List.replicate 32 0⟩
theorem zref_wf : zref.Wf := ⟨by decide, by decide, by decide⟩
theorem V_inj {x y : BitVec 32} (h : V x = V y) : x = y := by
  apply BitVec.eq_of_toNat_eq
  have : (x.toNat : Int) = (y.toNat : Int) := h
  omega
def sameRef (a b : RefV) : Bool := (a.pl == b.pl) && ((V a.ep == V b.ep) && (a.dg == b.dg))
theorem sameRef_iff (a b : RefV) : sameRef a b = true ↔ a = b := by
  obtain ⟨p, e, d⟩ := a
  obtain ⟨p', e', d'⟩ := b
  simp only [sameRef, Bool.and_eq_true, beq_iff_eq, RefV.mk.injEq]
  exact ⟨fun ⟨h1, h2, h3⟩ => ⟨h1, V_inj h2, h3⟩, fun ⟨h1, h2, h3⟩ => ⟨h1, by rw [h2], h3⟩⟩
theorem sameRef_self (a : RefV) : sameRef a a = true := (sameRef_iff a a).2 rfl
/-- A reference's bytes; the reference of bytes. -/
def layRf (r : RefV) : List (BitVec 8) := [BitVec.ofInt 8 r.pl] ++ le4 r.ep ++ r.dg
theorem layRf_length {r : RefV} (h : r.Wf) : (layRf r).length = 37 := by simp [layRf, le4, h.dg]
def rfOf (b : List (BitVec 8)) : RefV := ⟨((b.getD 0 0).toNat : Int), lew (b.drop 1) 0, b.drop 5⟩
theorem rfOf_wf (b : List (BitVec 8)) (h : b.length = 37) : (rfOf b).Wf := by
  have := (b.getD 0 0).isLt
  exact ⟨by show _ ≤ ((b.getD 0 0).toNat : Int); omega, by show ((b.getD 0 0).toNat : Int) ≤ _; omega, by simp [rfOf, h]⟩
/-- Parse: the reference, and the error. -/
def parseRf (b : List (BitVec 8)) : RefV × Int := if b.length ≠ 37 ∨ 1 < (b.getD 0 0).toNat then (zref, 1) else (rfOf b, 0)
theorem parseRf_wf (b : List (BitVec 8)) : (parseRf b).1.Wf := by
  unfold parseRf
  split
  · exact zref_wf
  · rename_i h; exact rfOf_wf b (by omega)
theorem lew_le4 (x : BitVec 32) (t : List (BitVec 8)) : lew (le4 x ++ t) 0 = x := by
  simp only [lew, le4, List.cons_append, List.nil_append, Nat.mul_zero, Nat.zero_add, List.getD_cons_zero, List.getD_cons_succ, wb]
  apply BitVec.eq_of_getLsbD_eq
  intro i hi
  simp only [BitVec.getLsbD_or, BitVec.getLsbD_shiftLeft, BitVec.getLsbD_setWidth, BitVec.getLsbD_ushiftRight]
  rcases (by omega : i < 8 ∨ (8 ≤ i ∧ i < 16) ∨ (16 ≤ i ∧ i < 24) ∨ 24 ≤ i) with h | h | h | h
  · simp [hi, h, show i < 24 by omega, show i < 16 by omega]
  · simp [hi, show ¬ i < 8 by omega, show i < 24 by omega, show i < 16 by omega, show i - 8 < 8 by omega, show i - 8 < 32 by omega, show 8 + (i - 8) = i by omega]
  · simp [hi, show ¬ i < 8 by omega, show i < 24 by omega, show ¬ i < 16 by omega, show ¬ i - 8 < 8 by omega, show i - 16 < 8 by omega, show i - 16 < 32 by omega, show 16 + (i - 16) = i by omega]
  · simp [hi, show ¬ i < 8 by omega, show ¬ i < 24 by omega, show ¬ i < 16 by omega, show ¬ i - 8 < 8 by omega, show ¬ i - 16 < 8 by omega, show i - 24 < 8 by omega, show i - 24 < 32 by omega, show 24 + (i - 24) = i by omega]
theorem le4_lew (a b c d : BitVec 8) (t : List (BitVec 8)) : le4 (lew (a :: b :: c :: d :: t) 0) = [a, b, c, d] := by
  have key : ∀ (k : Nat) (z : BitVec 8), (∀ i, i < 8 → (lew (a :: b :: c :: d :: t) 0).getLsbD (k + i) = z.getLsbD i) → wb (lew (a :: b :: c :: d :: t) 0) k = z := by
    intro k z h
    apply BitVec.eq_of_getLsbD_eq
    intro i hi
    rw [wb, BitVec.getLsbD_setWidth, BitVec.getLsbD_ushiftRight]
    simp [hi, h i hi]
  have z8 : ∀ (y : BitVec 8) (i : Nat), 8 ≤ i → y.getLsbD i = false := fun y i h => BitVec.getLsbD_of_ge y i h
  have hl : ∀ i, (lew (a :: b :: c :: d :: t) 0).getLsbD i = (((decide (i < 32) && !decide (i < 24) && (decide (i - 24 < 32) && d.getLsbD (i - 24))) || (decide (i < 32) && !decide (i < 16) && (decide (i - 16 < 32) && c.getLsbD (i - 16)))) || (decide (i < 32) && !decide (i < 8) && (decide (i - 8 < 32) && b.getLsbD (i - 8)))
      || (decide (i < 32) && a.getLsbD i)) := by
    intro i
    simp only [lew, Nat.mul_zero, Nat.zero_add, List.getD_cons_zero, List.getD_cons_succ, BitVec.getLsbD_or, BitVec.getLsbD_shiftLeft, BitVec.getLsbD_setWidth]
  simp only [le4]
  rw [key 0 a, key 8 b, key 16 c, key 24 d]
  · intro i hi
    rw [hl]
    simp [show 24 + i < 32 by omega, show ¬ 24 + i < 24 by omega, show ¬ 24 + i < 16 by omega, show ¬ 24 + i < 8 by omega, show 24 + i - 24 = i by omega, z8 c (24 + i - 16) (by omega), z8 b (24 + i - 8) (by omega), z8 a (24 + i) (by omega), show i < 32 by omega]
  · intro i hi
    rw [hl]
    simp [show 16 + i < 32 by omega, show 16 + i < 24 by omega, show ¬ 16 + i < 16 by omega, show ¬ 16 + i < 8 by omega, show 16 + i - 16 = i by omega, z8 b (16 + i - 8) (by omega), z8 a (16 + i) (by omega), show i < 32 by omega]
  · intro i hi
    rw [hl]
    simp [show 8 + i < 32 by omega, show 8 + i < 24 by omega, show 8 + i < 16 by omega, show ¬ 8 + i < 8 by omega, show 8 + i - 8 = i by omega, show i < 32 by omega]
  · intro i hi
    rw [hl]
    simp [hi, show i < 32 by omega, show i < 24 by omega, show i < 16 by omega]
end Sha
end Go.Proofs.YtmfgimkopddcgaaDoor
namespace Go.Proofs.YtmfgimkopddcgaaDoor
namespace Sha
open Go.RowKit Mem
theorem allocRfR (w : World) : (Instr.alloc 38 true (.tuple #[])).run Tryd.prog w = .ok (.pointer (some ⟨w.heap.size, 0, none⟩)) (w.alloc (.cells (refC zref) 38)) := by kernel_rfl
theorem zeroRfR (w : World) : (zeroValue 38).run Tryd.prog w = .ok (.agg (refC zref)) w := by kernel_rfl
theorem zeroRfP (w : World) : (zeroValue 35).run Tryd.prog w = .ok (.agg (refC zref)) w := by kernel_rfl
theorem buildRf0 (w : World) : (Instr.build 38 #[]).run Tryd.prog w = .ok (.agg (refC zref)) w := run_build w _ _ _ (by kernel_rfl)
theorem buildRf1 (p : Int) (w : World) : (Instr.build 38 #[(0, .int .i64 p)]).run Tryd.prog w = .ok (.agg (refC ⟨p, 0, List.replicate 32 0⟩)) w := run_build w _ _ _ (by kernel_rfl)
theorem buildRf3 (p : Int) (e : BitVec 32) (dg : List (BitVec 8)) (h : dg.length = 32) (w : World) : (Instr.build 38 #[(0, .int .i64 p), (1, .int .u32 (V e)), (2, .agg (u8s dg).toArray)]).run Tryd.prog w = .ok (.agg (refC ⟨p, e, dg⟩)) w := by
  match dg, h with
  | [a0, a1, a2, a3, a4, a5, a6, a7, a8, a9, a10, a11, a12, a13, a14, a15, a16, a17, a18, a19, a20, a21, a22, a23, a24, a25, a26, a27, a28, a29, a30, a31], _ => exact run_build w _ _ _ (by kernel_rfl)
theorem infoRfR : (Tryd.prog.info? 38).map (·.size) = some 34 := by kernel_rfl
theorem infoRfP : (Tryd.prog.info? 35).map (·.size) = some 34 := by kernel_rfl
theorem infoDg : (Tryd.prog.info? 22).map (·.size) = some 32 := by kernel_rfl
theorem sizeB1 (w : World) : (sizeOf 5).run Tryd.prog w = .ok 1 w := by kernel_rfl
set_option maxRecDepth 10000 in
theorem eq32 (d : Nat) (l m : List (BitVec 8)) (hl : l.length = 32) (hm : m.length = 32) (w : World) : (Op.equalIn (d + 2) 22 (.agg (u8s l).toArray) (.agg (u8s m).toArray)).run Tryd.prog w = .ok (l == m) w := by
  have e1 : ∀ k : List (BitVec 8), u8s k = (k.map fun x => (x.toNat : Int)).map (Value.int .u8) := fun k => by simp [u8s]
  have h := run_equalIn_ints (P := Tryd.prog) w d 22 5 .u8 32 Tryd.underlying22 Tryd.underlying5 sizeB1 (l.map fun x => (x.toNat : Int)) (m.map fun x => (x.toNat : Int)) (by simpa using hl) (by simpa using hm)
  rw [e1, e1, h]
  congr 1
  rw [Bool.eq_iff_iff, beq_iff_eq, beq_iff_eq]
  exact (List.map_inj_right (fun a b h => by apply BitVec.eq_of_toNat_eq; omega)).trans Iff.rfl
theorem parts_ref {a b : RefV} (ha : a.Wf) (hb : b.Wf) (d : Nat) (w : World) : (eqParts (d + 2) (refC a) (refC b) [(true, 3, 0), (true, 23, 1), (true, 22, 2)]).run Tryd.prog w = .ok (sameRef a b) w := by
  have e : sameRef a b = ((a.pl == b.pl) && ((V a.ep == V b.ep) && ((a.dg == b.dg) && true))) := by simp [sameRef]
  rw [e]
  refine eqParts_cons (run_part_int w 3 .i64 Tryd.underlying3 (refC a) 0 _ (ref0 a)) (run_part_int w 3 .i64 Tryd.underlying3 (refC b) 0 _ (ref0 b)) (run_equalIn_int w (d + 1) 3 .i64 .i64 _ _ Tryd.underlying3) ?_
  refine eqParts_cons (run_part_int w 23 .u32 Tryd.underlying23 (refC a) 1 _ (ref1 a)) (run_part_int w 23 .u32 Tryd.underlying23 (refC b) 1 _ (ref1 b)) (run_equalIn_int w (d + 1) 23 .u32 .u32 _ _ Tryd.underlying23) ?_
  exact eqParts_cons (run_part_arr w _ _ 32 32 Tryd.underlying22 infoDg _ 2 _ (ref_dgRow ha)) (run_part_arr w _ _ 32 32 Tryd.underlying22 infoDg _ 2 _ (ref_dgRow hb)) (eq32 d _ _ ha.dg hb.dg w) rfl
theorem eqlRf (t : TypeId) (hf : (Tryd.prog.fieldsOf t).toList.map (fun f => (decide (f.name ≠ "_"), f.type, f.offset)) = [(true, 3, 0), (true, 23, 1), (true, 22, 2)])
    (hu : Tryd.prog.underlying t = some (.struct (Tryd.prog.fieldsOf t))) (hp : Tryd.prog.stoodInHeld t = false) (hg : Tryd.prog.eqGuardType Tryd.prog.depth t = false) {a b : RefV} (ha : a.Wf) (hb : b.Wf) (x y : Operand) (w : World) :
    (do eqGuard .eql t x y (.agg (refC a)) (.agg (refC b)); binOp .eql t (.agg (refC a)) (.agg (refC b)) : Sem Value).run Tryd.prog w = .ok (.bool (sameRef a b)) w ∧
    (do eqGuard .neq t x y (.agg (refC a)) (.agg (refC b)); binOp .neq t (.agg (refC a)) (.agg (refC b)) : Sem Value).run Tryd.prog w = .ok (.bool (!sameRef a b)) w := by
  have h := run_equalIn_agg w 9999 t (refC a) (refC b) hu hp
  rw [eqFields_parts, hf, parts_ref ha hb 9997 w] at h
  constructor
  · rw [Sem.run_bind, run_eqGuard_agg w .eql t x y _ _ hg, Result.andThen_ok, run_eql_struct, h]; rfl
  · rw [Sem.run_bind, run_eqGuard_agg w .neq t x y _ _ hg, Result.andThen_ok, run_neq_struct, h]; rfl
theorem eqlRR {a b : RefV} (ha : a.Wf) (hb : b.Wf) (x y : Operand) (w : World) : (do eqGuard .eql 38 x y (.agg (refC a)) (.agg (refC b)); binOp .eql 38 (.agg (refC a)) (.agg (refC b)) : Sem Value).run Tryd.prog w = .ok (.bool (sameRef a b)) w :=
  (eqlRf _ (by kernel_rfl) (by kernel_rfl) (by kernel_rfl) (by kernel_rfl) ha hb x y w).1
theorem neqRR {a b : RefV} (ha : a.Wf) (hb : b.Wf) (x y : Operand) (w : World) : (do eqGuard .neq 38 x y (.agg (refC a)) (.agg (refC b)); binOp .neq 38 (.agg (refC a)) (.agg (refC b)) : Sem Value).run Tryd.prog w = .ok (.bool (!sameRef a b)) w :=
  (eqlRf _ (by kernel_rfl) (by kernel_rfl) (by kernel_rfl) (by kernel_rfl) ha hb x y w).2
theorem eqlRP {a b : RefV} (ha : a.Wf) (hb : b.Wf) (x y : Operand) (w : World) : (do eqGuard .eql 35 x y (.agg (refC a)) (.agg (refC b)); binOp .eql 35 (.agg (refC a)) (.agg (refC b)) : Sem Value).run Tryd.prog w = .ok (.bool (sameRef a b)) w :=
  (eqlRf _ (by kernel_rfl) (by kernel_rfl) (by kernel_rfl) (by kernel_rfl) ha hb x y w).1
end Sha
end Go.Proofs.YtmfgimkopddcgaaDoor
namespace Go.Proofs.YtmfgimkopddcgaaDoor
namespace Sha
open Go.RowKit Mem
theorem conv_i64u (z : Int) (bb : BitVec 64) (hb : bb = BitVec.ofNat 64 z.toNat) (h0 : 0 ≤ z) (h1 : z ≤ 9223372036854775807) (w : World) : (convert 3 73 (.int .i64 z)).run Tryd.prog w = .ok (.int .u64 (bb.toNat : Int)) w := by
  have e : (bb.toNat : Int) = z := by rw [hb, BitVec.toNat_ofNat]; omega
  rw [e]
  have h2 : IntKind.u64.wrap z = z := by rw [IntKind.wrap_u64]; omega
  go_simp
/-- A slice that is longer than a block lies elsewhere. -/
theorem sl_row {w : World} {g : Nat} {v : Value} {l : List (BitVec 8)} {Z : Array Value} {t : TypeId} (h : Sl w v l) (hg : At w g Z t) (hs : Z.size < l.length) (M : Array Value) : Sl (w.setRow g M) v l := by
  obtain ⟨a, cap, e, hc, hr⟩ := h
  refine ⟨a, cap, e, hc, fun hne => ?_⟩
  obtain ⟨bb, oo, ea, hlt, hcell⟩ := hr hne
  have hb : bb ≠ g := by
    rintro rfl
    have h1 := hcell (l.length - 1) (by omega)
    rw [hg.cell, Array.getElem?_eq_none (by omega)] at h1
    cases h1
  refine ⟨bb, oo, ea, by simpa using hlt, fun i hi => ?_⟩
  rw [World.cell?_of_block (w := w) (w' := w.setRow g M) (a := ⟨bb, oo + i, none⟩) (setRow_other w g bb M hb)]
  exact hcell i hi
/-- A page turned by a key, an epoch and a block. -/
def sealL (key : List (BitVec 8)) (ep : BitVec 32) (block : Int) (page : List (BitVec 8)) : List (BitVec 8) := cturn page (cstream key (cnonce ep (BitVec.ofNat 64 block.toNat)) 0 page.length)
theorem sealL_length (key : List (BitVec 8)) (ep : BitVec 32) (block : Int) (page : List (BitVec 8)) : (sealL key ep block page).length = page.length := cturn_length _ _ (by rw [cstream_length]; exact Nat.le_refl _)
theorem sealL_back (key : List (BitVec 8)) (ep : BitVec 32) (block : Int) (page : List (BitVec 8)) : sealL key ep block (sealL key ep block page) = page := by
  show cturn (sealL key ep block page) (cstream key _ 0 (sealL key ep block page).length) = page
  rw [sealL_length]
  exact cturn_back _ _ (by rw [cstream_length]; exact Nat.le_refl _)
def sealBad (block : Int) (page : List (BitVec 8)) : Bool := decide (page.length ≠ 256 ∨ block < 0)
/-- Seal: the block, and the error. -/
def sealR (key : List (BitVec 8)) (ep : BitVec 32) (block : Int) (page : List (BitVec 8)) : List (BitVec 8) × Int := if sealBad block page then ([], 1) else (sealL key ep block page, 0)
/-- Hide: the block, the reference, the error. -/
def hideR (key : List (BitVec 8)) (ep : BitVec 32) (place block : Int) (page : List (BitVec 8)) : List (BitVec 8) × RefV × Int :=
  if sealBad block page || decide (place < 0 ∨ 1 < place) then ([], zref, 1) else (sealL key ep block page, ⟨place, ep, digestOf (sealL key ep block page)⟩, 0)
/-- Open: the page, and the error. -/
def openR (key : List (BitVec 8)) (r : RefV) (block : Int) (x : List (BitVec 8)) : List (BitVec 8) × Int :=
  if sealBad block x then ([], 1) else if digestOf x ≠ r.dg then ([], 9) else (sealL key r.ep block x, 0)
theorem wf_dig (place : Int) (ep : BitVec 32) (l : List (BitVec 8)) (h0 : 0 ≤ place) (h1 : place ≤ 1) : RefV.Wf ⟨place, ep, digestOf l⟩ := by
  have hd := digestOf_length l
  generalize digestOf l = D at *
  exact ⟨by show _ ≤ place; omega, by show place ≤ _; omega, hd⟩
theorem hideR_wf (key : List (BitVec 8)) (ep : BitVec 32) (place block : Int) (page : List (BitVec 8)) : (hideR key ep place block page).2.1.Wf := by
  unfold hideR
  split
  · exact zref_wf
  · rename_i h
    simp at h
    exact wf_dig place ep _ (by omega) (by omega)
/-- It returns a slice that reads as l, and n. -/
def SealEnd (w : World) (l : List (BitVec 8)) (n : Int) (e : Ending) (w' : World) : Prop := ∃ v, e = .returned (.tuple #[v, .int .i64 n]) ∧ Sl w' v l ∧ Below w.heap.size w w'
theorem sl_inv {w : World} {v : Value} {l : List (BitVec 8)} (h : Sl w v l) : ∃ a c, v = .slice a l.length c := let ⟨a, c, e, _⟩ := h; ⟨a, c, e⟩
set_option maxRecDepth 100000 in
set_option maxHeartbeats 4000000 in
theorem rseal_any (key : List (BitVec 8)) (lk : key.length = 32) (ep : BitVec 32) (block : Int) (hbk : block ≤ 9223372036854775807) (page : List (BitVec 8)) (v : Value) (w : World) (hv : Sl w v page) (hp : page.length ≤ 1048576) :
    Calls Tryd.prog 12 #[.agg (u8s key).toArray, .int .u32 (V ep), .int .i64 block, v] w (SealEnd w (sealR key ep block page).1 (sealR key ep block page).2) := by
  obtain ⟨a0, c0, rfl⟩ := sl_inv hv
  obtain ⟨n, hn⟩ : ∃ n, n = page.length := ⟨_, rfl⟩
  have ha : Below w.heap.size w (w.alloc (.cells (u8s key).toArray 22)) := (Below.refl _ _).alloc (Nat.le_refl _) _
  by_cases h1 : page.length = 256
  · by_cases h2 : block < 0
    · have e0 : sealR key ep block page = ([], 1) := by simp [sealR, sealBad, h2]
      rw [e0, h1]
      have BA := Lib.hid ha
      clear ha hv hn e0
      go_enter Tryd.func12, Tryd.ntmps12
      go_wp2_with fail
      go_ret2
      exact ⟨_, rfl, sl_none _, BA.out⟩
    · have e0 : sealR key ep block page = (sealL key ep block page, 0) := by simp [sealR, sealBad, h1, h2]
      rw [e0]
      obtain ⟨bb, hbb⟩ : ∃ bb, bb = BitVec.ofNat 64 block.toNat := ⟨_, rfl⟩
      have cv := fun wx => conv_i64u block bb hbb (by omega) hbk wx
      have non := fun wx => rnonce_any ep bb wx
      have rt : ∀ wx, Sl wx (.slice a0 256 c0) page → Calls Tryd.prog 30 #[.agg (u8s key).toArray, .agg (ncOf ep bb), .int .u32 0, .slice a0 256 c0] wx (RSEnd wx (sealL key ep block page)) := fun wx h => by
        have k := rturned_any key (cnonce ep bb) 0 page _ lk (cnonce_length _ _) hp wx h
        unfold sealL
        rw [← hbb]
        exact k
      rw [h1] at hv ⊢
      obtain ⟨C, hC⟩ : ∃ C, C = (u8s key).toArray := ⟨_, rfl⟩
      have cs : C.size = 32 := by rw [hC]; simp [u8s_length, lk]
      rw [← hC] at rt ha ⊢
      have an := at_new w C 22
      have h2' : ¬ block < 0 := h2
      obtain ⟨L, hL⟩ : ∃ L, L = sealL key ep block page := ⟨_, rfl⟩
      rw [← hL] at rt ⊢
      have CV := Lib.hid cv; have NON := Lib.hid non; have RT := Lib.hid rt; have CS := Lib.hid cs; have A1 := Lib.hid an; have BA := Lib.hid ha; have S1 := Lib.hid (hv.below ha)
      clear cv non rt cs an ha hv hC hL hbb e0 h1 hn lk hp
      obtain ⟨nc, hnc⟩ : ∃ nc, nc = ncOf ep bb := ⟨_, rfl⟩
      rw [← hnc] at NON RT
      clear hnc
      go_enter Tryd.func12, Tryd.ntmps12
      go_wp2_with fail
      obtain ⟨b1, hb1⟩ : ∃ b1, b1 = w.heap.size := ⟨_, rfl⟩
      rw [← hb1] at A1 ⊢
      clear hb1
      generalize w.alloc (.cells C 22) = w1 at *
      have B1 : Hid (Below w1.heap.size w1 w1.drew) := Lib.hid (Below.refl _ _).drew
      refine wp_region_plan_in (fun x => Below w1.heap.size w1 x) (.take 0 (.take 1 (.take 2 (.take 3 (.take 5 (.sole 4 (.sole 6 (.take 7 (.take 8 .done))))))))) (by kernel_rfl) (by kernel_rfl) (by kernel_rfl) B1.out ?_
      refine plan_row 22 _ b1 _ C 22 (by rfl) (by rfl) (by rfl) (by first | (with_reducible exact Mem.ev_const _ _) | (with_reducible exact Mem.ev_zero _ _ _) | (with_reducible (apply Eq.trans (Mem.ev_tmp _ _ _)); simp only [List.getD_cons_succ, List.getD_cons_zero] <;> rfl)) (fun w' hw' => A1.out.below hw' A1.out.lt) Tryd.underlying22 (by rfl) (by rw [CS.out]; exact infoDg) ?_
      (simp only [Act.put, List.setIfInBounds_toArray, List.set_cons_zero, List.set_cons_succ])
      (first | (refine plan_move _ _ (by rfl) (by rfl) (.inl (by rfl)) (by first | (with_reducible exact Mem.ev_const _ _) | (with_reducible exact Mem.ev_zero _ _ _) | (with_reducible (apply Eq.trans (Mem.ev_tmp _ _ _)); simp only [List.getD_cons_succ, List.getD_cons_zero] <;> rfl)) ?_) | (refine plan_move _ _ (by rfl) (by rfl) (.inr (by rfl)) (by first | (with_reducible exact Mem.ev_const _ _) | (with_reducible exact Mem.ev_zero _ _ _) | (with_reducible (apply Eq.trans (Mem.ev_tmp _ _ _)); simp only [List.getD_cons_succ, List.getD_cons_zero] <;> rfl)) ?_) | (refine plan_pick_t _ _ _ _ (by rfl) (by rfl) (by rfl) (by first | (with_reducible exact Mem.ev_const _ _) | (with_reducible exact Mem.ev_zero _ _ _) | (with_reducible (apply Eq.trans (Mem.ev_tmp _ _ _)); simp only [List.getD_cons_succ, List.getD_cons_zero] <;> rfl)) (by first | (with_reducible exact Mem.ev_const _ _) | (with_reducible exact Mem.ev_zero _ _ _) | (with_reducible (apply Eq.trans (Mem.ev_tmp _ _ _)); simp only [List.getD_cons_succ, List.getD_cons_zero] <;> rfl)) ?_) | (refine plan_pick_f _ _ _ _ (by rfl) (by rfl) (by rfl) (by first | (with_reducible exact Mem.ev_const _ _) | (with_reducible exact Mem.ev_zero _ _ _) | (with_reducible (apply Eq.trans (Mem.ev_tmp _ _ _)); simp only [List.getD_cons_succ, List.getD_cons_zero] <;> rfl)) (by first | (with_reducible exact Mem.ev_const _ _) | (with_reducible exact Mem.ev_zero _ _ _) | (with_reducible (apply Eq.trans (Mem.ev_tmp _ _ _)); simp only [List.getD_cons_succ, List.getD_cons_zero] <;> rfl)) ?_))
      (simp only [Act.put, List.setIfInBounds_toArray, List.set_cons_zero, List.set_cons_succ])
      (first | (refine plan_move _ _ (by rfl) (by rfl) (.inl (by rfl)) (by first | (with_reducible exact Mem.ev_const _ _) | (with_reducible exact Mem.ev_zero _ _ _) | (with_reducible (apply Eq.trans (Mem.ev_tmp _ _ _)); simp only [List.getD_cons_succ, List.getD_cons_zero] <;> rfl)) ?_) | (refine plan_move _ _ (by rfl) (by rfl) (.inr (by rfl)) (by first | (with_reducible exact Mem.ev_const _ _) | (with_reducible exact Mem.ev_zero _ _ _) | (with_reducible (apply Eq.trans (Mem.ev_tmp _ _ _)); simp only [List.getD_cons_succ, List.getD_cons_zero] <;> rfl)) ?_) | (refine plan_pick_t _ _ _ _ (by rfl) (by rfl) (by rfl) (by first | (with_reducible exact Mem.ev_const _ _) | (with_reducible exact Mem.ev_zero _ _ _) | (with_reducible (apply Eq.trans (Mem.ev_tmp _ _ _)); simp only [List.getD_cons_succ, List.getD_cons_zero] <;> rfl)) (by first | (with_reducible exact Mem.ev_const _ _) | (with_reducible exact Mem.ev_zero _ _ _) | (with_reducible (apply Eq.trans (Mem.ev_tmp _ _ _)); simp only [List.getD_cons_succ, List.getD_cons_zero] <;> rfl)) ?_) | (refine plan_pick_f _ _ _ _ (by rfl) (by rfl) (by rfl) (by first | (with_reducible exact Mem.ev_const _ _) | (with_reducible exact Mem.ev_zero _ _ _) | (with_reducible (apply Eq.trans (Mem.ev_tmp _ _ _)); simp only [List.getD_cons_succ, List.getD_cons_zero] <;> rfl)) (by first | (with_reducible exact Mem.ev_const _ _) | (with_reducible exact Mem.ev_zero _ _ _) | (with_reducible (apply Eq.trans (Mem.ev_tmp _ _ _)); simp only [List.getD_cons_succ, List.getD_cons_zero] <;> rfl)) ?_))
      (simp only [Act.put, List.setIfInBounds_toArray, List.set_cons_zero, List.set_cons_succ])
      refine plan_conv 3 73 _ (.int .i64 block) (.int .u64 (bb.toNat : Int)) (by rfl) (by rfl) (by rfl) (by first | (with_reducible exact Mem.ev_const _ _) | (with_reducible exact Mem.ev_zero _ _ _) | (with_reducible (apply Eq.trans (Mem.ev_tmp _ _ _)); simp only [List.getD_cons_succ, List.getD_cons_zero] <;> rfl)) (fun wx => CV.out wx) ?_
      (simp only [Act.put, List.setIfInBounds_toArray, List.set_cons_zero, List.set_cons_succ])
      (first | (refine plan_move _ _ (by rfl) (by rfl) (.inl (by rfl)) (by first | (with_reducible exact Mem.ev_const _ _) | (with_reducible exact Mem.ev_zero _ _ _) | (with_reducible (apply Eq.trans (Mem.ev_tmp _ _ _)); simp only [List.getD_cons_succ, List.getD_cons_zero] <;> rfl)) ?_) | (refine plan_move _ _ (by rfl) (by rfl) (.inr (by rfl)) (by first | (with_reducible exact Mem.ev_const _ _) | (with_reducible exact Mem.ev_zero _ _ _) | (with_reducible (apply Eq.trans (Mem.ev_tmp _ _ _)); simp only [List.getD_cons_succ, List.getD_cons_zero] <;> rfl)) ?_) | (refine plan_pick_t _ _ _ _ (by rfl) (by rfl) (by rfl) (by first | (with_reducible exact Mem.ev_const _ _) | (with_reducible exact Mem.ev_zero _ _ _) | (with_reducible (apply Eq.trans (Mem.ev_tmp _ _ _)); simp only [List.getD_cons_succ, List.getD_cons_zero] <;> rfl)) (by first | (with_reducible exact Mem.ev_const _ _) | (with_reducible exact Mem.ev_zero _ _ _) | (with_reducible (apply Eq.trans (Mem.ev_tmp _ _ _)); simp only [List.getD_cons_succ, List.getD_cons_zero] <;> rfl)) ?_) | (refine plan_pick_f _ _ _ _ (by rfl) (by rfl) (by rfl) (by first | (with_reducible exact Mem.ev_const _ _) | (with_reducible exact Mem.ev_zero _ _ _) | (with_reducible (apply Eq.trans (Mem.ev_tmp _ _ _)); simp only [List.getD_cons_succ, List.getD_cons_zero] <;> rfl)) (by first | (with_reducible exact Mem.ev_const _ _) | (with_reducible exact Mem.ev_zero _ _ _) | (with_reducible (apply Eq.trans (Mem.ev_tmp _ _ _)); simp only [List.getD_cons_succ, List.getD_cons_zero] <;> rfl)) ?_))
      (simp only [Act.put, List.setIfInBounds_toArray, List.set_cons_zero, List.set_cons_succ])
      refine plan_call 31 _ _ _ (by kernel_rfl) (by rfl) (by rfl) (by rfl) (by first | exact Mem.ev_none _ | (simp only [List.map_toArray, List.map_cons, List.map_nil, Mem.ev_tmp, List.getD_cons_succ, List.getD_cons_zero] <;> rfl)) ?_
      refine (NON.out _).mono ?_
      rintro o2 w2 ⟨rfl, hb⟩
      have B2 : Hid (Below w1.heap.size w1 w2) := Lib.hid (B1.out.trans (hb.mono B1.out.size))
      clear hb
      refine ⟨_, rfl, B2.out, ?_⟩
      (simp only [Act.put, List.setIfInBounds_toArray, List.set_cons_zero, List.set_cons_succ])
      refine plan_call 30 _ _ _ (by kernel_rfl) (by rfl) (by rfl) (by rfl) (by first | exact Mem.ev_none _ | (simp only [List.map_toArray, List.map_cons, List.map_nil, Mem.ev_tmp, List.getD_cons_succ, List.getD_cons_zero] <;> rfl)) ?_
      refine (RT.out _ (S1.out.below B2.out)).mono ?_
      rintro o3 w3 ⟨v3, rfl, hs, hb⟩
      have B3 : Hid (Below w1.heap.size w1 w3) := Lib.hid (B2.out.trans (hb.mono B2.out.size))
      have S3 := Lib.hid hs
      clear hs hb
      refine ⟨_, rfl, B3.out, ?_⟩
      (simp only [Act.put, List.setIfInBounds_toArray, List.set_cons_zero, List.set_cons_succ])
      (first | (refine plan_move _ _ (by rfl) (by rfl) (.inl (by rfl)) (by first | (with_reducible exact Mem.ev_const _ _) | (with_reducible exact Mem.ev_zero _ _ _) | (with_reducible (apply Eq.trans (Mem.ev_tmp _ _ _)); simp only [List.getD_cons_succ, List.getD_cons_zero] <;> rfl)) ?_) | (refine plan_move _ _ (by rfl) (by rfl) (.inr (by rfl)) (by first | (with_reducible exact Mem.ev_const _ _) | (with_reducible exact Mem.ev_zero _ _ _) | (with_reducible (apply Eq.trans (Mem.ev_tmp _ _ _)); simp only [List.getD_cons_succ, List.getD_cons_zero] <;> rfl)) ?_) | (refine plan_pick_t _ _ _ _ (by rfl) (by rfl) (by rfl) (by first | (with_reducible exact Mem.ev_const _ _) | (with_reducible exact Mem.ev_zero _ _ _) | (with_reducible (apply Eq.trans (Mem.ev_tmp _ _ _)); simp only [List.getD_cons_succ, List.getD_cons_zero] <;> rfl)) (by first | (with_reducible exact Mem.ev_const _ _) | (with_reducible exact Mem.ev_zero _ _ _) | (with_reducible (apply Eq.trans (Mem.ev_tmp _ _ _)); simp only [List.getD_cons_succ, List.getD_cons_zero] <;> rfl)) ?_) | (refine plan_pick_f _ _ _ _ (by rfl) (by rfl) (by rfl) (by first | (with_reducible exact Mem.ev_const _ _) | (with_reducible exact Mem.ev_zero _ _ _) | (with_reducible (apply Eq.trans (Mem.ev_tmp _ _ _)); simp only [List.getD_cons_succ, List.getD_cons_zero] <;> rfl)) (by first | (with_reducible exact Mem.ev_const _ _) | (with_reducible exact Mem.ev_zero _ _ _) | (with_reducible (apply Eq.trans (Mem.ev_tmp _ _ _)); simp only [List.getD_cons_succ, List.getD_cons_zero] <;> rfl)) ?_))
      (simp only [Act.put, List.setIfInBounds_toArray, List.set_cons_zero, List.set_cons_succ])
      (first | (refine plan_move _ _ (by rfl) (by rfl) (.inl (by rfl)) (by first | (with_reducible exact Mem.ev_const _ _) | (with_reducible exact Mem.ev_zero _ _ _) | (with_reducible (apply Eq.trans (Mem.ev_tmp _ _ _)); simp only [List.getD_cons_succ, List.getD_cons_zero] <;> rfl)) ?_) | (refine plan_move _ _ (by rfl) (by rfl) (.inr (by rfl)) (by first | (with_reducible exact Mem.ev_const _ _) | (with_reducible exact Mem.ev_zero _ _ _) | (with_reducible (apply Eq.trans (Mem.ev_tmp _ _ _)); simp only [List.getD_cons_succ, List.getD_cons_zero] <;> rfl)) ?_) | (refine plan_pick_t _ _ _ _ (by rfl) (by rfl) (by rfl) (by first | (with_reducible exact Mem.ev_const _ _) | (with_reducible exact Mem.ev_zero _ _ _) | (with_reducible (apply Eq.trans (Mem.ev_tmp _ _ _)); simp only [List.getD_cons_succ, List.getD_cons_zero] <;> rfl)) (by first | (with_reducible exact Mem.ev_const _ _) | (with_reducible exact Mem.ev_zero _ _ _) | (with_reducible (apply Eq.trans (Mem.ev_tmp _ _ _)); simp only [List.getD_cons_succ, List.getD_cons_zero] <;> rfl)) ?_) | (refine plan_pick_f _ _ _ _ (by rfl) (by rfl) (by rfl) (by first | (with_reducible exact Mem.ev_const _ _) | (with_reducible exact Mem.ev_zero _ _ _) | (with_reducible (apply Eq.trans (Mem.ev_tmp _ _ _)); simp only [List.getD_cons_succ, List.getD_cons_zero] <;> rfl)) (by first | (with_reducible exact Mem.ev_const _ _) | (with_reducible exact Mem.ev_zero _ _ _) | (with_reducible (apply Eq.trans (Mem.ev_tmp _ _ _)); simp only [List.getD_cons_succ, List.getD_cons_zero] <;> rfl)) ?_))
      (simp only [Act.put, List.setIfInBounds_toArray, List.set_cons_zero, List.set_cons_succ])
      refine plan_nil ?_
      go_wp2_with fail
      go_ret2
      exact ⟨_, rfl, S3.out, BA.out.trans (B3.out.mono BA.out.size)⟩
  · have h1' : ¬ (n : Int) = 256 := by omega
    have e0 : sealR key ep block page = ([], 1) := by simp [sealR, sealBad, h1]
    rw [e0, ← hn]
    have BA := Lib.hid ha
    clear ha hv hn e0 h1 hp
    go_enter Tryd.func12, Tryd.ntmps12
    go_wp2_with fail
    go_ret2
    exact ⟨_, rfl, sl_none _, BA.out⟩
/-- The end of a function with three results, the second one a row in memory. -/
theorem ret_tmp_row_tmp {P : Program} {fn : Func} {R : Ending → World → Prop} {tmps : Array Value} {w : World} {q p u : Tmp} {ty : TypeId} (h : fn.results = #[.tmp q, .cell p ty, .tmp u]) (g : Nat) (t : TypeId) (cs : Array Value) (d : TypeDesc) (v1 v : Value)
    (hq : tmps.getD q undef = v1) (hp : tmps.getD p undef = .pointer (some ⟨g, 0, none⟩)) (hv : tmps.getD u undef = v) (hg : At w g cs t) (hu : P.underlying ty = some d) (hd : d.isRow = true) (hi : (P.info? ty).map (·.size) = some cs.size)
    (hR : R (.returned (.tuple #[v1, .agg cs, v])) w) : bodyPost P fn R .ret ⟨tmps, []⟩ w := by
  refine bodyPost_ret (v := .tuple #[v1, .agg cs, v]) ?_ rfl hR
  have hrow := run_loadVar_row (P := P) w g t ty cs (0, 0) d hg hu (by cases d <;> first | rfl | exact hd) hi
  rw [Array.getD_eq_getD_getElem?] at hq hp hv
  simp only [results, h]
  simp [Result.andThen, hq, hp, hv, asAddr, hrow]
/-- It returns a slice that reads as l, a reference, and n. -/
def ThreeEnd (w : World) (l : List (BitVec 8)) (r : RefV) (n : Int) (e : Ending) (w' : World) : Prop := ∃ v, e = .returned (.tuple #[v, .agg (refC r), .int .i64 n]) ∧ Sl w' v l ∧ Below w.heap.size w w'
set_option maxRecDepth 100000 in
set_option maxHeartbeats 4000000 in
theorem rhide_any (key : List (BitVec 8)) (lk : key.length = 32) (ep : BitVec 32) (place block : Int) (hp0 : -9223372036854775808 ≤ place) (hp1 : place ≤ 9223372036854775807) (hbk : block ≤ 9223372036854775807) (page : List (BitVec 8)) (v : Value) (w : World) (hv : Sl w v page) (hp : page.length ≤ 1048576) :
    Calls Tryd.prog 14 #[.agg (u8s key).toArray, .int .u32 (V ep), .int .i64 place, .int .i64 block, v] w (ThreeEnd w (hideR key ep place block page).1 (hideR key ep place block page).2.1 (hideR key ep place block page).2.2) := by
  have rs := fun wx (h : Below w.heap.size w wx) => rseal_any key lk ep block hbk page v wx (hv.below h) hp
  obtain ⟨C, hC⟩ : ∃ C, C = (u8s key).toArray := ⟨_, rfl⟩
  have cs : C.size = 32 := by rw [hC]; simp [u8s_length, lk]
  rw [← hC] at rs ⊢
  obtain ⟨Z, hZ⟩ : ∃ Z, Z = refC zref := ⟨_, rfl⟩
  have zs : Z.size = 34 := by rw [hZ]; exact refC_size zref_wf
  have zo : Z.all (·.oneCell') = true := by rw [hZ]; exact refC_one _
  have hx : ∀ w, (zeroValue 38).run Tryd.prog w = .ok (.agg Z) w := by rw [hZ]; exact zeroRfR
  have bn : ∀ w, (Instr.build 38 #[]).run Tryd.prog w = .ok (.agg Z) w := by rw [hZ]; exact buildRf0
  have ak := (at_new w C 22).alloc (.cells Z 38)
  have az : At ((w.alloc (.cells C 22)).alloc (.cells Z 38)) (w.heap.size + 1) Z 38 := by
    have h := at_new (w.alloc (.cells C 22)) Z 38
    simpa using h
  have bz : Below w.heap.size w ((w.alloc (.cells C 22)).alloc (.cells Z 38)) := ((Below.refl _ _).alloc (Nat.le_refl _) _).alloc (by simp) _
  by_cases hb : sealBad block page = true
  · have e1 : hideR key ep place block page = ([], zref, 1) := by simp [hideR, hb]
    have e2 : sealR key ep block page = ([], 1) := by simp [sealR, hb]
    rw [e2] at rs
    rw [e1]
    have RS := Lib.hid rs; have CS := Lib.hid cs; have ZS := Lib.hid zs; have ZO := Lib.hid zo; have BN := Lib.hid bn; have AK := Lib.hid ak; have AZ := Lib.hid az; have BZ := Lib.hid bz; have HZ := Lib.hid hZ
    clear rs cs zs zo bn ak az bz hC hZ hb e1 e2 hv hp lk
    go_enter Tryd.func14, Tryd.ntmps14
    go_upto_region 1 with fail
    clear hx
    generalize (w.alloc (.cells C 22)).alloc (.cells Z 38) = w1 at *
    go_wp2_with (refine wpList_load_all (by rfl) 22 _ (by rfl) w.heap.size (by rfl) _ Tryd.underlying22 (by rfl) C _ AK.out (by rw [CS.out]; exact infoDg) ?_)
    refine (RS.out w1 BZ.out).mono ?_
    rintro e w2 ⟨v2, rfl, _, hb2⟩
    have AZ2 := Lib.hid (AZ.out.below hb2 AZ.out.lt); have B2 := Lib.hid (BZ.out.trans (hb2.mono BZ.out.size))
    clear hb2 AZ AK BZ RS
    go_wp2_with (first
      | (refine Mem.wpList_build (by rfl) 38 _ #[] (.agg Z) (by rfl) (by simp) BN.out ?_)
      | (refine wpList_store_all (by rfl) 38 _ _ (by rfl) (by rfl) (w.heap.size + 1) Z (by rfl) (by rfl) (by rw [ZS.out]; exact infoRfR) Z 38 AZ2.out (by rfl) ZO.out ?_))
    try simp only [Exit.inBlock, Exit.then]
    refine ret_tmp_row_tmp (by rfl) (w.heap.size + 1) 38 Z _ (.slice none 0 0) (.int .i64 1) (by rfl) (by rfl) (by rfl) (AZ2.out.row Z) Tryd.underlying38 (by rfl) (by rw [ZS.out]; exact infoRfR) ?_
    exact ⟨_, by rw [HZ.out], sl_none _, below_row B2.out (Nat.le_succ _) Z⟩
  · have e2 : sealR key ep block page = (sealL key ep block page, 0) := by simp [sealR, hb]
    rw [e2] at rs
    obtain ⟨L, hL⟩ : ∃ L, L = sealL key ep block page := ⟨_, rfl⟩
    rw [← hL] at rs
    by_cases hpl : place < 0 ∨ 1 < place
    · have e1 : hideR key ep place block page = ([], zref, 1) := by simp [hideR, hpl]
      rw [e1]
      have RS := Lib.hid rs; have CS := Lib.hid cs; have ZS := Lib.hid zs; have ZO := Lib.hid zo; have BN := Lib.hid bn; have AK := Lib.hid ak; have AZ := Lib.hid az; have BZ := Lib.hid bz; have HZ := Lib.hid hZ
      clear rs cs zs zo bn ak az bz hC hZ hb e1 e2 hv hp lk hL
      rcases hpl with g1 | g1
      · go_enter Tryd.func14, Tryd.ntmps14
        go_upto_region 1 with fail
        clear hx
        generalize (w.alloc (.cells C 22)).alloc (.cells Z 38) = w1 at *
        go_wp2_with (refine wpList_load_all (by rfl) 22 _ (by rfl) w.heap.size (by rfl) _ Tryd.underlying22 (by rfl) C _ AK.out (by rw [CS.out]; exact infoDg) ?_)
        refine (RS.out w1 BZ.out).mono ?_
        rintro e w2 ⟨v2, rfl, _, hb2⟩
        have AZ2 := Lib.hid (AZ.out.below hb2 AZ.out.lt); have B2 := Lib.hid (BZ.out.trans (hb2.mono BZ.out.size))
        clear hb2 AZ AK BZ RS
        go_wp2_with (first
          | (refine Mem.wpList_build (by rfl) 38 _ #[] (.agg Z) (by rfl) (by simp) BN.out ?_)
          | (refine wpList_store_all (by rfl) 38 _ _ (by rfl) (by rfl) (w.heap.size + 1) Z (by rfl) (by rfl) (by rw [ZS.out]; exact infoRfR) Z 38 AZ2.out (by rfl) ZO.out ?_))
        try simp only [Exit.inBlock, Exit.then]
        refine ret_tmp_row_tmp (by rfl) (w.heap.size + 1) 38 Z _ (.slice none 0 0) (.int .i64 1) (by rfl) (by rfl) (by rfl) (AZ2.out.row Z) Tryd.underlying38 (by rfl) (by rw [ZS.out]; exact infoRfR) ?_
        exact ⟨_, by rw [HZ.out], sl_none _, below_row B2.out (Nat.le_succ _) Z⟩
      · have g0 : ¬ place < 0 := by omega
        go_enter Tryd.func14, Tryd.ntmps14
        go_upto_region 1 with fail
        clear hx
        generalize (w.alloc (.cells C 22)).alloc (.cells Z 38) = w1 at *
        go_wp2_with (refine wpList_load_all (by rfl) 22 _ (by rfl) w.heap.size (by rfl) _ Tryd.underlying22 (by rfl) C _ AK.out (by rw [CS.out]; exact infoDg) ?_)
        refine (RS.out w1 BZ.out).mono ?_
        rintro e w2 ⟨v2, rfl, _, hb2⟩
        have AZ2 := Lib.hid (AZ.out.below hb2 AZ.out.lt); have B2 := Lib.hid (BZ.out.trans (hb2.mono BZ.out.size))
        clear hb2 AZ AK BZ RS
        go_wp2_with (first
          | (refine Mem.wpList_build (by rfl) 38 _ #[] (.agg Z) (by rfl) (by simp) BN.out ?_)
          | (refine wpList_store_all (by rfl) 38 _ _ (by rfl) (by rfl) (w.heap.size + 1) Z (by rfl) (by rfl) (by rw [ZS.out]; exact infoRfR) Z 38 AZ2.out (by rfl) ZO.out ?_))
        try simp only [Exit.inBlock, Exit.then]
        refine ret_tmp_row_tmp (by rfl) (w.heap.size + 1) 38 Z _ (.slice none 0 0) (.int .i64 1) (by rfl) (by rfl) (by rfl) (AZ2.out.row Z) Tryd.underlying38 (by rfl) (by rw [ZS.out]; exact infoRfR) ?_
        exact ⟨_, by rw [HZ.out], sl_none _, below_row B2.out (Nat.le_succ _) Z⟩
    · have e1 : hideR key ep place block page = (L, ⟨place, ep, digestOf L⟩, 0) := by simp [hideR, hb, hpl, hL]
      rw [e1]
      have g0 : ¬ place < 0 := by omega
      have g1 : ¬ 1 < place := by omega
      have hll : L.length ≤ 1099511627776 := by rw [hL, sealL_length]; omega
      have hln : L.length = 256 := by rw [hL, sealL_length]; simp [sealBad] at hb; omega
      have sm := fun wx (vx : Value) (h : Sl wx vx L) => rsum_any L vx wx h hll
      obtain ⟨D, hD⟩ : ∃ D, D = dgOf L := ⟨_, rfl⟩
      have b3 : ∀ wx, (Instr.build 38 #[(0, .int .i64 place), (1, .int .u32 (V ep)), (2, .agg D)]).run Tryd.prog wx = .ok (.agg (refC ⟨place, ep, digestOf L⟩)) wx := fun wx => by rw [hD]; exact buildRf3 place ep (digestOf L) (digestOf_length _) wx
      rw [← hD] at sm
      obtain ⟨M, hM⟩ : ∃ M, M = refC ⟨place, ep, digestOf L⟩ := ⟨_, rfl⟩
      have ms : M.size = 34 := by rw [hM]; exact refC_size (wf_dig place ep L (by omega) (by omega))
      have mo : M.all (·.oneCell') = true := by rw [hM]; exact refC_one _
      rw [← hM] at b3
      have RS := Lib.hid rs; have CS := Lib.hid cs; have ZS := Lib.hid zs; have AK := Lib.hid ak; have AZ := Lib.hid az; have BZ := Lib.hid bz; have HM := Lib.hid hM; have MS := Lib.hid ms; have MO := Lib.hid mo; have B3 := Lib.hid b3; have SM := Lib.hid sm; have LN := Lib.hid hln
      clear hp0 hp1 hbk hln rs cs zs zo bn ak az bz hC hZ hb e1 e2 hv hp lk hL hpl sm b3 hM ms mo hD hll
      go_enter Tryd.func14, Tryd.ntmps14
      go_upto_region 1 with fail
      clear hx
      generalize (w.alloc (.cells C 22)).alloc (.cells Z 38) = w1 at *
      go_wp2_with (refine wpList_load_all (by rfl) 22 _ (by rfl) w.heap.size (by rfl) _ Tryd.underlying22 (by rfl) C _ AK.out (by rw [CS.out]; exact infoDg) ?_)
      refine (RS.out w1 BZ.out).mono ?_
      rintro e w2 ⟨v2, rfl, hs2, hb2⟩
      have AZ2 := Lib.hid (AZ.out.below hb2 AZ.out.lt); have B2 := Lib.hid (BZ.out.trans (hb2.mono BZ.out.size)); have S2 := Lib.hid hs2
      clear hs2 hb2 AZ AK BZ RS
      go_wp2_with fail
      refine (SM.out w2 v2 S2.out).mono ?_
      rintro e w3 ⟨rfl, hb3⟩
      have AZ3 := Lib.hid (AZ2.out.below hb3 AZ2.out.lt); have B4 := Lib.hid (B2.out.trans (hb3.mono B2.out.size)); have S3 := Lib.hid (S2.out.below hb3)
      clear hb3 AZ2 B2 S2 SM
      go_wp2_with (first
        | (refine Mem.wpList_build (by rfl) 38 _ #[(0, .int .i64 place), (1, .int .u32 (V ep)), (2, .agg D)] (.agg M) (by rfl) (by simp [Act.eval]) B3.out ?_)
        | (refine wpList_store_all (by rfl) 38 _ _ (by rfl) (by rfl) (w.heap.size + 1) M (by rfl) (by rfl) (by rw [MS.out]; exact infoRfR) Z 38 AZ3.out (by rw [ZS.out, MS.out]) MO.out ?_))
      try simp only [Exit.inBlock, Exit.then]
      refine ret_tmp_row_tmp (by rfl) (w.heap.size + 1) 38 M _ v2 (.int .i64 0) (by rfl) (by rfl) (by rfl) (At.row (C := Z) AZ3.out M) Tryd.underlying38 (by rfl) (by rw [MS.out]; exact infoRfR) ?_
      refine ⟨_, by rw [HM.out], ?_, below_row B4.out (Nat.le_succ _) M⟩
      exact sl_row S3.out AZ3.out (by rw [ZS.out, LN.out]; decide) M
end Sha
end Go.Proofs.YtmfgimkopddcgaaDoor
namespace Go.Proofs.YtmfgimkopddcgaaDoor
namespace Sha
open Go.RowKit Mem
theorem neqDg (l m : List (BitVec 8)) (hl : l.length = 32) (hm : m.length = 32) (x y : Operand) (w : World) : (do eqGuard .neq 22 x y (.agg (u8s l).toArray) (.agg (u8s m).toArray); binOp .neq 22 (.agg (u8s l).toArray) (.agg (u8s m).toArray) : Sem Value).run Tryd.prog w = .ok (.bool (!(l == m))) w := by
  rw [Sem.run_bind, run_eqGuard_agg w .neq 22 x y _ _ (by kernel_rfl), Result.andThen_ok, run_neq_struct, eq32 9998 l m hl hm w]; rfl
theorem eqlDg (l m : List (BitVec 8)) (hl : l.length = 32) (hm : m.length = 32) (x y : Operand) (w : World) : (do eqGuard .eql 22 x y (.agg (u8s l).toArray) (.agg (u8s m).toArray); binOp .eql 22 (.agg (u8s l).toArray) (.agg (u8s m).toArray) : Sem Value).run Tryd.prog w = .ok (.bool (l == m)) w := by
  rw [Sem.run_bind, run_eqGuard_agg w .eql 22 x y _ _ (by kernel_rfl), Result.andThen_ok, run_eql_struct, eq32 9998 l m hl hm w]; rfl
set_option maxRecDepth 100000 in
set_option maxHeartbeats 4000000 in
theorem ropen_any (key : List (BitVec 8)) (lk : key.length = 32) (r : RefV) (hr : r.Wf) (block : Int) (hbk : block ≤ 9223372036854775807) (l : List (BitVec 8)) (v : Value) (w : World) (hv : Sl w v l) (hp : l.length ≤ 1048576) :
    Calls Tryd.prog 19 #[.agg (u8s key).toArray, .agg (refC r), .int .i64 block, v] w (SealEnd w (openR key r block l).1 (openR key r block l).2) := by
  obtain ⟨a0, c0, rfl⟩ := sl_inv hv
  obtain ⟨n, hn⟩ : ∃ n, n = l.length := ⟨_, rfl⟩
  have rs := refC_size hr
  have r1 := ref1 r
  have rdg := ref_dgRow hr
  have hrl := hr.dg
  obtain ⟨M, hM⟩ : ∃ M, M = refC r := ⟨_, rfl⟩
  rw [← hM] at rs r1 rdg ⊢
  obtain ⟨C, hC⟩ : ∃ C, C = (u8s key).toArray := ⟨_, rfl⟩
  have cs : C.size = 32 := by rw [hC]; simp [u8s_length, lk]
  have hCC := hC
  rw [← hC]
  have ak := (at_new w C 22).alloc (.cells M 38)
  have am : At ((w.alloc (.cells C 22)).alloc (.cells M 38)) (w.heap.size + 1) M 38 := by
    have h := at_new (w.alloc (.cells C 22)) M 38
    simpa using h
  have ba : Below w.heap.size w ((w.alloc (.cells C 22)).alloc (.cells M 38)) := ((Below.refl _ _).alloc (Nat.le_refl _) _).alloc (by simp) _
  by_cases h1 : l.length = 256
  · by_cases h2 : block < 0
    · have e0 : openR key r block l = ([], 1) := by simp [openR, sealBad, h2]
      rw [e0, h1]
      have BA := Lib.hid ba
      clear ba ak am hv hn e0 hC hCC hM rs r1 rdg cs lk hr hrl
      go_enter Tryd.func19, Tryd.ntmps19
      go_wp2_with fail
      go_ret2
      exact ⟨_, rfl, sl_none _, BA.out⟩
    · have hsm : ∀ wx, Sl wx (.slice a0 256 c0) l → Calls Tryd.prog 34 #[.slice a0 256 c0] wx fun e w' => e = .returned (.agg (dgOf l)) ∧ Below wx.heap.size wx w' := fun wx h => rsum_any l _ wx h (by omega)
      have hne := fun (x y : Operand) wx => neqDg (digestOf l) r.dg (digestOf_length l) hrl x y wx
      have hbad : sealBad block l = false := by simp [sealBad, h1, h2]
      obtain ⟨D, hD⟩ : ∃ D, D = (u8s (digestOf l)).toArray := ⟨_, rfl⟩
      obtain ⟨E, hE⟩ : ∃ E, E = (u8s r.dg).toArray := ⟨_, rfl⟩
      have hDD : dgOf l = D := by rw [hD]; rfl
      rw [hDD] at hsm
      rw [← hD, ← hE] at hne
      rw [← hE] at rdg
      rw [h1] at hv ⊢
      by_cases h3 : digestOf l = r.dg
      · have e0 : openR key r block l = (sealL key r.ep block l, 0) := by simp [openR, hbad, h3]
        rw [e0]
        have hb : (!(digestOf l == r.dg)) = false := by simp [h3]
        rw [hb] at hne
        obtain ⟨bb, hbb⟩ : ∃ bb, bb = BitVec.ofNat 64 block.toNat := ⟨_, rfl⟩
        obtain ⟨ep, hep⟩ : ∃ ep, ep = r.ep := ⟨_, rfl⟩
        have cv := fun wx => conv_i64u block bb hbb (by omega) hbk wx
        have non := fun wx => rnonce_any ep bb wx
        have rt : ∀ wx, Sl wx (.slice a0 256 c0) l → Calls Tryd.prog 30 #[.agg C, .agg (ncOf ep bb), .int .u32 0, .slice a0 256 c0] wx (RSEnd wx (sealL key ep block l)) := fun wx h => by
          have k := rturned_any key (cnonce ep bb) 0 l _ lk (cnonce_length _ _) hp wx h
          unfold sealL
          rw [← hbb, hCC]
          exact k
        rw [← hep] at r1 ⊢
        obtain ⟨L, hL⟩ : ∃ L, L = sealL key ep block l := ⟨_, rfl⟩
        rw [← hL] at rt ⊢
        obtain ⟨nc, hnc⟩ : ∃ nc, nc = ncOf ep bb := ⟨_, rfl⟩
        rw [← hnc] at non rt
        have CV := Lib.hid cv; have NON := Lib.hid non; have RT := Lib.hid rt; have CS := Lib.hid cs; have A1 := Lib.hid ak; have A2 := Lib.hid am; have BA := Lib.hid ba; have S1 := Lib.hid (hv.below ba); have SM := Lib.hid hsm; have NE := Lib.hid hne; have RS := Lib.hid rs; have R1 := Lib.hid r1; have RDG := Lib.hid rdg
        clear cv non rt cs ak am ba hv hC hCC hM rs r1 rdg hL hbb e0 h1 hn lk hp hsm hne hD hE hDD hb h3 hep hnc hr hrl hbad hbk
        go_enter Tryd.func19, Tryd.ntmps19
        go_wp2_with fail
        obtain ⟨b1, hb1⟩ : ∃ b1, b1 = w.heap.size := ⟨_, rfl⟩
        rw [← hb1] at A1 A2 ⊢
        clear hb1
        generalize (w.alloc (.cells C 22)).alloc (.cells M 38) = w1 at *
        have B1 : Hid (Below w1.heap.size w1 w1.drew) := Lib.hid (Below.refl _ _).drew
        refine wp_region_plan_in (fun x => Below w1.heap.size w1 x) (.take 0 (.take 2 (.take 3 (.sole 1 (.take 4 .done))))) (by kernel_rfl) (by kernel_rfl) (by kernel_rfl) B1.out ?_
        (first | (refine plan_move _ _ (by rfl) (by rfl) (.inl (by rfl)) (by first | (with_reducible exact Mem.ev_const _ _) | (with_reducible exact Mem.ev_zero _ _ _) | (with_reducible (apply Eq.trans (Mem.ev_tmp _ _ _)); simp only [List.getD_cons_succ, List.getD_cons_zero] <;> rfl)) ?_) | (refine plan_move _ _ (by rfl) (by rfl) (.inr (by rfl)) (by first | (with_reducible exact Mem.ev_const _ _) | (with_reducible exact Mem.ev_zero _ _ _) | (with_reducible (apply Eq.trans (Mem.ev_tmp _ _ _)); simp only [List.getD_cons_succ, List.getD_cons_zero] <;> rfl)) ?_) | (refine plan_pick_t _ _ _ _ (by rfl) (by rfl) (by rfl) (by first | (with_reducible exact Mem.ev_const _ _) | (with_reducible exact Mem.ev_zero _ _ _) | (with_reducible (apply Eq.trans (Mem.ev_tmp _ _ _)); simp only [List.getD_cons_succ, List.getD_cons_zero] <;> rfl)) (by first | (with_reducible exact Mem.ev_const _ _) | (with_reducible exact Mem.ev_zero _ _ _) | (with_reducible (apply Eq.trans (Mem.ev_tmp _ _ _)); simp only [List.getD_cons_succ, List.getD_cons_zero] <;> rfl)) ?_) | (refine plan_pick_f _ _ _ _ (by rfl) (by rfl) (by rfl) (by first | (with_reducible exact Mem.ev_const _ _) | (with_reducible exact Mem.ev_zero _ _ _) | (with_reducible (apply Eq.trans (Mem.ev_tmp _ _ _)); simp only [List.getD_cons_succ, List.getD_cons_zero] <;> rfl)) (by first | (with_reducible exact Mem.ev_const _ _) | (with_reducible exact Mem.ev_zero _ _ _) | (with_reducible (apply Eq.trans (Mem.ev_tmp _ _ _)); simp only [List.getD_cons_succ, List.getD_cons_zero] <;> rfl)) ?_))
        (simp only [Act.put, List.setIfInBounds_toArray, List.set_cons_zero, List.set_cons_succ])
        refine plan_field 38 _ 2 (b1 + 1) 0 ⟨b1 + 1, 2, none⟩ (by rfl) (by rfl) (by rfl) (by first | (with_reducible exact Mem.ev_const _ _) | (with_reducible exact Mem.ev_zero _ _ _) | (with_reducible (apply Eq.trans (Mem.ev_tmp _ _ _)); simp only [List.getD_cons_succ, List.getD_cons_zero] <;> rfl)) (fun wx => by go_simp) ?_
        (simp only [Act.put, List.setIfInBounds_toArray, List.set_cons_zero, List.set_cons_succ])
        refine plan_row_at 22 _ (b1 + 1) 2 32 _ M E 38 (by rfl) (by rfl) (by rfl) (by first | (with_reducible exact Mem.ev_const _ _) | (with_reducible exact Mem.ev_zero _ _ _) | (with_reducible (apply Eq.trans (Mem.ev_tmp _ _ _)); simp only [List.getD_cons_succ, List.getD_cons_zero] <;> rfl)) (fun w' hw' => A2.out.below hw' A2.out.lt) Tryd.underlying22 (by rfl) infoDg (by rw [RS.out]; decide) RDG.out ?_
        (simp only [Act.put, List.setIfInBounds_toArray, List.set_cons_zero, List.set_cons_succ])
        refine plan_call 34 _ _ _ (by kernel_rfl) (by rfl) (by rfl) (by rfl) (by first | exact Mem.ev_none _ | (simp only [List.map_toArray, List.map_cons, List.map_nil, Mem.ev_tmp, List.getD_cons_succ, List.getD_cons_zero] <;> rfl)) ?_
        refine (SM.out _ (S1.out.below B1.out)).mono ?_
        rintro o3 w2 ⟨rfl, hb⟩
        have B2 : Hid (Below w1.heap.size w1 w2) := Lib.hid (B1.out.trans (hb.mono B1.out.size))
        clear hb
        refine ⟨_, rfl, B2.out, ?_⟩
        (simp only [Act.put, List.setIfInBounds_toArray, List.set_cons_zero, List.set_cons_succ])
        refine plan_bin _ _ _ _ _ _ _ (.bool false) (by rfl) (by rfl) (by rfl) (by first | (with_reducible exact Mem.ev_const _ _) | (with_reducible exact Mem.ev_zero _ _ _) | (with_reducible (apply Eq.trans (Mem.ev_tmp _ _ _)); simp only [List.getD_cons_succ, List.getD_cons_zero] <;> rfl)) (by first | (with_reducible exact Mem.ev_const _ _) | (with_reducible exact Mem.ev_zero _ _ _) | (with_reducible (apply Eq.trans (Mem.ev_tmp _ _ _)); simp only [List.getD_cons_succ, List.getD_cons_zero] <;> rfl)) (fun wx => NE.out _ _ wx) ?_
        (simp only [Act.put, List.setIfInBounds_toArray, List.set_cons_zero, List.set_cons_succ])
        refine plan_nil ?_
        go_wp2_with fail
        generalize w2 = w2 at *
        have B1 : Hid (Below w1.heap.size w1 w2.drew) := Lib.hid B2.out.drew
        clear B2
        refine wp_region_plan_in (fun x => Below w1.heap.size w1 x) (.take 0 (.take 1 (.take 2 (.take 3 (.take 4 (.take 6 (.sole 5 (.sole 7 (.take 8 (.take 9 .done)))))))))) (by kernel_rfl) (by kernel_rfl) (by kernel_rfl) B1.out ?_
        refine plan_row 22 _ b1 _ C 22 (by rfl) (by rfl) (by rfl) (by first | (with_reducible exact Mem.ev_const _ _) | (with_reducible exact Mem.ev_zero _ _ _) | (with_reducible (apply Eq.trans (Mem.ev_tmp _ _ _)); simp only [List.getD_cons_succ, List.getD_cons_zero] <;> rfl)) (fun w' hw' => A1.out.below hw' A1.out.lt) Tryd.underlying22 (by rfl) (by rw [CS.out]; exact infoDg) ?_
        (simp only [Act.put, List.setIfInBounds_toArray, List.set_cons_zero, List.set_cons_succ])
        refine plan_field 38 _ 1 (b1 + 1) 0 ⟨b1 + 1, 1, none⟩ (by rfl) (by rfl) (by rfl) (by first | (with_reducible exact Mem.ev_const _ _) | (with_reducible exact Mem.ev_zero _ _ _) | (with_reducible (apply Eq.trans (Mem.ev_tmp _ _ _)); simp only [List.getD_cons_succ, List.getD_cons_zero] <;> rfl)) (fun wx => by go_simp) ?_
        (simp only [Act.put, List.setIfInBounds_toArray, List.set_cons_zero, List.set_cons_succ])
        refine plan_cell 23 _ _ (.int .u32 (V ep)) _ (by rfl) (by rfl) (by rfl) (by first | (with_reducible exact Mem.ev_const _ _) | (with_reducible exact Mem.ev_zero _ _ _) | (with_reducible (apply Eq.trans (Mem.ev_tmp _ _ _)); simp only [List.getD_cons_succ, List.getD_cons_zero] <;> rfl)) (fun w' hw' => by rw [(A2.out.below hw' A2.out.lt).cell]; exact R1.out) Tryd.underlying23 (by rfl) ?_
        (simp only [Act.put, List.setIfInBounds_toArray, List.set_cons_zero, List.set_cons_succ])
        (first | (refine plan_move _ _ (by rfl) (by rfl) (.inl (by rfl)) (by first | (with_reducible exact Mem.ev_const _ _) | (with_reducible exact Mem.ev_zero _ _ _) | (with_reducible (apply Eq.trans (Mem.ev_tmp _ _ _)); simp only [List.getD_cons_succ, List.getD_cons_zero] <;> rfl)) ?_) | (refine plan_move _ _ (by rfl) (by rfl) (.inr (by rfl)) (by first | (with_reducible exact Mem.ev_const _ _) | (with_reducible exact Mem.ev_zero _ _ _) | (with_reducible (apply Eq.trans (Mem.ev_tmp _ _ _)); simp only [List.getD_cons_succ, List.getD_cons_zero] <;> rfl)) ?_) | (refine plan_pick_t _ _ _ _ (by rfl) (by rfl) (by rfl) (by first | (with_reducible exact Mem.ev_const _ _) | (with_reducible exact Mem.ev_zero _ _ _) | (with_reducible (apply Eq.trans (Mem.ev_tmp _ _ _)); simp only [List.getD_cons_succ, List.getD_cons_zero] <;> rfl)) (by first | (with_reducible exact Mem.ev_const _ _) | (with_reducible exact Mem.ev_zero _ _ _) | (with_reducible (apply Eq.trans (Mem.ev_tmp _ _ _)); simp only [List.getD_cons_succ, List.getD_cons_zero] <;> rfl)) ?_) | (refine plan_pick_f _ _ _ _ (by rfl) (by rfl) (by rfl) (by first | (with_reducible exact Mem.ev_const _ _) | (with_reducible exact Mem.ev_zero _ _ _) | (with_reducible (apply Eq.trans (Mem.ev_tmp _ _ _)); simp only [List.getD_cons_succ, List.getD_cons_zero] <;> rfl)) (by first | (with_reducible exact Mem.ev_const _ _) | (with_reducible exact Mem.ev_zero _ _ _) | (with_reducible (apply Eq.trans (Mem.ev_tmp _ _ _)); simp only [List.getD_cons_succ, List.getD_cons_zero] <;> rfl)) ?_))
        (simp only [Act.put, List.setIfInBounds_toArray, List.set_cons_zero, List.set_cons_succ])
        refine plan_conv 3 73 _ (.int .i64 block) (.int .u64 (bb.toNat : Int)) (by rfl) (by rfl) (by rfl) (by first | (with_reducible exact Mem.ev_const _ _) | (with_reducible exact Mem.ev_zero _ _ _) | (with_reducible (apply Eq.trans (Mem.ev_tmp _ _ _)); simp only [List.getD_cons_succ, List.getD_cons_zero] <;> rfl)) (fun wx => CV.out wx) ?_
        (simp only [Act.put, List.setIfInBounds_toArray, List.set_cons_zero, List.set_cons_succ])
        (first | (refine plan_move _ _ (by rfl) (by rfl) (.inl (by rfl)) (by first | (with_reducible exact Mem.ev_const _ _) | (with_reducible exact Mem.ev_zero _ _ _) | (with_reducible (apply Eq.trans (Mem.ev_tmp _ _ _)); simp only [List.getD_cons_succ, List.getD_cons_zero] <;> rfl)) ?_) | (refine plan_move _ _ (by rfl) (by rfl) (.inr (by rfl)) (by first | (with_reducible exact Mem.ev_const _ _) | (with_reducible exact Mem.ev_zero _ _ _) | (with_reducible (apply Eq.trans (Mem.ev_tmp _ _ _)); simp only [List.getD_cons_succ, List.getD_cons_zero] <;> rfl)) ?_) | (refine plan_pick_t _ _ _ _ (by rfl) (by rfl) (by rfl) (by first | (with_reducible exact Mem.ev_const _ _) | (with_reducible exact Mem.ev_zero _ _ _) | (with_reducible (apply Eq.trans (Mem.ev_tmp _ _ _)); simp only [List.getD_cons_succ, List.getD_cons_zero] <;> rfl)) (by first | (with_reducible exact Mem.ev_const _ _) | (with_reducible exact Mem.ev_zero _ _ _) | (with_reducible (apply Eq.trans (Mem.ev_tmp _ _ _)); simp only [List.getD_cons_succ, List.getD_cons_zero] <;> rfl)) ?_) | (refine plan_pick_f _ _ _ _ (by rfl) (by rfl) (by rfl) (by first | (with_reducible exact Mem.ev_const _ _) | (with_reducible exact Mem.ev_zero _ _ _) | (with_reducible (apply Eq.trans (Mem.ev_tmp _ _ _)); simp only [List.getD_cons_succ, List.getD_cons_zero] <;> rfl)) (by first | (with_reducible exact Mem.ev_const _ _) | (with_reducible exact Mem.ev_zero _ _ _) | (with_reducible (apply Eq.trans (Mem.ev_tmp _ _ _)); simp only [List.getD_cons_succ, List.getD_cons_zero] <;> rfl)) ?_))
        (simp only [Act.put, List.setIfInBounds_toArray, List.set_cons_zero, List.set_cons_succ])
        refine plan_call 31 _ _ _ (by kernel_rfl) (by rfl) (by rfl) (by rfl) (by first | exact Mem.ev_none _ | (simp only [List.map_toArray, List.map_cons, List.map_nil, Mem.ev_tmp, List.getD_cons_succ, List.getD_cons_zero] <;> rfl)) ?_
        refine (NON.out _).mono ?_
        rintro o2 w3 ⟨rfl, hb⟩
        have B2 : Hid (Below w1.heap.size w1 w3) := Lib.hid (B1.out.trans (hb.mono B1.out.size))
        clear hb
        refine ⟨_, rfl, B2.out, ?_⟩
        (simp only [Act.put, List.setIfInBounds_toArray, List.set_cons_zero, List.set_cons_succ])
        refine plan_call 30 _ _ _ (by kernel_rfl) (by rfl) (by rfl) (by rfl) (by first | exact Mem.ev_none _ | (simp only [List.map_toArray, List.map_cons, List.map_nil, Mem.ev_tmp, List.getD_cons_succ, List.getD_cons_zero] <;> rfl)) ?_
        refine (RT.out _ (S1.out.below B2.out)).mono ?_
        rintro o3 w4 ⟨v3, rfl, hs, hb⟩
        have B3 : Hid (Below w1.heap.size w1 w4) := Lib.hid (B2.out.trans (hb.mono B2.out.size))
        have S3 := Lib.hid hs
        clear hs hb
        refine ⟨_, rfl, B3.out, ?_⟩
        (simp only [Act.put, List.setIfInBounds_toArray, List.set_cons_zero, List.set_cons_succ])
        (first | (refine plan_move _ _ (by rfl) (by rfl) (.inl (by rfl)) (by first | (with_reducible exact Mem.ev_const _ _) | (with_reducible exact Mem.ev_zero _ _ _) | (with_reducible (apply Eq.trans (Mem.ev_tmp _ _ _)); simp only [List.getD_cons_succ, List.getD_cons_zero] <;> rfl)) ?_) | (refine plan_move _ _ (by rfl) (by rfl) (.inr (by rfl)) (by first | (with_reducible exact Mem.ev_const _ _) | (with_reducible exact Mem.ev_zero _ _ _) | (with_reducible (apply Eq.trans (Mem.ev_tmp _ _ _)); simp only [List.getD_cons_succ, List.getD_cons_zero] <;> rfl)) ?_) | (refine plan_pick_t _ _ _ _ (by rfl) (by rfl) (by rfl) (by first | (with_reducible exact Mem.ev_const _ _) | (with_reducible exact Mem.ev_zero _ _ _) | (with_reducible (apply Eq.trans (Mem.ev_tmp _ _ _)); simp only [List.getD_cons_succ, List.getD_cons_zero] <;> rfl)) (by first | (with_reducible exact Mem.ev_const _ _) | (with_reducible exact Mem.ev_zero _ _ _) | (with_reducible (apply Eq.trans (Mem.ev_tmp _ _ _)); simp only [List.getD_cons_succ, List.getD_cons_zero] <;> rfl)) ?_) | (refine plan_pick_f _ _ _ _ (by rfl) (by rfl) (by rfl) (by first | (with_reducible exact Mem.ev_const _ _) | (with_reducible exact Mem.ev_zero _ _ _) | (with_reducible (apply Eq.trans (Mem.ev_tmp _ _ _)); simp only [List.getD_cons_succ, List.getD_cons_zero] <;> rfl)) (by first | (with_reducible exact Mem.ev_const _ _) | (with_reducible exact Mem.ev_zero _ _ _) | (with_reducible (apply Eq.trans (Mem.ev_tmp _ _ _)); simp only [List.getD_cons_succ, List.getD_cons_zero] <;> rfl)) ?_))
        (simp only [Act.put, List.setIfInBounds_toArray, List.set_cons_zero, List.set_cons_succ])
        (first | (refine plan_move _ _ (by rfl) (by rfl) (.inl (by rfl)) (by first | (with_reducible exact Mem.ev_const _ _) | (with_reducible exact Mem.ev_zero _ _ _) | (with_reducible (apply Eq.trans (Mem.ev_tmp _ _ _)); simp only [List.getD_cons_succ, List.getD_cons_zero] <;> rfl)) ?_) | (refine plan_move _ _ (by rfl) (by rfl) (.inr (by rfl)) (by first | (with_reducible exact Mem.ev_const _ _) | (with_reducible exact Mem.ev_zero _ _ _) | (with_reducible (apply Eq.trans (Mem.ev_tmp _ _ _)); simp only [List.getD_cons_succ, List.getD_cons_zero] <;> rfl)) ?_) | (refine plan_pick_t _ _ _ _ (by rfl) (by rfl) (by rfl) (by first | (with_reducible exact Mem.ev_const _ _) | (with_reducible exact Mem.ev_zero _ _ _) | (with_reducible (apply Eq.trans (Mem.ev_tmp _ _ _)); simp only [List.getD_cons_succ, List.getD_cons_zero] <;> rfl)) (by first | (with_reducible exact Mem.ev_const _ _) | (with_reducible exact Mem.ev_zero _ _ _) | (with_reducible (apply Eq.trans (Mem.ev_tmp _ _ _)); simp only [List.getD_cons_succ, List.getD_cons_zero] <;> rfl)) ?_) | (refine plan_pick_f _ _ _ _ (by rfl) (by rfl) (by rfl) (by first | (with_reducible exact Mem.ev_const _ _) | (with_reducible exact Mem.ev_zero _ _ _) | (with_reducible (apply Eq.trans (Mem.ev_tmp _ _ _)); simp only [List.getD_cons_succ, List.getD_cons_zero] <;> rfl)) (by first | (with_reducible exact Mem.ev_const _ _) | (with_reducible exact Mem.ev_zero _ _ _) | (with_reducible (apply Eq.trans (Mem.ev_tmp _ _ _)); simp only [List.getD_cons_succ, List.getD_cons_zero] <;> rfl)) ?_))
        (simp only [Act.put, List.setIfInBounds_toArray, List.set_cons_zero, List.set_cons_succ])
        refine plan_nil ?_
        go_wp2_with fail
        go_ret2
        exact ⟨_, rfl, S3.out, BA.out.trans (B3.out.mono BA.out.size)⟩
      · have e0 : openR key r block l = ([], 9) := by simp [openR, hbad, h3]
        rw [e0]
        have hb : (!(digestOf l == r.dg)) = true := by simp [h3]
        rw [hb] at hne
        have CS := Lib.hid cs; have A1 := Lib.hid ak; have A2 := Lib.hid am; have BA := Lib.hid ba; have S1 := Lib.hid (hv.below ba); have SM := Lib.hid hsm; have NE := Lib.hid hne; have RS := Lib.hid rs; have RDG := Lib.hid rdg
        clear cs ak am ba hv hC hCC hM rs r1 rdg e0 h1 hn lk hp hsm hne hD hE hDD hb h3 hr hrl hbad hbk
        go_enter Tryd.func19, Tryd.ntmps19
        go_wp2_with fail
        obtain ⟨b1, hb1⟩ : ∃ b1, b1 = w.heap.size := ⟨_, rfl⟩
        rw [← hb1] at A1 A2 ⊢
        clear hb1
        generalize (w.alloc (.cells C 22)).alloc (.cells M 38) = w1 at *
        have B1 : Hid (Below w1.heap.size w1 w1.drew) := Lib.hid (Below.refl _ _).drew
        refine wp_region_plan_in (fun x => Below w1.heap.size w1 x) (.take 0 (.take 2 (.take 3 (.sole 1 (.take 4 .done))))) (by kernel_rfl) (by kernel_rfl) (by kernel_rfl) B1.out ?_
        (first | (refine plan_move _ _ (by rfl) (by rfl) (.inl (by rfl)) (by first | (with_reducible exact Mem.ev_const _ _) | (with_reducible exact Mem.ev_zero _ _ _) | (with_reducible (apply Eq.trans (Mem.ev_tmp _ _ _)); simp only [List.getD_cons_succ, List.getD_cons_zero] <;> rfl)) ?_) | (refine plan_move _ _ (by rfl) (by rfl) (.inr (by rfl)) (by first | (with_reducible exact Mem.ev_const _ _) | (with_reducible exact Mem.ev_zero _ _ _) | (with_reducible (apply Eq.trans (Mem.ev_tmp _ _ _)); simp only [List.getD_cons_succ, List.getD_cons_zero] <;> rfl)) ?_) | (refine plan_pick_t _ _ _ _ (by rfl) (by rfl) (by rfl) (by first | (with_reducible exact Mem.ev_const _ _) | (with_reducible exact Mem.ev_zero _ _ _) | (with_reducible (apply Eq.trans (Mem.ev_tmp _ _ _)); simp only [List.getD_cons_succ, List.getD_cons_zero] <;> rfl)) (by first | (with_reducible exact Mem.ev_const _ _) | (with_reducible exact Mem.ev_zero _ _ _) | (with_reducible (apply Eq.trans (Mem.ev_tmp _ _ _)); simp only [List.getD_cons_succ, List.getD_cons_zero] <;> rfl)) ?_) | (refine plan_pick_f _ _ _ _ (by rfl) (by rfl) (by rfl) (by first | (with_reducible exact Mem.ev_const _ _) | (with_reducible exact Mem.ev_zero _ _ _) | (with_reducible (apply Eq.trans (Mem.ev_tmp _ _ _)); simp only [List.getD_cons_succ, List.getD_cons_zero] <;> rfl)) (by first | (with_reducible exact Mem.ev_const _ _) | (with_reducible exact Mem.ev_zero _ _ _) | (with_reducible (apply Eq.trans (Mem.ev_tmp _ _ _)); simp only [List.getD_cons_succ, List.getD_cons_zero] <;> rfl)) ?_))
        (simp only [Act.put, List.setIfInBounds_toArray, List.set_cons_zero, List.set_cons_succ])
        refine plan_field 38 _ 2 (b1 + 1) 0 ⟨b1 + 1, 2, none⟩ (by rfl) (by rfl) (by rfl) (by first | (with_reducible exact Mem.ev_const _ _) | (with_reducible exact Mem.ev_zero _ _ _) | (with_reducible (apply Eq.trans (Mem.ev_tmp _ _ _)); simp only [List.getD_cons_succ, List.getD_cons_zero] <;> rfl)) (fun wx => by go_simp) ?_
        (simp only [Act.put, List.setIfInBounds_toArray, List.set_cons_zero, List.set_cons_succ])
        refine plan_row_at 22 _ (b1 + 1) 2 32 _ M E 38 (by rfl) (by rfl) (by rfl) (by first | (with_reducible exact Mem.ev_const _ _) | (with_reducible exact Mem.ev_zero _ _ _) | (with_reducible (apply Eq.trans (Mem.ev_tmp _ _ _)); simp only [List.getD_cons_succ, List.getD_cons_zero] <;> rfl)) (fun w' hw' => A2.out.below hw' A2.out.lt) Tryd.underlying22 (by rfl) infoDg (by rw [RS.out]; decide) RDG.out ?_
        (simp only [Act.put, List.setIfInBounds_toArray, List.set_cons_zero, List.set_cons_succ])
        refine plan_call 34 _ _ _ (by kernel_rfl) (by rfl) (by rfl) (by rfl) (by first | exact Mem.ev_none _ | (simp only [List.map_toArray, List.map_cons, List.map_nil, Mem.ev_tmp, List.getD_cons_succ, List.getD_cons_zero] <;> rfl)) ?_
        refine (SM.out _ (S1.out.below B1.out)).mono ?_
        rintro o3 w2 ⟨rfl, hb⟩
        have B2 : Hid (Below w1.heap.size w1 w2) := Lib.hid (B1.out.trans (hb.mono B1.out.size))
        clear hb
        refine ⟨_, rfl, B2.out, ?_⟩
        (simp only [Act.put, List.setIfInBounds_toArray, List.set_cons_zero, List.set_cons_succ])
        refine plan_bin _ _ _ _ _ _ _ (.bool true) (by rfl) (by rfl) (by rfl) (by first | (with_reducible exact Mem.ev_const _ _) | (with_reducible exact Mem.ev_zero _ _ _) | (with_reducible (apply Eq.trans (Mem.ev_tmp _ _ _)); simp only [List.getD_cons_succ, List.getD_cons_zero] <;> rfl)) (by first | (with_reducible exact Mem.ev_const _ _) | (with_reducible exact Mem.ev_zero _ _ _) | (with_reducible (apply Eq.trans (Mem.ev_tmp _ _ _)); simp only [List.getD_cons_succ, List.getD_cons_zero] <;> rfl)) (fun wx => NE.out _ _ wx) ?_
        (simp only [Act.put, List.setIfInBounds_toArray, List.set_cons_zero, List.set_cons_succ])
        refine plan_nil ?_
        go_wp2_with fail
        go_ret2
        exact ⟨_, rfl, sl_none _, BA.out.trans (B2.out.mono BA.out.size)⟩
  · have h1' : ¬ (n : Int) = 256 := by omega
    have e0 : openR key r block l = ([], 1) := by simp [openR, sealBad, h1]
    rw [e0, ← hn]
    have BA := Lib.hid ba
    clear ba ak am hv hn e0 hC hCC hM rs r1 rdg cs lk hr hrl h1 hp
    go_enter Tryd.func19, Tryd.ntmps19
    go_wp2_with fail
    go_ret2
    exact ⟨_, rfl, sl_none _, BA.out⟩
end Sha
end Go.Proofs.YtmfgimkopddcgaaDoor
namespace Go.Proofs.YtmfgimkopddcgaaDoor
namespace Sha
open Go.RowKit Mem
theorem own_lit8 {w : World} {B : Nat} (x : BitVec 8) (hB : B ≤ w.heap.size) : OwnB (w.alloc (.cells #[.int .u8 (B8 x)] 5)) B (.slice (some ⟨w.heap.size, 0, none⟩) 1 1) [x] :=
  ⟨by simp [u8s], .inr ⟨w.heap.size, 1, #[.int .u8 (B8 x)], rfl, hB, at_new w _ _, by simp, by simp [maxLen], by simp, by simp [u8s, B8]⟩⟩
theorem sl_dg {w : World} {bx : Nat} {r : RefV} {t : TypeId} (hA : At w bx (refC r) t) (h : r.Wf) : Sl w (.slice (some ⟨bx, 2, none⟩) 32 32) r.dg :=
  ⟨_, _, by rw [h.dg], by rw [h.dg]; exact Nat.le_refl _, fun _ => ⟨bx, 2, rfl, hA.lt, fun i hi => (hA.cell _).trans (ref_dg h i (by rw [h.dg] at hi; exact hi))⟩⟩
theorem B8_ofInt (p : BitVec 8) (z : Int) (h : p = BitVec.ofInt 8 z) : B8 p = z % 256 := by
  show (p.toNat : Int) = z % 256
  rw [h, BitVec.toNat_ofInt]
  omega
theorem conv_i8 (z : Int) (w : World) : (convert 3 5 (.int .i64 z)).run Tryd.prog w = .ok (.int .u8 (B8 (BitVec.ofInt 8 z))) w := by
  have h2 : IntKind.u8.wrap z = B8 (BitVec.ofInt 8 z) := by
    rw [IntKind.wrap_u8]
    show z % 256 = ((BitVec.ofInt 8 z).toNat : Int)
    rw [BitVec.toNat_ofInt]
    omega
  go_simp
/-- j bytes of the epoch are laid. -/
structure LayInv (r : RefV) (M : Array Value) (g : Nat) (w : World) (j : Nat) (v : Value) (wr : World) : Prop where
  o : OwnB wr (g + 1) v ([BitVec.ofInt 8 r.pl] ++ (le4 r.ep).take j)
  a : At wr g M 38
  b : Below w.heap.size w wr
theorem le4_take (x : BitVec 32) (j : Nat) (h : j < 4) : (le4 x).take (j + 1) = (le4 x).take j ++ [wb x (8 * j)] := by
  match j, h with
  | 0, _ => rfl
  | 1, _ => rfl
  | 2, _ => rfl
  | 3, _ => rfl
set_option maxRecDepth 100000 in
set_option maxHeartbeats 4000000 in
theorem rlay_any (r : RefV) (hr : r.Wf) (w : World) : Calls Tryd.prog 23 #[.agg (refC r)] w (RSEnd w (layRf r)) := by
  have rs := refC_size hr
  have r0 := ref0 r
  have r1 := ref1 r
  have an := at_new w (refC r) 38
  have bn : Below w.heap.size w (w.alloc (.cells (refC r) 38)) := (Below.refl _ _).alloc (Nat.le_refl _) _
  have cv := fun wx => conv_i8 r.pl wx
  have sd := fun (wx : World) (g : Nat) (h : At wx g (refC r) 38) => sl_dg h hr
  have hdl := hr.dg
  obtain ⟨M, hM⟩ : ∃ M, M = refC r := ⟨_, rfl⟩
  rw [← hM] at rs r0 r1 an bn sd ⊢
  obtain ⟨ep, hep⟩ : ∃ ep, ep = r.ep := ⟨_, rfl⟩
  obtain ⟨pl, hpl⟩ : ∃ pl, pl = r.pl := ⟨_, rfl⟩
  rw [← hep] at r1
  rw [← hpl] at r0 cv
  obtain ⟨p, hp⟩ : ∃ p, p = BitVec.ofInt 8 pl := ⟨_, rfl⟩
  rw [← hp] at cv
  have CV := Lib.hid cv; have AN := Lib.hid an; have BN := Lib.hid bn; have SD := Lib.hid sd; have HP := Lib.hid hp; have HEP := Lib.hid hep; have HPL := Lib.hid hpl; have DL := Lib.hid hdl; have R1 := Lib.hid r1
  have ve0 := V_lo ep; have ve1 := V_hi ep
  have c0 : (w.alloc (.cells M 38)).cell? ⟨w.heap.size, 0, none⟩ = some (.int .i64 pl) := (an.cell 0).trans r0
  clear rs r0 r1 an bn sd cv hM hep hpl hp hdl hr
  go_enter Tryd.func23, Tryd.ntmps23
  go_upto_region 1 with fail
  obtain ⟨g, hg⟩ : ∃ g, g = w.heap.size := ⟨_, rfl⟩
  have hgs : (w.alloc (.cells M 38)).heap.size = g + 1 := by rw [hg]; simp
  rw [← hg] at AN c0 ⊢
  have HG := Lib.hid hg
  clear hg
  generalize w.alloc (.cells M 38) = w1 at *
  have I0 : Hid (LayInv r M g w 0 (.slice (some ⟨w1.heap.size, 0, none⟩) 1 1) (w1.alloc (.cells #[.int .u8 (pl % 256)] 5))) := Lib.hid ⟨by have h := own_lit8 (w := w1) (B := g + 1) p (by omega); rw [B8_ofInt p pl HP.out, HP.out] at h; rw [← HPL.out]; simpa using h, AN.out.alloc _, BN.out.alloc BN.out.size _⟩
  clear hgs
  go_wp2_with fail
  go_loopw [3, 4] (fun v i wr => ∃ j : Nat, j ≤ 4 ∧ i = .int .i64 j ∧ ∃ v', v' = v ∧ LayInv r M g w j v' wr) (fun _ i _ => 4 - (intOf i).toNat)
  case atStart => exact ⟨0, by omega, rfl, _, rfl, I0.out⟩
  case round =>
    clear I0 c0
    obtain ⟨j, hj, rfl, v, rfl, hI⟩ := hrel
    by_cases hlt : j < 4
    · have hlt' : (j : Int) < 4 := by omega
      have c1 : wr.cell? ⟨g, 1, none⟩ = some (.int .u32 (V ep)) := (hI.a.cell 1).trans R1.out
      have OW : Hid (OwnV wr (g + 1) 5 v (u8s ([BitVec.ofInt 8 r.pl] ++ (le4 r.ep).take j))) := Lib.hid (ownB_V hI.o)
      have AA := Lib.hid hI.a; have BB := Lib.hid hI.b
      have LN : Hid (([BitVec.ofInt 8 r.pl] ++ (le4 r.ep).take j).length ≤ 5) := Lib.hid (by simp [le4]; omega)
      have GS : Hid (g + 1 ≤ wr.heap.size) := Lib.hid (by have := hI.a.lt; omega)
      clear hI
      go_wp2_with (at_builtin; go_loud (refine wpList_append_lit (by rfl) _ _ 26 (by rfl) _ (.int .u8 0) 1 elemB8 (by rfl) (by rfl) OW.out (by rfl) (by rfl) (by rw [u8s_length]; have := LN.out; omega) (by rw [u8s_length]; have := LN.out; omega) GS.out ?_); intro v8 w8 ho8 hk8 hb8 _; have O8 := Lib.hid ho8; have K8 := Lib.hid hk8; have B8' := Lib.hid hb8; clear ho8 hk8 hb8)
      go_roundw
      case rel =>
        refine ⟨j + 1, by omega, by go_num, v8, rfl, ?_, ?_, BB.out.trans (B8'.out.mono (by have := BB.out.size; have := GS.out; have := HG.out; omega))⟩
        · have h := O8.out
          rw [wb_pow, HEP.out] at h
          apply ownV_B
          rw [le4_take _ _ hlt, ← List.append_assoc, u8s_snoc]
          exact h
        · have hne : v.ownBlock ≠ some g := fun e => by have := (World.ownsRow.lt OW.out g e).1; omega
          have h := AA.out
          unfold At at *
          rw [K8.out g (by have := GS.out; omega) hne]; exact h
      case measure => simp [intOf]; omega
    · have hj4 : j = 4 := by omega
      have hge : ¬ (j : Int) < 4 := by omega
      subst hj4
      have OW : Hid (OwnB wr (g + 1) v ([BitVec.ofInt 8 r.pl] ++ le4 r.ep)) := Lib.hid (by have h := hI.o; rw [List.take_of_length_le (by simp [le4])] at h; exact h)
      have S2 := Lib.hid (SD.out wr g hI.a)
      have BB := Lib.hid hI.b
      have GS : Hid (g + 1 ≤ wr.heap.size) := Lib.hid (by have := hI.a.lt; omega)
      clear hI hlt hj
      go_wp2_with (first
        | (refine wpList_slice_arr (by rfl) 22 _ (by rfl) 32 5 g 2 (by rfl) Tryd.underlying22 infoB ?_)
        | (at_builtin; go_loud (refine wpList_append_bytes (by rfl) _ _ (by rfl) (g + 1) v (.slice (some ⟨g, 2, none⟩) 32 32) ([BitVec.ofInt 8 r.pl] ++ le4 r.ep) r.dg (by rfl) OW.out (by rfl) S2.out (by rw [DL.out]; simp [le4]) GS.out ?_); intro v9 w9 ho9 _ hb9; have O9 := Lib.hid ho9; have B9 := Lib.hid hb9; clear ho9 hb9))
      go_ret
      exact ⟨_, rfl, O9.out.sl, BB.out.trans (B9.out.mono (by have := HG.out; omega))⟩
end Sha
end Go.Proofs.YtmfgimkopddcgaaDoor
namespace Go.Proofs.YtmfgimkopddcgaaDoor
namespace Sha
open Go.RowKit Mem
/-- The sum of the epoch's first i bytes. -/
def eN (b : List (BitVec 8)) : Nat → Nat
  | 0 => 0
  | i + 1 => eN b i + (b.getD (1 + i) 0).toNat * 256 ^ i
theorem eN_lt (b : List (BitVec 8)) : ∀ i, i ≤ 4 → eN b i < 256 ^ i := by
  intro i hi
  have h0 := (b.getD 1 0).isLt; have h1 := (b.getD 2 0).isLt; have h2 := (b.getD 3 0).isLt; have h3 := (b.getD 4 0).isLt
  match i, hi with
  | 0, _ => simp [eN]
  | 1, _ => simp only [eN]; omega
  | 2, _ => simp only [eN]; omega
  | 3, _ => simp only [eN]; omega
  | 4, _ => simp only [eN]; omega
theorem lew_bytes (a b c d : BitVec 8) (t : List (BitVec 8)) : lew (a :: b :: c :: d :: t) 0 = BitVec.ofNat 32 (a.toNat + b.toNat * 256 + c.toNat * 65536 + d.toNat * 16777216) := by
  have h0 := a.isLt; have h1 := b.isLt; have h2 := c.isLt; have h3 := d.isLt
  obtain ⟨x, hx⟩ : ∃ x, x = BitVec.ofNat 32 (a.toNat + b.toNat * 256 + c.toNat * 65536 + d.toNat * 16777216) := ⟨_, rfl⟩
  have hn : x.toNat = a.toNat + b.toNat * 256 + c.toNat * 65536 + d.toNat * 16777216 := by rw [hx, BitVec.toNat_ofNat]; omega
  have w0 : wb x 0 = a := by apply BitVec.eq_of_toNat_eq; rw [wb, BitVec.toNat_setWidth, BitVec.toNat_ushiftRight, hn, Nat.shiftRight_eq_div_pow]; omega
  have w1 : wb x 8 = b := by apply BitVec.eq_of_toNat_eq; rw [wb, BitVec.toNat_setWidth, BitVec.toNat_ushiftRight, hn, Nat.shiftRight_eq_div_pow]; omega
  have w2 : wb x 16 = c := by apply BitVec.eq_of_toNat_eq; rw [wb, BitVec.toNat_setWidth, BitVec.toNat_ushiftRight, hn, Nat.shiftRight_eq_div_pow]; omega
  have w3 : wb x 24 = d := by apply BitVec.eq_of_toNat_eq; rw [wb, BitVec.toNat_setWidth, BitVec.toNat_ushiftRight, hn, Nat.shiftRight_eq_div_pow]; omega
  rw [← hx]
  have h := lew_le4 x t
  rw [show le4 x = [a, b, c, d] by rw [le4, w0, w1, w2, w3]] at h
  exact h
theorem eN_all (b : List (BitVec 8)) (h : b.length = 37) : BitVec.ofNat 32 (eN b 4) = lew (b.drop 1) 0 := by
  match b, h with
  | _ :: x :: y :: z :: u :: t, _ =>
    show _ = lew (x :: y :: z :: u :: t) 0
    rw [lew_bytes]
    congr 1
    simp [eN]
/-- The reference with i bytes of the epoch and k of the digest. -/
def rfAt (b : List (BitVec 8)) (i k : Nat) : RefV := ⟨((b.getD 0 0).toNat : Int), BitVec.ofNat 32 (eN b i), rowZ (b.drop 5) 32 k⟩
theorem rfAt_wf (b : List (BitVec 8)) (h : b.length = 37) (i k : Nat) (hk : k ≤ 32) : (rfAt b i k).Wf := by
  have := (b.getD 0 0).isLt
  exact ⟨by show _ ≤ ((b.getD 0 0).toNat : Int); omega, by show ((b.getD 0 0).toNat : Int) ≤ _; omega, rowZ_length _ 32 k (by simp [h]) hk⟩
theorem rfAt_all (b : List (BitVec 8)) (h : b.length = 37) : rfAt b 4 32 = rfOf b := by
  unfold rfAt rfOf
  rw [eN_all b h, rowZ_all _ 32 (by simp [h])]
theorem ref_set1 (r : RefV) (e : BitVec 32) : (refC r).setIfInBounds 1 (.int .u32 (V e)) = refC { r with ep := e } := by simp [refC, refL]
theorem ref_setDg (r : RefV) (i : Nat) (x : BitVec 8) (_hi : i < r.dg.length) : (refC r).setIfInBounds (2 + i) (.int .u8 (x.toNat : Int)) = refC { r with dg := r.dg.set i x } := by
  apply Array.ext'
  simp only [refC, refL, List.setIfInBounds_toArray]
  rw [List.set_append_right _ _ (by simp), show 2 + i - [Value.int .i64 r.pl, Value.int .u32 (V r.ep)].length = i by simp]
  simp [u8s, List.map_set]
theorem V_ofNat (n : Nat) (h : n < 4294967296) : V (BitVec.ofNat 32 n) = (n : Int) := by
  show ((BitVec.ofNat 32 n).toNat : Int) = n
  rw [BitVec.toNat_ofNat]; omega
theorem o_shl8 (c j : Nat) (hc : c < 256) (hj : j < 4) (t : TypeId) (x y : Operand) (w : World) : (do eqGuard .shl t x y (.int .u32 (c : Int)) (.int .i64 ((8 * j : Nat) : Int)); binOp .shl t (.int .u32 (c : Int)) (.int .i64 ((8 * j : Nat) : Int)) : Sem Value).run Tryd.prog w = .ok (.int .u32 ((c * 256 ^ j : Nat) : Int)) w := by
  match j, hj with
  | 0, _ => go_simp; rw [IntKind.wrap_u32]; omega
  | 1, _ => go_simp; rw [IntKind.wrap_u32]; omega
  | 2, _ => go_simp; rw [IntKind.wrap_u32]; omega
  | 3, _ => go_simp; rw [IntKind.wrap_u32]; omega
theorem conv_bI (x : Nat) (_h : x < 256) (w : World) : (convert 5 3 (.int .u8 (x : Int))).run Tryd.prog w = .ok (.int .i64 (x : Int)) w := by
  have h2 : IntKind.i64.wrap (x : Int) = (x : Int) := by simp [IntKind.wrap, IntKind.bits, IntKind.signed]; omega
  go_simp
theorem conv_bU (x : Nat) (_h : x < 256) (w : World) : (convert 5 23 (.int .u8 (x : Int))).run Tryd.prog w = .ok (.int .u32 (x : Int)) w := by
  have h2 : IntKind.u32.wrap (x : Int) = (x : Int) := by simp [IntKind.wrap, IntKind.bits, IntKind.signed]; omega
  go_simp
set_option maxRecDepth 100000 in
set_option maxHeartbeats 4000000 in
theorem rparseRf_bad (b : List (BitVec 8)) (v : Value) (w : World) (hv : Sl w v b) (hl : b.length ≤ 1000) (h : b.length ≠ 37 ∨ 1 < (b.getD 0 0).toNat) :
    Calls Tryd.prog 21 #[v] w fun e w' => e = .returned (.tuple #[.agg (refC zref), .int .i64 1]) ∧ Below w.heap.size w w' := by
  have hv0 := hv
  obtain ⟨a0, cap, rfl, hcap, hr⟩ := hv
  obtain ⟨n, hn⟩ : ∃ n, n = b.length := ⟨_, rfl⟩
  rw [← hn] at h hl ⊢
  obtain ⟨Z, hZ⟩ : ∃ Z, Z = refC zref := ⟨_, rfl⟩
  have zs : Z.size = 34 := by rw [hZ]; exact refC_size zref_wf
  have zo : Z.all (·.oneCell') = true := by rw [hZ]; exact refC_one _
  have hx : ∀ w, (zeroValue 38).run Tryd.prog w = .ok (.agg Z) w := by rw [hZ]; exact zeroRfR
  have bn : ∀ w, (Instr.build 38 #[]).run Tryd.prog w = .ok (.agg Z) w := by rw [hZ]; exact buildRf0
  rw [← hZ]
  have az := at_new w Z 38
  have bz : Below w.heap.size w (w.alloc (.cells Z 38)) := (Below.refl _ _).alloc (Nat.le_refl _) _
  have ZS := Lib.hid zs; have ZO := Lib.hid zo; have BN := Lib.hid bn; have AZ := Lib.hid az; have BZ := Lib.hid bz
  clear zs zo bn az bz hZ
  by_cases h37 : n = 37
  · subst h37
    have h1 : 1 < (b.getD 0 0).toNat := h.resolve_left (fun h => h rfl)
    obtain ⟨bb, oo, ea, hlt, hc⟩ := hr (by intro e; rw [e] at hn; simp at hn)
    subst ea
    have c0 := hc 0 (by omega)
    have c0 : (w.alloc (.cells Z 38)).cell? ⟨bb, oo, none⟩ = some (.int .u8 ((b.getD 0 0).toNat : Int)) := (BZ.out.cell (p := ⟨bb, oo, none⟩) hlt).trans c0
    obtain ⟨x, hx0⟩ : ∃ x, x = (b.getD 0 0).toNat := ⟨_, rfl⟩
    rw [← hx0] at c0 h1
    have h1' : (1 : Int) < (x : Int) := by omega
    clear hc hr hv0 hn h hx0 hl hcap
    go_enter Tryd.func21, Tryd.ntmps21
    go_upto_region 1 with fail
    clear hx
    generalize w.alloc (.cells Z 38) = w1 at *
    go_wp2_with (first
      | (refine Mem.wpList_build (by rfl) 38 _ #[] (.agg Z) (by rfl) (by simp) BN.out ?_)
      | (refine wpList_store_all (by rfl) 38 _ _ (by rfl) (by rfl) w.heap.size Z (by rfl) (by rfl) (by rw [ZS.out]; exact infoRfR) Z 38 AZ.out (by rfl) ZO.out ?_))
    try simp only [Exit.inBlock, Exit.then]
    refine ret_row_tmp (by rfl) w.heap.size 38 Z _ _ (by rfl) (by rfl) (AZ.out.row Z) Tryd.underlying38 (by rfl) (by rw [ZS.out]; exact infoRfR) ?_
    exact ⟨rfl, below_row BZ.out (Nat.le_refl _) Z⟩
  · have g : ¬ (n : Int) = 37 := by omega
    clear hr hv0 hn h h37 hcap
    go_enter Tryd.func21, Tryd.ntmps21
    go_upto_region 1 with fail
    clear hx
    generalize w.alloc (.cells Z 38) = w1 at *
    go_wp2_with (first
      | (refine Mem.wpList_build (by rfl) 38 _ #[] (.agg Z) (by rfl) (by simp) BN.out ?_)
      | (refine wpList_store_all (by rfl) 38 _ _ (by rfl) (by rfl) w.heap.size Z (by rfl) (by rfl) (by rw [ZS.out]; exact infoRfR) Z 38 AZ.out (by rfl) ZO.out ?_))
    try simp only [Exit.inBlock, Exit.then]
    refine ret_row_tmp (by rfl) w.heap.size 38 Z _ _ (by rfl) (by rfl) (AZ.out.row Z) Tryd.underlying38 (by rfl) (by rw [ZS.out]; exact infoRfR) ?_
    exact ⟨rfl, below_row BZ.out (Nat.le_refl _) Z⟩
/-- In Parse's loops: the result's block rb, the reference's block g. -/
structure RpInv (b : List (BitVec 8)) (Z : Array Value) (rb g i k : Nat) (w w4 wr : World) : Prop where
  z : At wr rb Z 38
  r : At wr g (refC (rfAt b i k)) 38
  o : But g w4 wr
  b : Below w.heap.size w wr
theorem rp_next {b : List (BitVec 8)} {Z : Array Value} {rb g i k i' k' : Nat} {w w4 wr w' : World} (h : RpInv b Z rb g i k w w4 wr) (hne : rb ≠ g) (hg : w.heap.size ≤ g) (ha : At w' g (refC (rfAt b i' k')) 38) (ho : ∀ q, q ≠ g → w'.heap[q]? = wr.heap[q]?) (hk : ∀ B a, Below B a wr → B ≤ g → Below B a w') : RpInv b Z rb g i' k' w w4 w' :=
  ⟨at_keep h.z ho hne, ha, ⟨Nat.le_trans h.o.size (hk g wr (Below.refl _ _) (Nat.le_refl _)).size, fun q hq hn => (ho q hn).trans (h.o.block q hq hn)⟩, hk _ _ h.b hg⟩
set_option maxRecDepth 100000 in
set_option maxHeartbeats 8000000 in
theorem rparseRf_good (b : List (BitVec 8)) (v : Value) (w : World) (hv : Sl w v b) (hl : b.length = 37) (h1 : (b.getD 0 0).toNat ≤ 1) :
    Calls Tryd.prog 21 #[v] w fun e w' => e = .returned (.tuple #[.agg (refC (rfOf b)), .int .i64 0]) ∧ Below w.heap.size w w' := by
  obtain ⟨a0, cap, rfl, hcap, hr⟩ := hv
  obtain ⟨bb, oo, ea, hblt, hc⟩ := hr (by intro e; rw [e] at hl; simp at hl)
  subst ea
  have hfs := refC_size (rfOf_wf b hl)
  have hfo := refC_one (rfOf b)
  obtain ⟨F, hF⟩ : ∃ F, F = refC (rfOf b) := ⟨_, rfl⟩
  rw [← hF] at hfs hfo ⊢
  have FS := Lib.hid hfs; have FO := Lib.hid hfo; have HF := Lib.hid hF
  clear hfs hfo hF
  obtain ⟨Z, hZ⟩ : ∃ Z, Z = refC zref := ⟨_, rfl⟩
  have zs : Z.size = 34 := by rw [hZ]; exact refC_size zref_wf
  have hx : ∀ w, (zeroValue 38).run Tryd.prog w = .ok (.agg Z) w := by rw [hZ]; exact zeroRfR
  have az := at_new w Z 38
  have bz : Below w.heap.size w (w.alloc (.cells Z 38)) := (Below.refl _ _).alloc (Nat.le_refl _) _
  have b1 : ∀ wx, (Instr.build 38 #[(0, .int .i64 ((b.getD 0 0).toNat : Int))]).run Tryd.prog wx = .ok (.agg (refC (rfAt b 0 0))) wx := fun wx => buildRf1 _ wx
  have hcells : Hid (∀ wx, But (w.heap.size + 1) w wx → ∀ q, q < 37 → wx.cell? ⟨bb, oo + q, none⟩ = some (.int .u8 ((b.getD q 0).toNat : Int))) := Lib.hid fun wx h q hq => by
    rw [World.cell?_of_block (w := w) (w' := wx) (a := ⟨bb, oo + q, none⟩) (h.block bb hblt (by omega))]
    exact hc q (by omega)
  have ms0 := refC_size (rfAt_wf b hl 0 0 (by decide))
  have mo0 := refC_one (rfAt b 0 0)
  obtain ⟨M, hM⟩ : ∃ M, M = refC (rfAt b 0 0) := ⟨_, rfl⟩
  rw [← hM] at b1 ms0 mo0
  have c0 : (w.alloc (.cells Z 38)).cell? ⟨bb, oo, none⟩ = some (.int .u8 ((b.getD 0 0).toNat : Int)) := (bz.cell (p := ⟨bb, oo, none⟩) hblt).trans (hc 0 (by omega))
  obtain ⟨x, hx0⟩ : ∃ x, x = (b.getD 0 0).toNat := ⟨_, rfl⟩
  rw [← hx0] at c0 h1 b1
  have h1' : ¬ (1 : Int) < (x : Int) := by omega
  have cvb := fun wx => conv_bI x (by omega) wx
  have I0 : Hid (RpInv b Z w.heap.size (w.heap.size + 1) 0 0 w w ((w.alloc (.cells Z 38)).alloc (.cells M 38))) := by
    refine Lib.hid ⟨az.alloc _, ?_, ?_, bz.alloc (by simp) _⟩
    · have h := at_new (w.alloc (.cells Z 38)) M 38
      rw [← hM]; simpa using h
    · have h := bz.alloc (by simp) (.cells M 38)
      exact ⟨h.size, fun q hq _ => h.block q hq⟩
  have HLN := Lib.hid hl; have ZS := Lib.hid zs; have B1 := Lib.hid b1; have MS := Lib.hid ms0; have MO := Lib.hid mo0; have CVB := Lib.hid cvb; have BLT := Lib.hid hblt
  rw [hl]
  have hws : (w.alloc (.cells Z 38)).heap.size = w.heap.size + 1 := by simp
  have HWS := Lib.hid hws
  clear hc hr hcap zs az bz b1 ms0 mo0 cvb hM hZ hx0 hl h1 hblt hws
  go_enter Tryd.func21, Tryd.ntmps21
  go_upto_region 1 with fail
  generalize w.alloc (.cells Z 38) = w1 at *
  go_wp2_with (first
    | (refine wpList_conv (by rfl) _ _ _ _ (.int .i64 (x : Int)) (by rfl) (by rfl) CVB.out ?_)
    | (refine Mem.wpList_build (by rfl) 38 _ #[(0, .int .i64 (x : Int))] (.agg M) (by rfl) (by simp [Act.eval]) B1.out ?_)
    | (refine wpList_store_new (by rfl) 38 _ _ (by rfl) (by rfl) M _ _ (by rfl) (by rfl) (by rw [MS.out]; exact infoRfR) (by rw [MS.out, ZS.out]) MO.out ?_; rw [HWS.out]; clear c0 hx))
  obtain ⟨rb, hrb⟩ : ∃ rb, rb = w.heap.size := ⟨_, rfl⟩
  rw [← hrb] at I0 hcells ⊢
  generalize w1.alloc (.cells M 38) = w4 at *
  obtain ⟨g, hgg⟩ : ∃ g, g = rb + 1 := ⟨_, rfl⟩
  rw [← hgg] at I0 hcells ⊢
  have HRB := Lib.hid hrb; have HGG := Lib.hid hgg
  clear hrb hgg HWS B1 MS MO CVB
  go_loopw [5] (fun i wr => ∃ j : Nat, j ≤ 4 ∧ i = .int .i64 j ∧ RpInv b Z rb g j 0 w w wr) (fun i _ => 4 - (intOf i).toNat)
  case atStart => exact ⟨0, by omega, rfl, I0.out⟩
  case round =>
    clear I0
    obtain ⟨j, hj, rfl, hI⟩ := hrel
    by_cases hlt : j < 4
    · have hlt' : (j : Int) < 4 := by omega
      have cb := hcells.out wr hI.o (1 + j) (by omega)
      obtain ⟨c, hcc⟩ : ∃ c, c = (b.getD (1 + j) 0).toNat := ⟨_, rfl⟩
      have hc8 : c < 256 := by rw [hcc]; exact (b.getD (1 + j) 0).isLt
      rw [← hcc] at cb
      have hn := eN_lt b (j + 1) (by omega)
      have hn0 : eN b (j + 1) = eN b j + c * 256 ^ j := by rw [hcc]; rfl
      have hp4 : 256 ^ (j + 1) ≤ 256 ^ 4 := Nat.pow_le_pow_right (by decide) (by omega)
      have c1 : wr.cell? ⟨g, 1, none⟩ = some (.int .u32 (eN b j : Int)) := by
        rw [(hI.r.cell 1).trans (ref1 _)]
        show some (Value.int .u32 (V (BitVec.ofNat 32 (eN b j)))) = _
        rw [V_ofNat _ (by omega)]
      have hset : (refC (rfAt b j 0)).setIfInBounds 1 (.int .u32 ((eN b (j + 1) : Nat) : Int)) = refC (rfAt b (j + 1) 0) := by
        have h := ref_set1 (rfAt b j 0) (BitVec.ofNat 32 (eN b (j + 1)))
        rw [V_ofNat _ (by omega)] at h
        exact h
      have hsz : (refC (rfAt b j 0)).size = 34 := refC_size (rfAt_wf b HLN.out j 0 (by decide))
      obtain ⟨e1, he1⟩ : ∃ e1, e1 = eN b j := ⟨_, rfl⟩
      obtain ⟨e2, he2⟩ : ∃ e2, e2 = eN b (j + 1) := ⟨_, rfl⟩
      obtain ⟨s, hs⟩ : ∃ s, s = c * 256 ^ j := ⟨_, rfl⟩
      rw [← he1] at c1 hn0
      rw [← he2] at hn hn0 hset
      rw [← hs] at hn0
      have he2' : e2 < 4294967296 := by omega
      have hshl := fun (t : TypeId) (x y : Operand) wx => o_shl8 c j hc8 hlt t x y wx
      rw [← hs] at hshl
      have hadd : ∀ (t : TypeId) (x y : Operand) wx, (do eqGuard .add t x y (.int .u32 (e1 : Int)) (.int .u32 (s : Int)); binOp .add t (.int .u32 (e1 : Int)) (.int .u32 (s : Int)) : Sem Value).run Tryd.prog wx = .ok (.int .u32 (e2 : Int)) wx := fun t x y wx => o_uadd _ _ _ _ _ _ _ (by omega) (by omega) (by omega) wx
      have hcv := fun wx => conv_bU c hc8 wx
      have hi : ∀ (t : TypeId) (x y : Operand) wx, (do eqGuard .add t x y (.int .i64 1) (.int .i64 (j : Int)); binOp .add t (.int .i64 1) (.int .i64 (j : Int)) : Sem Value).run Tryd.prog wx = .ok (.int .i64 ((1 + j : Nat) : Int)) wx := fun t x y wx => o_iadd _ _ _ _ _ _ _ (by omega) (by omega) (by omega) wx
      have hm8 : ∀ (t : TypeId) (x y : Operand) wx, (do eqGuard .mul t x y (.int .i64 8) (.int .i64 (j : Int)); binOp .mul t (.int .i64 8) (.int .i64 (j : Int)) : Sem Value).run Tryd.prog wx = .ok (.int .i64 ((8 * j : Nat) : Int)) wx := fun t x y wx => o_imul _ _ _ _ _ _ _ (by omega) (by omega) (by omega) wx
      have hcb : ∀ wx, But g wr wx → wx.cell? ⟨bb, oo + (1 + j), none⟩ = some (.int .u8 (c : Int)) := fun wx h => by
        rw [World.cell?_of_block (w := wr) (w' := wx) (a := ⟨bb, oo + (1 + j), none⟩) (h.block bb (Nat.lt_of_lt_of_le BLT.out hI.o.size) (by have := BLT.out; have := HRB.out; have := HGG.out; show bb ≠ g; omega))]
        exact cb
      obtain ⟨E, hE⟩ : ∃ E, E = refC (rfAt b j 0) := ⟨_, rfl⟩
      have hr2 := hI.r
      rw [← hE] at hr2 hset hsz
      have II := Lib.hid hI; have RR := Lib.hid hr2; have SET := Lib.hid hset; have ES := Lib.hid hsz; have SHL := Lib.hid hshl; have ADD := Lib.hid hadd; have CV := Lib.hid hcv; have IADD := Lib.hid hi; have IMUL := Lib.hid hm8; have CB := Lib.hid hcb; have C1 : Hid (wr.drew.cell? ⟨g, 1, none⟩ = some (.int .u32 (e1 : Int))) := Lib.hid c1
      clear hI hr2 hset hsz hE hshl hadd hcv hi hm8 hcb cb hcc hc8 hn hn0 hp4 he1 he2 hs he2' c1
      have DR : Hid (But g wr wr.drew) := Lib.hid ⟨Nat.le_refl _, fun _ _ _ => rfl⟩
      go_wp2_with fail
      refine wp_region_plan_in (fun x => But g wr x) (.take 0 (.take 2 (.take 3 (.take 4 (.take 5 (.take 6 (.take 7 (.take 8 (.take 9 (.take 10 (.sole 1 (.take 11 (.take 12 (.sole 13 .done)))))))))))))) (by kernel_rfl) (by kernel_rfl) (by kernel_rfl) DR.out ?_
      refine plan_field 38 _ 1 g 0 ⟨g, 1, none⟩ (by rfl) (by rfl) (by rfl) (by first | (with_reducible exact Mem.ev_const _ _) | (with_reducible exact Mem.ev_zero _ _ _) | (with_reducible (apply Eq.trans (Mem.ev_tmp _ _ _)); simp only [List.getD_cons_succ, List.getD_cons_zero] <;> rfl)) (fun wx => by go_simp) ?_
      (simp only [Act.put, List.setIfInBounds_toArray, List.set_cons_zero, List.set_cons_succ])
      (first | (refine plan_move _ _ (by rfl) (by rfl) (.inl (by rfl)) (by first | (with_reducible exact Mem.ev_const _ _) | (with_reducible exact Mem.ev_zero _ _ _) | (with_reducible (apply Eq.trans (Mem.ev_tmp _ _ _)); simp only [List.getD_cons_succ, List.getD_cons_zero] <;> rfl)) ?_) | (refine plan_move _ _ (by rfl) (by rfl) (.inr (by rfl)) (by first | (with_reducible exact Mem.ev_const _ _) | (with_reducible exact Mem.ev_zero _ _ _) | (with_reducible (apply Eq.trans (Mem.ev_tmp _ _ _)); simp only [List.getD_cons_succ, List.getD_cons_zero] <;> rfl)) ?_) | (refine plan_pick_t _ _ _ _ (by rfl) (by rfl) (by rfl) (by first | (with_reducible exact Mem.ev_const _ _) | (with_reducible exact Mem.ev_zero _ _ _) | (with_reducible (apply Eq.trans (Mem.ev_tmp _ _ _)); simp only [List.getD_cons_succ, List.getD_cons_zero] <;> rfl)) (by first | (with_reducible exact Mem.ev_const _ _) | (with_reducible exact Mem.ev_zero _ _ _) | (with_reducible (apply Eq.trans (Mem.ev_tmp _ _ _)); simp only [List.getD_cons_succ, List.getD_cons_zero] <;> rfl)) ?_) | (refine plan_pick_f _ _ _ _ (by rfl) (by rfl) (by rfl) (by first | (with_reducible exact Mem.ev_const _ _) | (with_reducible exact Mem.ev_zero _ _ _) | (with_reducible (apply Eq.trans (Mem.ev_tmp _ _ _)); simp only [List.getD_cons_succ, List.getD_cons_zero] <;> rfl)) (by first | (with_reducible exact Mem.ev_const _ _) | (with_reducible exact Mem.ev_zero _ _ _) | (with_reducible (apply Eq.trans (Mem.ev_tmp _ _ _)); simp only [List.getD_cons_succ, List.getD_cons_zero] <;> rfl)) ?_))
      (simp only [Act.put, List.setIfInBounds_toArray, List.set_cons_zero, List.set_cons_succ])
      (first | (refine plan_move _ _ (by rfl) (by rfl) (.inl (by rfl)) (by first | (with_reducible exact Mem.ev_const _ _) | (with_reducible exact Mem.ev_zero _ _ _) | (with_reducible (apply Eq.trans (Mem.ev_tmp _ _ _)); simp only [List.getD_cons_succ, List.getD_cons_zero] <;> rfl)) ?_) | (refine plan_move _ _ (by rfl) (by rfl) (.inr (by rfl)) (by first | (with_reducible exact Mem.ev_const _ _) | (with_reducible exact Mem.ev_zero _ _ _) | (with_reducible (apply Eq.trans (Mem.ev_tmp _ _ _)); simp only [List.getD_cons_succ, List.getD_cons_zero] <;> rfl)) ?_) | (refine plan_pick_t _ _ _ _ (by rfl) (by rfl) (by rfl) (by first | (with_reducible exact Mem.ev_const _ _) | (with_reducible exact Mem.ev_zero _ _ _) | (with_reducible (apply Eq.trans (Mem.ev_tmp _ _ _)); simp only [List.getD_cons_succ, List.getD_cons_zero] <;> rfl)) (by first | (with_reducible exact Mem.ev_const _ _) | (with_reducible exact Mem.ev_zero _ _ _) | (with_reducible (apply Eq.trans (Mem.ev_tmp _ _ _)); simp only [List.getD_cons_succ, List.getD_cons_zero] <;> rfl)) ?_) | (refine plan_pick_f _ _ _ _ (by rfl) (by rfl) (by rfl) (by first | (with_reducible exact Mem.ev_const _ _) | (with_reducible exact Mem.ev_zero _ _ _) | (with_reducible (apply Eq.trans (Mem.ev_tmp _ _ _)); simp only [List.getD_cons_succ, List.getD_cons_zero] <;> rfl)) (by first | (with_reducible exact Mem.ev_const _ _) | (with_reducible exact Mem.ev_zero _ _ _) | (with_reducible (apply Eq.trans (Mem.ev_tmp _ _ _)); simp only [List.getD_cons_succ, List.getD_cons_zero] <;> rfl)) ?_))
      (simp only [Act.put, List.setIfInBounds_toArray, List.set_cons_zero, List.set_cons_succ])
      refine plan_bin _ _ _ _ _ _ _ (.int .i64 ((1 + j : Nat) : Int)) (by rfl) (by rfl) (by rfl) (by rfl) (by first | (with_reducible exact Mem.ev_const _ _) | (with_reducible exact Mem.ev_zero _ _ _) | (with_reducible (apply Eq.trans (Mem.ev_tmp _ _ _)); simp only [List.getD_cons_succ, List.getD_cons_zero] <;> rfl)) (fun wx => IADD.out _ _ _ wx) ?_
      (simp only [Act.put, List.setIfInBounds_toArray, List.set_cons_zero, List.set_cons_succ])
      refine plan_index 26 5 _ _ bb oo 37 cap (1 + j) (by rfl) (by rfl) (by rfl) (by first | (with_reducible exact Mem.ev_const _ _) | (with_reducible exact Mem.ev_zero _ _ _) | (with_reducible (apply Eq.trans (Mem.ev_tmp _ _ _)); simp only [List.getD_cons_succ, List.getD_cons_zero] <;> rfl)) (by first | (with_reducible exact Mem.ev_const _ _) | (with_reducible exact Mem.ev_zero _ _ _) | (with_reducible (apply Eq.trans (Mem.ev_tmp _ _ _)); simp only [List.getD_cons_succ, List.getD_cons_zero] <;> rfl)) (by omega) Tryd.underlying26 (by kernel_rfl) ?_
      (simp only [Act.put, List.setIfInBounds_toArray, List.set_cons_zero, List.set_cons_succ])
      refine plan_cell 5 _ _ (.int .u8 (c : Int)) _ (by rfl) (by rfl) (by rfl) (by first | (with_reducible exact Mem.ev_const _ _) | (with_reducible exact Mem.ev_zero _ _ _) | (with_reducible (apply Eq.trans (Mem.ev_tmp _ _ _)); simp only [List.getD_cons_succ, List.getD_cons_zero] <;> rfl)) (fun w' hw' => CB.out w' hw') Tryd.underlying5 (by rfl) ?_
      (simp only [Act.put, List.setIfInBounds_toArray, List.set_cons_zero, List.set_cons_succ])
      refine plan_conv 5 23 _ (.int .u8 (c : Int)) (.int .u32 (c : Int)) (by rfl) (by rfl) (by rfl) (by first | (with_reducible exact Mem.ev_const _ _) | (with_reducible exact Mem.ev_zero _ _ _) | (with_reducible (apply Eq.trans (Mem.ev_tmp _ _ _)); simp only [List.getD_cons_succ, List.getD_cons_zero] <;> rfl)) (fun wx => CV.out wx) ?_
      (simp only [Act.put, List.setIfInBounds_toArray, List.set_cons_zero, List.set_cons_succ])
      (first | (refine plan_move _ _ (by rfl) (by rfl) (.inl (by rfl)) (by first | (with_reducible exact Mem.ev_const _ _) | (with_reducible exact Mem.ev_zero _ _ _) | (with_reducible (apply Eq.trans (Mem.ev_tmp _ _ _)); simp only [List.getD_cons_succ, List.getD_cons_zero] <;> rfl)) ?_) | (refine plan_move _ _ (by rfl) (by rfl) (.inr (by rfl)) (by first | (with_reducible exact Mem.ev_const _ _) | (with_reducible exact Mem.ev_zero _ _ _) | (with_reducible (apply Eq.trans (Mem.ev_tmp _ _ _)); simp only [List.getD_cons_succ, List.getD_cons_zero] <;> rfl)) ?_) | (refine plan_pick_t _ _ _ _ (by rfl) (by rfl) (by rfl) (by first | (with_reducible exact Mem.ev_const _ _) | (with_reducible exact Mem.ev_zero _ _ _) | (with_reducible (apply Eq.trans (Mem.ev_tmp _ _ _)); simp only [List.getD_cons_succ, List.getD_cons_zero] <;> rfl)) (by first | (with_reducible exact Mem.ev_const _ _) | (with_reducible exact Mem.ev_zero _ _ _) | (with_reducible (apply Eq.trans (Mem.ev_tmp _ _ _)); simp only [List.getD_cons_succ, List.getD_cons_zero] <;> rfl)) ?_) | (refine plan_pick_f _ _ _ _ (by rfl) (by rfl) (by rfl) (by first | (with_reducible exact Mem.ev_const _ _) | (with_reducible exact Mem.ev_zero _ _ _) | (with_reducible (apply Eq.trans (Mem.ev_tmp _ _ _)); simp only [List.getD_cons_succ, List.getD_cons_zero] <;> rfl)) (by first | (with_reducible exact Mem.ev_const _ _) | (with_reducible exact Mem.ev_zero _ _ _) | (with_reducible (apply Eq.trans (Mem.ev_tmp _ _ _)); simp only [List.getD_cons_succ, List.getD_cons_zero] <;> rfl)) ?_))
      (simp only [Act.put, List.setIfInBounds_toArray, List.set_cons_zero, List.set_cons_succ])
      refine plan_bin _ _ _ _ _ _ _ (.int .i64 ((8 * j : Nat) : Int)) (by rfl) (by rfl) (by rfl) (by rfl) (by first | (with_reducible exact Mem.ev_const _ _) | (with_reducible exact Mem.ev_zero _ _ _) | (with_reducible (apply Eq.trans (Mem.ev_tmp _ _ _)); simp only [List.getD_cons_succ, List.getD_cons_zero] <;> rfl)) (fun wx => IMUL.out _ _ _ wx) ?_
      (simp only [Act.put, List.setIfInBounds_toArray, List.set_cons_zero, List.set_cons_succ])
      refine plan_bin _ _ _ _ _ _ _ (.int .u32 (s : Int)) (by rfl) (by rfl) (by rfl) (by first | (with_reducible exact Mem.ev_const _ _) | (with_reducible exact Mem.ev_zero _ _ _) | (with_reducible (apply Eq.trans (Mem.ev_tmp _ _ _)); simp only [List.getD_cons_succ, List.getD_cons_zero] <;> rfl)) (by first | (with_reducible exact Mem.ev_const _ _) | (with_reducible exact Mem.ev_zero _ _ _) | (with_reducible (apply Eq.trans (Mem.ev_tmp _ _ _)); simp only [List.getD_cons_succ, List.getD_cons_zero] <;> rfl)) (fun wx => SHL.out _ _ _ wx) ?_
      (simp only [Act.put, List.setIfInBounds_toArray, List.set_cons_zero, List.set_cons_succ])
      refine plan_sole_cell 23 _ _ (.int .u32 (e1 : Int)) _ (by rfl) (by rfl) (by rfl) (by first | (with_reducible exact Mem.ev_const _ _) | (with_reducible exact Mem.ev_zero _ _ _) | (with_reducible (apply Eq.trans (Mem.ev_tmp _ _ _)); simp only [List.getD_cons_succ, List.getD_cons_zero] <;> rfl)) C1.out Tryd.underlying23 (by rfl) DR.out ?_
      (simp only [Act.put, List.setIfInBounds_toArray, List.set_cons_zero, List.set_cons_succ])
      refine plan_bin _ _ _ _ _ _ _ (.int .u32 (e2 : Int)) (by rfl) (by rfl) (by rfl) (by first | (with_reducible exact Mem.ev_const _ _) | (with_reducible exact Mem.ev_zero _ _ _) | (with_reducible (apply Eq.trans (Mem.ev_tmp _ _ _)); simp only [List.getD_cons_succ, List.getD_cons_zero] <;> rfl)) (by first | (with_reducible exact Mem.ev_const _ _) | (with_reducible exact Mem.ev_zero _ _ _) | (with_reducible (apply Eq.trans (Mem.ev_tmp _ _ _)); simp only [List.getD_cons_succ, List.getD_cons_zero] <;> rfl)) (fun wx => ADD.out _ _ _ wx) ?_
      (simp only [Act.put, List.setIfInBounds_toArray, List.set_cons_zero, List.set_cons_succ])
      refine plan_field 38 _ 1 g 0 ⟨g, 1, none⟩ (by rfl) (by rfl) (by rfl) (by first | (with_reducible exact Mem.ev_const _ _) | (with_reducible exact Mem.ev_zero _ _ _) | (with_reducible (apply Eq.trans (Mem.ev_tmp _ _ _)); simp only [List.getD_cons_succ, List.getD_cons_zero] <;> rfl)) (fun wx => by go_simp) ?_
      (simp only [Act.put, List.setIfInBounds_toArray, List.set_cons_zero, List.set_cons_succ])
      refine plan_store_one 23 _ _ g 1 (.int .u32 (e2 : Int)) _ 38 (by rfl) (by rfl) (by rfl) (by rfl) (by first | (with_reducible exact Mem.ev_const _ _) | (with_reducible exact Mem.ev_zero _ _ _) | (with_reducible (apply Eq.trans (Mem.ev_tmp _ _ _)); simp only [List.getD_cons_succ, List.getD_cons_zero] <;> rfl)) (by first | (with_reducible exact Mem.ev_const _ _) | (with_reducible exact Mem.ev_zero _ _ _) | (with_reducible (apply Eq.trans (Mem.ev_tmp _ _ _)); simp only [List.getD_cons_succ, List.getD_cons_zero] <;> rfl)) (by rfl) infoU32 RR.out (by rw [ES.out]; decide) (DR.out.row (by simp) (fun j hj => heap_setCell_other _ _ _ _ hj)) ?_
      refine plan_nil ?_
      go_wp2_with fail
      go_roundw
      case rel => exact ⟨j + 1, by omega, by go_num, rp_next II.out (by have := HGG.out; omega) (by have := HGG.out; have := HRB.out; omega) (by have h := RR.out.set 1 (.int .u32 (e2 : Int)); rw [SET.out] at h; exact h) (fun q hq => heap_setCell_other wr.drew ⟨g, 1, none⟩ q _ hq) (fun B a hB hle => hB.drew.setCell hle _)⟩
      case measure => simp [intOf]; omega
    · have hj4 : j = 4 := by omega
      have hge : ¬ (j : Int) < 4 := by omega
      subst hj4
      have I1 := Lib.hid hI
      clear hI hlt hj
      go_wp2_with fail
      go_loopw [6] (fun i wr => ∃ k : Nat, k ≤ 32 ∧ i = .int .i64 k ∧ RpInv b Z rb g 4 k w w wr) (fun i _ => 32 - (intOf i).toNat)
      case atStart => exact ⟨0, by omega, rfl, I1.out⟩
      case round =>
        clear I1
        obtain ⟨k, hk, rfl, hI⟩ := hrel
        by_cases hlt : k < 32
        · have hlt' : (k : Int) < 32 := by omega
          have cb := hcells.out wr hI.o (5 + k) (by omega)
          have hwf := rfAt_wf b HLN.out 4 k (by omega)
          have hset : (refC (rfAt b 4 k)).setIfInBounds (2 + k) (.int .u8 ((b.getD (5 + k) 0).toNat : Int)) = refC (rfAt b 4 (k + 1)) := by
            rw [ref_setDg _ k _ (by rw [hwf.dg]; exact hlt)]
            have e : (b.drop 5).getD k 0 = b.getD (5 + k) 0 := by simp [List.getD_eq_getElem?_getD, List.getElem?_drop]
            have h := rowZ_set (b.drop 5) 32 k (by simp [HLN.out]) hlt
            rw [e] at h
            show refC ⟨_, _, (rowZ (b.drop 5) 32 k).set k _⟩ = refC ⟨_, _, rowZ (b.drop 5) 32 (k + 1)⟩
            rw [h]
            rfl
          have hsz : 2 + k < (refC (rfAt b 4 k)).size := by rw [refC_size hwf]; omega
          obtain ⟨c, hcc⟩ : ∃ c, c = (b.getD (5 + k) 0).toNat := ⟨_, rfl⟩
          rw [← hcc] at cb hset
          obtain ⟨E, hE⟩ : ∃ E, E = refC (rfAt b 4 k) := ⟨_, rfl⟩
          have hr2 := hI.r
          rw [← hE] at hr2 hset hsz
          have II := Lib.hid hI; have RR := Lib.hid hr2; have SET := Lib.hid hset; have ES := Lib.hid hsz
          clear hI hr2 hset hsz hE hwf hcc
          go_wp2_with (refine Mem.wpList_store_one (by rfl) 5 _ _ (by rfl) (by rfl) g (2 + k) (.int .u8 (c : Int)) (by rfl) (by rfl) (by rfl) infoB _ 38 RR.out ES.out ?_; intro w' hat' ho' hb'; have K' := Lib.hid hat'; have O' := Lib.hid ho'; have B' := Lib.hid hb'; clear hat' ho' hb')
          go_roundw
          case rel => exact ⟨k + 1, by omega, by go_num, rp_next II.out (by have := HGG.out; omega) (by have := HGG.out; have := HRB.out; omega) (by rw [← SET.out]; exact K'.out) O'.out B'.out⟩
          case measure => simp [intOf]; omega
        · have hk32 : k = 32 := by omega
          have hge2 : ¬ (k : Int) < 32 := by omega
          subst hk32
          have hr2 := hI.r
          rw [rfAt_all b HLN.out] at hr2
          have hz := hI.z
          have hbw := hI.b
          rw [← HF.out] at hr2
          have RR := Lib.hid hr2; have ZZ := Lib.hid hz; have BB := Lib.hid hbw
          clear hI hr2 hlt hk hz hbw
          go_wp2_with (first
            | (refine wpList_load_all (by rfl) 38 _ (by rfl) g (by rfl) _ Tryd.underlying38 (by rfl) F _ RR.out (by rw [FS.out]; exact infoRfR) ?_)
            | (refine wpList_store_all (by rfl) 38 _ _ (by rfl) (by rfl) rb F (by rfl) (by rfl) (by rw [FS.out]; exact infoRfR) Z 38 ZZ.out (by rw [ZS.out, FS.out]) FO.out ?_))
          try simp only [Exit.inBlock, Exit.then]
          refine ret_row_tmp (by rfl) rb 38 F _ _ (by rfl) (by rfl) (At.row (C := Z) ZZ.out F) Tryd.underlying38 (by rfl) (by rw [FS.out]; exact infoRfR) ?_
          exact ⟨rfl, below_row BB.out (by rw [HRB.out]; exact Nat.le_refl _) F⟩
theorem rparseRf_any (b : List (BitVec 8)) (v : Value) (w : World) (hv : Sl w v b) (hl : b.length ≤ 1000) :
    Calls Tryd.prog 21 #[v] w fun e w' => e = .returned (.tuple #[.agg (refC (parseRf b).1), .int .i64 (parseRf b).2]) ∧ Below w.heap.size w w' := by
  unfold parseRf
  by_cases h : b.length ≠ 37 ∨ 1 < (b.getD 0 0).toNat
  · rw [if_pos h]; exact rparseRf_bad b v w hv hl h
  · rw [if_neg h]; exact rparseRf_good b v w hv (by omega) (by omega)
end Sha
end Go.Proofs.YtmfgimkopddcgaaDoor
namespace Go.Proofs.YtmfgimkopddcgaaDoor
namespace Sha
open Go.RowKit Mem
/-- Two unlike texts with one digest. -/
def BadP (ps : List (List (BitVec 8))) (i k : Nat) : Prop := digestOf (ps.getD i []) = digestOf (ps.getD k []) ∧ ps.getD i [] ≠ ps.getD k []
/-- What Clash tells. -/
def IsClash (ps : List (List (BitVec 8))) (a c : Int) (ok : Bool) : Prop :=
  (ok = true ∧ ∃ i k : Nat, a = i ∧ c = k ∧ i < k ∧ k < ps.length ∧ BadP ps i k ∧ (∀ k' < k, ∀ i' < k', ¬ BadP ps i' k') ∧ ∀ i' < i, ¬ BadP ps i' k) ∨
  (ok = false ∧ a = 0 ∧ c = 0 ∧ ∀ k < ps.length, ∀ i < k, ¬ BadP ps i k)
theorem isClash_one {ps : List (List (BitVec 8))} {a c a' c' : Int} {ok ok' : Bool} (h : IsClash ps a c ok) (h' : IsClash ps a' c' ok') : a = a' ∧ c = c' ∧ ok = ok' := by
  rcases h with ⟨rfl, i, k, rfl, rfl, hik, hk, hb, h1, h2⟩ | ⟨rfl, rfl, rfl, h1⟩
  · rcases h' with ⟨rfl, i', k', rfl, rfl, hik', hk', hb', h1', h2'⟩ | ⟨_, _, _, h1'⟩
    · have e : k = k' := by
        rcases Nat.lt_trichotomy k k' with g | g | g
        · exact absurd hb (h1' k g i hik)
        · exact g
        · exact absurd hb' (h1 k' g i' hik')
      subst e
      have e : i = i' := by
        rcases Nat.lt_trichotomy i i' with g | g | g
        · exact absurd hb (h2' i g)
        · exact g
        · exact absurd hb' (h2 i' g)
      subst e
      exact ⟨rfl, rfl, rfl⟩
    · exact absurd hb (h1' k hk i hik)
  · rcases h' with ⟨_, i', k', _, _, hik', hk', hb', _, _⟩ | ⟨rfl, rfl, rfl, _⟩
    · exact absurd hb' (h1 k' hk' i' hik')
    · exact ⟨rfl, rfl, rfl⟩
/-- How Clash ends. -/
def ClashEnd (ps : List (List (BitVec 8))) (w : World) (e : Ending) (w' : World) : Prop := ∃ (a c : Int) (ok : Bool), e = .returned (.tuple #[.int .i64 a, .int .i64 c, .bool ok]) ∧ IsClash ps a c ok ∧ Below w.heap.size w w'
/-- The digests as cells. -/
def dgs (ps : List (List (BitVec 8))) : List Value := ps.flatMap fun p => u8s (digestOf p)
theorem dgs_len (ps : List (List (BitVec 8))) : (dgs ps).length = ps.length * 32 := by
  induction ps with
  | nil => rfl
  | cons p ps ih => rw [show dgs (p :: ps) = u8s (digestOf p) ++ dgs ps from rfl, List.length_append, ih, u8s_length, digestOf_length]; simp; omega
theorem dgs_snoc (ps : List (List (BitVec 8))) (p : List (BitVec 8)) : dgs (ps ++ [p]) = dgs ps ++ u8s (digestOf p) := by simp [dgs, List.flatMap_append]
theorem dgs_one (ps : List (List (BitVec 8))) : ∀ u ∈ dgs ps, u.oneCell' = true := by
  intro u hu
  obtain ⟨p, _, hp⟩ := List.mem_flatMap.1 hu
  exact u8s_cells _ _ hp
theorem dgs_at : ∀ (ps : List (List (BitVec 8))) (i j : Nat), i < ps.length → j < 32 → (dgs ps)[32 * i + j]? = (u8s (digestOf (ps.getD i [])))[j]?
  | [], i, j, hi, _ => by simp at hi
  | p :: ps, 0, j, _, hj => by
    rw [show dgs (p :: ps) = u8s (digestOf p) ++ dgs ps from rfl, List.getElem?_append_left (by rw [u8s_length, digestOf_length]; omega), Nat.mul_zero, Nat.zero_add]
    rfl
  | p :: ps, i + 1, j, hi, hj => by
    rw [show dgs (p :: ps) = u8s (digestOf p) ++ dgs ps from rfl, List.getElem?_append_right (by rw [u8s_length, digestOf_length]; omega)]
    rw [show 32 * (i + 1) + j - (u8s (digestOf p)).length = 32 * i + j by rw [u8s_length, digestOf_length]; omega, dgs_at ps i j (by simpa using hi) hj]
    rfl
theorem dg_range {F : Foot} {w : World} {n cap : Nat} {a : Option Addr} {ps : List (List (BitVec 8))} (h : SlR F w 32 (.slice a n cap) n (dgs ps)) (hn : n = ps.length) {i : Nat} (hi : i < n) :
    ∃ b o, a = some ⟨b, o, none⟩ ∧ b < w.heap.size ∧ w.rangeAt b (o + i * 32) (u8s (digestOf (ps.getD i []))) := by
  obtain ⟨b, o, e, hF, hc⟩ := slR_at h hi
  refine ⟨b, o, e, ?_, fun j v hv => ?_⟩
  · obtain ⟨_, a', cap', e', _, hr⟩ := h
    injection e' with e1 _ _
    obtain ⟨b', o', ea, _, hlt, _⟩ := hr (by omega)
    rw [e, ea] at e1
    have : b = b' := by simpa using congrArg (fun x : Option Addr => (x.map (·.block)).getD 0) e1
    rw [this]; exact hlt
  · have hj : j < 32 := by have := (List.getElem?_eq_some_iff.1 hv).1; rw [u8s_length, digestOf_length] at this; exact this
    have := hc j hj
    rw [dgs_at ps i j (by omega) hj] at this
    rw [show o + i * 32 + j = o + (32 * i + j) by omega, this, ← hv]
theorem sls_at {w : World} {a : Option Addr} {n cap : Nat} {ps : List (List (BitVec 8))} (h : Sls w (.slice a n cap) ps) {i : Nat} (hi : i < ps.length) :
    ∃ pb po vi, a = some ⟨pb, po, none⟩ ∧ pb < w.heap.size ∧ w.cell? ⟨pb, po + i, none⟩ = some vi ∧ Sl w vi (ps.getD i []) := by
  obtain ⟨a', cap', e, _, hr⟩ := h
  injection e with e1 _ _
  obtain ⟨pb, po, ea, hlt, hc⟩ := hr (by intro e; rw [e] at hi; simp at hi)
  obtain ⟨vi, h1, h2⟩ := hc i hi
  exact ⟨pb, po, vi, by rw [e1]; exact ea, hlt, h1, h2⟩
theorem elemDg : elemR Tryd.prog 82 22 (.agg Z32) 32 32 := by
  refine ⟨Tryd.underlying82, ?_⟩
  kernel_rfl
theorem built_dg (dg : List (BitVec 8)) (h : dg.length = 32) : Tryd.prog.builtSlice 22 1 [(0, .agg (u8s dg).toArray)] = some (u8s dg).toArray := by
  match dg, h with
  | [a0, a1, a2, a3, a4, a5, a6, a7, a8, a9, a10, a11, a12, a13, a14, a15, a16, a17, a18, a19, a20, a21, a22, a23, a24, a25, a26, a27, a28, a29, a30, a31], _ => show Program.builtSlice _ _ _ _ = some _; kernel_rfl
theorem infoSlB : (Tryd.prog.info? 26).map (·.size) = some 1 := by kernel_rfl
theorem badP_dec (ps : List (List (BitVec 8))) (i k : Nat) : (digestOf (ps.getD i []) == digestOf (ps.getD k [])) = true → sameB (ps.getD i []) (ps.getD k []) = false → BadP ps i k := by
  intro h1 h2
  refine ⟨by simpa using h1, fun e => ?_⟩
  rw [e, sameB_self] at h2
  cases h2
theorem goodP_dec (ps : List (List (BitVec 8))) (q k : Nat) : (digestOf (ps.getD q []) == digestOf (ps.getD k [])) = false ∨ sameB (ps.getD q []) (ps.getD k []) = true → ¬ BadP ps q k := by
  rintro (h | h) ⟨h1, h2⟩
  · rw [h1] at h
    generalize digestOf (ps.getD k []) = D at h
    simp at h
  · exact h2 (by simpa [sameB] using h)
end Sha
end Go.Proofs.YtmfgimkopddcgaaDoor
namespace Go.Proofs.YtmfgimkopddcgaaDoor
namespace Sha
open Go.RowKit Mem
set_option maxRecDepth 100000 in
set_option maxHeartbeats 8000000 in
theorem rclash_any (ps : List (List (BitVec 8))) (v : Value) (w : World) (hv : Sls w v ps) (hn : ps.length ≤ 1000) (hl : ∀ p ∈ ps, p.length ≤ 1000000) :
    Calls Tryd.prog 26 #[v] w (ClashEnd ps w) := by
  have hv0 := hv
  obtain ⟨a0, cap0, rfl, _, _⟩ := hv0
  obtain ⟨n, hnn⟩ : ∃ n, n = ps.length := ⟨_, rfl⟩
  rw [← hnn] at hv hn ⊢
  have HV := Lib.hid hv; have HL := Lib.hid hl; have HN := Lib.hid hnn
  clear hv hl hnn
  go_enter Tryd.func26, Tryd.ntmps26
  go_wp2_with fail
  go_loopw [5, 6] (fun u i wr => ∃ j : Nat, j ≤ n ∧ i = .int .i64 j ∧ ∃ u', u' = u ∧ wr.ownsRow w.heap.size 22 32 u' j (dgs (ps.take j)) ∧ Below w.heap.size w wr) (fun _ i _ => n - (intOf i).toNat)
  case atStart => exact ⟨0, by omega, rfl, _, rfl, ownsRow_nil0 _ _ _ _, Below.refl _ _⟩
  case round =>
    obtain ⟨j, hj, rfl, u, rfl, ho, hb⟩ := hrel
    by_cases hlt : j < n
    · have hlt' : (j : Int) < (n : Int) := by omega
      have hps : j < ps.length := by rw [← HN.out]; exact hlt
      obtain ⟨pb, po, vi, rfl, hpb, hcell, hsl⟩ := sls_at (HV.out.below hb) hps
      have hpm : ps.getD j [] ∈ ps := by rw [List.getD_eq_getElem?_getD, List.getElem?_eq_getElem hps]; exact List.getElem_mem _
      have hpl := HL.out _ hpm
      have htk : dgs (ps.take (j + 1)) = dgs (ps.take j) ++ u8s (digestOf (ps.getD j [])) := by
        rw [List.take_add_one, List.getElem?_eq_getElem hps, List.getD_eq_getElem?_getD, List.getElem?_eq_getElem hps]
        exact dgs_snoc _ _
      obtain ⟨p, hp⟩ : ∃ p, p = ps.getD j [] := ⟨_, rfl⟩
      rw [← hp] at hsl hpl htk
      obtain ⟨a1, c1, rfl⟩ := sl_inv hsl
      obtain ⟨m, hm⟩ : ∃ m, m = p.length := ⟨_, rfl⟩
      have hsm := fun wx (h : Sl wx (.slice a1 p.length c1) p) => rsum_any p _ wx h (by omega)
      rw [← hm] at hcell hsl hsm
      have bd := built_dg (digestOf p) (digestOf_length p)
      obtain ⟨D, hD⟩ : ∃ D, D = (u8s (digestOf p)).toArray := ⟨_, rfl⟩
      have hDg : dgOf p = D := by rw [hD]; rfl
      rw [hDg] at hsm
      rw [← hD] at bd
      have hDl : D.toList = u8s (digestOf p) := by rw [hD]
      have hDs : D.size = 32 := by rw [hD]; simp [u8s_length, digestOf_length]
      have hDo : ∀ x ∈ D.toList, x.oneCell' = true := by rw [hDl]; exact u8s_cells _
      have TK : Hid (dgs (ps.take (j + 1)) = dgs (ps.take j) ++ D.toList) := Lib.hid (by rw [htk, hDl])
      have SM := Lib.hid hsm; have BD := Lib.hid bd; have SL := Lib.hid hsl; have OW := Lib.hid ho; have BB := Lib.hid hb; have DS := Lib.hid hDs; have DO := Lib.hid hDo
      have PB := Lib.hid hpb
      clear hsm bd hsl ho hb hDs hDo hDl hDg hD htk hp hpm hpl hm hpb hps
      go_wp2_with fail
      refine (SM.out wr SL.out).mono ?_
      rintro e w2 ⟨rfl, hb2⟩
      have OW2 := Lib.hid (ownsRow_below OW.out hb2); have B2 := Lib.hid (BB.out.trans (hb2.mono BB.out.size))
      have LB : Hid (Below w2.heap.size w2 (w2.alloc (.cells D 22))) := Lib.hid ((Below.refl _ _).alloc (Nat.le_refl _) _)
      have RD : Hid (RdR (w2.alloc (.cells D 22)) 32 (.slice (some ⟨w2.heap.size, 0, none⟩) 1 1) 1 D.toList) := Lib.hid (by have h := rdR_new (w := w2) (e := 22) (C := D); rw [DS.out] at h; exact h)
      have OW3 := Lib.hid (ownsRow_below OW2.out LB.out)
      have B3 := Lib.hid (B2.out.trans (LB.out.mono B2.out.size))
      clear hb2 OW BB SM SL hcell
      go_wp2_with (first
        | ((refine Go.Great.wpList_buildSliceTo (by rfl) 82 22 1 _ (by rfl) _ (by rfl) _ (by rfl) Tryd.underlying82 D (by simpa [Act.eval] using BD.out) ?_))
        | (at_builtin; go_loud (refine wpList_append_app (by rfl) _ _ 82 (by rfl) (.slice (some ⟨w2.heap.size, 0, none⟩) 1 1) j 1 32 D.toList (.agg Z32) 32 elemDg (by rfl) (by decide) (by rfl) OW3.out (by rfl) RD.out DO.out (by omega) (by omega) B3.out.size ?_); intro v5 w5 ho5 ha5 hb5; have O5 := Lib.hid ho5; have B5 := Lib.hid (B3.out.trans hb5); clear ho5 ha5 hb5))
      go_roundw
      case rel => exact ⟨j + 1, by omega, by go_num, v5, rfl, by rw [TK.out]; exact O5.out, B5.out⟩
      case measure => simp [intOf]; omega
    · have hj2 : j = n := by omega
      have hge : ¬ (j : Int) < (n : Int) := by omega
      subst hj2
      obtain ⟨wb, hwb⟩ : ∃ wb, wb = wr := ⟨_, rfl⟩
      subst hwb
      rw [List.take_of_length_le (by rw [← HN.out]; exact Nat.le_refl _)] at ho
      obtain ⟨a3, c3, rfl⟩ := rows_hd ho
      have SR := Lib.hid (ownsRow_slR ho); have BB := Lib.hid hb
      have HV2 := Lib.hid (HV.out.below hb)
      clear ho hb hlt hj
      go_wp2_with fail
      go_loopw [7] (fun i wx => ∃ k : Nat, k ≤ j ∧ i = .int .i64 k ∧ Below wb.heap.size wb wx ∧ ∀ k' < k, ∀ i' < k', ¬ BadP ps i' k') (fun i _ => j - (intOf i).toNat)
      case atStart => exact ⟨0, by omega, rfl, Below.refl _ _, fun k' hk' => by omega⟩
      case round =>
        obtain ⟨k, hk, rfl, hb, hno⟩ := hrel
        by_cases hlt : k < j
        · have hlt' : (k : Int) < (j : Int) := by omega
          have NO := Lib.hid hno
          clear hno hge
          go_wp2_with fail
          go_loopw [8] (fun i wx => ∃ q : Nat, q ≤ k ∧ i = .int .i64 q ∧ Below wb.heap.size wb wx ∧ ∀ i' < q, ¬ BadP ps i' k) (fun i _ => k - (intOf i).toNat)
          case atStart => exact ⟨0, by omega, rfl, hb, fun i' hi' => by omega⟩
          case round =>
            clear hb
            obtain ⟨q, hq, rfl, hb, hno⟩ := hrel
            by_cases hqk : q < k
            · have hqk' : (q : Int) < (k : Int) := by omega
              have hqj : q < j := by omega
              obtain ⟨b2, o2, e2, hb2, hr1⟩ := dg_range (SR.out.below hb) HN.out hqj
              obtain ⟨b2', o2', e2', _, hr2⟩ := dg_range (SR.out.below hb) HN.out hlt
              have e3 : b2 = b2' ∧ o2 = o2' := by rw [e2] at e2'; simpa using e2'
              obtain ⟨rfl, rfl⟩ := e3
              clear e2'
              obtain ⟨pb, po, v1, ea, hpb, hc1, hs1⟩ := sls_at (HV2.out.below hb) (i := q) (by rw [← HN.out]; exact hqj)
              obtain ⟨pb', po', v2, ea', _, hc2, hs2⟩ := sls_at (HV2.out.below hb) (i := k) (by rw [← HN.out]; exact hlt)
              have e4 : pb = pb' ∧ po = po' := by rw [ea] at ea'; simpa using ea'
              obtain ⟨rfl, rfl⟩ := e4
              clear ea'
              subst e2; subst ea
              have hm1 := HL.out (ps.getD q []) (by rw [List.getD_eq_getElem?_getD, List.getElem?_eq_getElem (by rw [← HN.out]; exact hqj)]; exact List.getElem_mem _)
              have hm2 := HL.out (ps.getD k []) (by rw [List.getD_eq_getElem?_getD, List.getElem?_eq_getElem (by rw [← HN.out]; exact hlt)]; exact List.getElem_mem _)
              have hbad := badP_dec ps q k
              have hgood := goodP_dec ps q k
              obtain ⟨p1, hp1⟩ : ∃ p1, p1 = ps.getD q [] := ⟨_, rfl⟩
              obtain ⟨p2, hp2⟩ : ∃ p2, p2 = ps.getD k [] := ⟨_, rfl⟩
              rw [← hp1] at hs1 hr1 hm1 hbad hgood
              rw [← hp2] at hs2 hr2 hm2 hbad hgood
              clear hp1 hp2
              have heq := fun (x y : Operand) wx => eqlDg (digestOf p1) (digestOf p2) (digestOf_length p1) (digestOf_length p2) x y wx
              have hsame := fun wx (h1 : Sl wx v1 p1) (h2 : Sl wx v2 p2) => same_any p1 p2 v1 v2 wx h1 h2 (by omega) (by omega)
              obtain ⟨D1, hD1, hl1⟩ : ∃ D1, D1 = digestOf p1 ∧ D1.length = 32 := ⟨_, rfl, digestOf_length p1⟩
              obtain ⟨D2, hD2, hl2⟩ : ∃ D2, D2 = digestOf p2 ∧ D2.length = 32 := ⟨_, rfl, digestOf_length p2⟩
              rw [← hD1] at hr1 heq hbad hgood
              rw [← hD2] at hr2 heq hbad hgood
              clear hD1 hD2
              obtain ⟨d1, hd1⟩ : ∃ d1, d1 = (u8s D1).toArray := ⟨_, rfl⟩
              obtain ⟨d2, hd2⟩ : ∃ d2, d2 = (u8s D2).toArray := ⟨_, rfl⟩
              have hz1 : d1.size = 32 := by rw [hd1]; simp [u8s_length, hl1]
              have hz2 : d2.size = 32 := by rw [hd2]; simp [u8s_length, hl2]
              have hr1 : wr.rangeAt b2 (o2 + q * 32) d1.toList := by rw [hd1]; exact hr1
              have hr2 : wr.rangeAt b2 (o2 + k * 32) d2.toList := by rw [hd2]; exact hr2
              rw [← hd1, ← hd2] at heq
              obtain ⟨eqd, heqd⟩ : ∃ t : Bool, t = (D1 == D2) := ⟨_, rfl⟩
              obtain ⟨sm, hsmm⟩ : ∃ t : Bool, t = sameB p1 p2 := ⟨_, rfl⟩
              rw [← heqd] at heq hbad hgood
              rw [← hsmm] at hsame hbad hgood
              have C1 := Lib.hid hc1; have C2 := Lib.hid hc2; have R1 := Lib.hid hr1; have R2 := Lib.hid hr2; have EQ := Lib.hid heq; have SAME := Lib.hid hsame; have BAD := Lib.hid hbad; have GOOD := Lib.hid hgood; have Z1 := Lib.hid hz1; have Z2 := Lib.hid hz2; have S1 := Lib.hid hs1; have S2 := Lib.hid hs2; have BB2 := Lib.hid hb; have NO2 := Lib.hid hno; have PBL := Lib.hid hpb; have B2L := Lib.hid hb2
              clear hl1 hl2 hr1 hr2 heq hsame hbad hgood hd1 hd2 hz1 hz2 heqd hsmm hs1 hs2 hc1 hc2 hb hno hm1 hm2 hpb hb2
              have DR : Hid (Below wr.heap.size wr wr.drew) := Lib.hid (Below.refl _ _).drew
              cases eqd
              · go_wp2_with fail
                refine wp_region_plan_in (fun x => Below wr.heap.size wr x) (.take 0 (.take 1 (.take 2 (.take 3 (.take 4 (.take 5 (.take 6 (.take 7 (.take 8 (.take 9 (.take 10 (.take 11 (.take 12 (.take 13 (.take 14 (.take 15 (.take 16 (.take 17 (.sole 18 (.take 19 (.take 20 .done))))))))))))))))))))) (by kernel_rfl) (by kernel_rfl) (by kernel_rfl) DR.out ?_
                (first | (refine plan_move _ _ (by rfl) (by rfl) (.inl (by rfl)) (by first | (with_reducible exact Mem.ev_const _ _) | (with_reducible exact Mem.ev_zero _ _ _) | (with_reducible (apply Eq.trans (Mem.ev_tmp _ _ _)); simp only [List.getD_cons_succ, List.getD_cons_zero] <;> rfl)) ?_) | (refine plan_move _ _ (by rfl) (by rfl) (.inr (by rfl)) (by first | (with_reducible exact Mem.ev_const _ _) | (with_reducible exact Mem.ev_zero _ _ _) | (with_reducible (apply Eq.trans (Mem.ev_tmp _ _ _)); simp only [List.getD_cons_succ, List.getD_cons_zero] <;> rfl)) ?_) | (refine plan_pick_t _ _ _ _ (by rfl) (by rfl) (by rfl) (by first | (with_reducible exact Mem.ev_const _ _) | (with_reducible exact Mem.ev_zero _ _ _) | (with_reducible (apply Eq.trans (Mem.ev_tmp _ _ _)); simp only [List.getD_cons_succ, List.getD_cons_zero] <;> rfl)) (by first | (with_reducible exact Mem.ev_const _ _) | (with_reducible exact Mem.ev_zero _ _ _) | (with_reducible (apply Eq.trans (Mem.ev_tmp _ _ _)); simp only [List.getD_cons_succ, List.getD_cons_zero] <;> rfl)) ?_) | (refine plan_pick_f _ _ _ _ (by rfl) (by rfl) (by rfl) (by first | (with_reducible exact Mem.ev_const _ _) | (with_reducible exact Mem.ev_zero _ _ _) | (with_reducible (apply Eq.trans (Mem.ev_tmp _ _ _)); simp only [List.getD_cons_succ, List.getD_cons_zero] <;> rfl)) (by first | (with_reducible exact Mem.ev_const _ _) | (with_reducible exact Mem.ev_zero _ _ _) | (with_reducible (apply Eq.trans (Mem.ev_tmp _ _ _)); simp only [List.getD_cons_succ, List.getD_cons_zero] <;> rfl)) ?_))
                (simp only [Act.put, List.setIfInBounds_toArray, List.set_cons_zero, List.set_cons_succ])
                (first | (refine plan_move _ _ (by rfl) (by rfl) (.inl (by rfl)) (by first | (with_reducible exact Mem.ev_const _ _) | (with_reducible exact Mem.ev_zero _ _ _) | (with_reducible (apply Eq.trans (Mem.ev_tmp _ _ _)); simp only [List.getD_cons_succ, List.getD_cons_zero] <;> rfl)) ?_) | (refine plan_move _ _ (by rfl) (by rfl) (.inr (by rfl)) (by first | (with_reducible exact Mem.ev_const _ _) | (with_reducible exact Mem.ev_zero _ _ _) | (with_reducible (apply Eq.trans (Mem.ev_tmp _ _ _)); simp only [List.getD_cons_succ, List.getD_cons_zero] <;> rfl)) ?_) | (refine plan_pick_t _ _ _ _ (by rfl) (by rfl) (by rfl) (by first | (with_reducible exact Mem.ev_const _ _) | (with_reducible exact Mem.ev_zero _ _ _) | (with_reducible (apply Eq.trans (Mem.ev_tmp _ _ _)); simp only [List.getD_cons_succ, List.getD_cons_zero] <;> rfl)) (by first | (with_reducible exact Mem.ev_const _ _) | (with_reducible exact Mem.ev_zero _ _ _) | (with_reducible (apply Eq.trans (Mem.ev_tmp _ _ _)); simp only [List.getD_cons_succ, List.getD_cons_zero] <;> rfl)) ?_) | (refine plan_pick_f _ _ _ _ (by rfl) (by rfl) (by rfl) (by first | (with_reducible exact Mem.ev_const _ _) | (with_reducible exact Mem.ev_zero _ _ _) | (with_reducible (apply Eq.trans (Mem.ev_tmp _ _ _)); simp only [List.getD_cons_succ, List.getD_cons_zero] <;> rfl)) (by first | (with_reducible exact Mem.ev_const _ _) | (with_reducible exact Mem.ev_zero _ _ _) | (with_reducible (apply Eq.trans (Mem.ev_tmp _ _ _)); simp only [List.getD_cons_succ, List.getD_cons_zero] <;> rfl)) ?_))
                (simp only [Act.put, List.setIfInBounds_toArray, List.set_cons_zero, List.set_cons_succ])
                refine plan_index_z 82 22 _ _ b2 o2 j c3 32 q (by rfl) (by rfl) (by rfl) (by first | (with_reducible exact Mem.ev_const _ _) | (with_reducible exact Mem.ev_zero _ _ _) | (with_reducible (apply Eq.trans (Mem.ev_tmp _ _ _)); simp only [List.getD_cons_succ, List.getD_cons_zero] <;> rfl)) (by first | (with_reducible exact Mem.ev_const _ _) | (with_reducible exact Mem.ev_zero _ _ _) | (with_reducible (apply Eq.trans (Mem.ev_tmp _ _ _)); simp only [List.getD_cons_succ, List.getD_cons_zero] <;> rfl)) (by omega) Tryd.underlying82 (by kernel_rfl) ?_
                (simp only [Act.put, List.setIfInBounds_toArray, List.set_cons_zero, List.set_cons_succ])
                refine plan_load_range 22 _ b2 (o2 + q * 32) _ d1 (by rfl) (by rfl) (by rfl) (by first | (with_reducible exact Mem.ev_const _ _) | (with_reducible exact Mem.ev_zero _ _ _) | (with_reducible (apply Eq.trans (Mem.ev_tmp _ _ _)); simp only [List.getD_cons_succ, List.getD_cons_zero] <;> rfl)) (fun w' hw' z9 u hu => (hw'.cell (p := ⟨b2, o2 + q * 32 + z9, none⟩) B2L.out).trans (R1.out z9 u hu)) Tryd.underlying22 (by rfl) (by rw [Z1.out]; exact infoDg) ?_
                (simp only [Act.put, List.setIfInBounds_toArray, List.set_cons_zero, List.set_cons_succ])
                (first | (refine plan_move _ _ (by rfl) (by rfl) (.inl (by rfl)) (by first | (with_reducible exact Mem.ev_const _ _) | (with_reducible exact Mem.ev_zero _ _ _) | (with_reducible (apply Eq.trans (Mem.ev_tmp _ _ _)); simp only [List.getD_cons_succ, List.getD_cons_zero] <;> rfl)) ?_) | (refine plan_move _ _ (by rfl) (by rfl) (.inr (by rfl)) (by first | (with_reducible exact Mem.ev_const _ _) | (with_reducible exact Mem.ev_zero _ _ _) | (with_reducible (apply Eq.trans (Mem.ev_tmp _ _ _)); simp only [List.getD_cons_succ, List.getD_cons_zero] <;> rfl)) ?_) | (refine plan_pick_t _ _ _ _ (by rfl) (by rfl) (by rfl) (by first | (with_reducible exact Mem.ev_const _ _) | (with_reducible exact Mem.ev_zero _ _ _) | (with_reducible (apply Eq.trans (Mem.ev_tmp _ _ _)); simp only [List.getD_cons_succ, List.getD_cons_zero] <;> rfl)) (by first | (with_reducible exact Mem.ev_const _ _) | (with_reducible exact Mem.ev_zero _ _ _) | (with_reducible (apply Eq.trans (Mem.ev_tmp _ _ _)); simp only [List.getD_cons_succ, List.getD_cons_zero] <;> rfl)) ?_) | (refine plan_pick_f _ _ _ _ (by rfl) (by rfl) (by rfl) (by first | (with_reducible exact Mem.ev_const _ _) | (with_reducible exact Mem.ev_zero _ _ _) | (with_reducible (apply Eq.trans (Mem.ev_tmp _ _ _)); simp only [List.getD_cons_succ, List.getD_cons_zero] <;> rfl)) (by first | (with_reducible exact Mem.ev_const _ _) | (with_reducible exact Mem.ev_zero _ _ _) | (with_reducible (apply Eq.trans (Mem.ev_tmp _ _ _)); simp only [List.getD_cons_succ, List.getD_cons_zero] <;> rfl)) ?_))
                (simp only [Act.put, List.setIfInBounds_toArray, List.set_cons_zero, List.set_cons_succ])
                (first | (refine plan_move _ _ (by rfl) (by rfl) (.inl (by rfl)) (by first | (with_reducible exact Mem.ev_const _ _) | (with_reducible exact Mem.ev_zero _ _ _) | (with_reducible (apply Eq.trans (Mem.ev_tmp _ _ _)); simp only [List.getD_cons_succ, List.getD_cons_zero] <;> rfl)) ?_) | (refine plan_move _ _ (by rfl) (by rfl) (.inr (by rfl)) (by first | (with_reducible exact Mem.ev_const _ _) | (with_reducible exact Mem.ev_zero _ _ _) | (with_reducible (apply Eq.trans (Mem.ev_tmp _ _ _)); simp only [List.getD_cons_succ, List.getD_cons_zero] <;> rfl)) ?_) | (refine plan_pick_t _ _ _ _ (by rfl) (by rfl) (by rfl) (by first | (with_reducible exact Mem.ev_const _ _) | (with_reducible exact Mem.ev_zero _ _ _) | (with_reducible (apply Eq.trans (Mem.ev_tmp _ _ _)); simp only [List.getD_cons_succ, List.getD_cons_zero] <;> rfl)) (by first | (with_reducible exact Mem.ev_const _ _) | (with_reducible exact Mem.ev_zero _ _ _) | (with_reducible (apply Eq.trans (Mem.ev_tmp _ _ _)); simp only [List.getD_cons_succ, List.getD_cons_zero] <;> rfl)) ?_) | (refine plan_pick_f _ _ _ _ (by rfl) (by rfl) (by rfl) (by first | (with_reducible exact Mem.ev_const _ _) | (with_reducible exact Mem.ev_zero _ _ _) | (with_reducible (apply Eq.trans (Mem.ev_tmp _ _ _)); simp only [List.getD_cons_succ, List.getD_cons_zero] <;> rfl)) (by first | (with_reducible exact Mem.ev_const _ _) | (with_reducible exact Mem.ev_zero _ _ _) | (with_reducible (apply Eq.trans (Mem.ev_tmp _ _ _)); simp only [List.getD_cons_succ, List.getD_cons_zero] <;> rfl)) ?_))
                (simp only [Act.put, List.setIfInBounds_toArray, List.set_cons_zero, List.set_cons_succ])
                refine plan_index_z 82 22 _ _ b2 o2 j c3 32 k (by rfl) (by rfl) (by rfl) (by first | (with_reducible exact Mem.ev_const _ _) | (with_reducible exact Mem.ev_zero _ _ _) | (with_reducible (apply Eq.trans (Mem.ev_tmp _ _ _)); simp only [List.getD_cons_succ, List.getD_cons_zero] <;> rfl)) (by first | (with_reducible exact Mem.ev_const _ _) | (with_reducible exact Mem.ev_zero _ _ _) | (with_reducible (apply Eq.trans (Mem.ev_tmp _ _ _)); simp only [List.getD_cons_succ, List.getD_cons_zero] <;> rfl)) (by omega) Tryd.underlying82 (by kernel_rfl) ?_
                (simp only [Act.put, List.setIfInBounds_toArray, List.set_cons_zero, List.set_cons_succ])
                refine plan_load_range 22 _ b2 (o2 + k * 32) _ d2 (by rfl) (by rfl) (by rfl) (by first | (with_reducible exact Mem.ev_const _ _) | (with_reducible exact Mem.ev_zero _ _ _) | (with_reducible (apply Eq.trans (Mem.ev_tmp _ _ _)); simp only [List.getD_cons_succ, List.getD_cons_zero] <;> rfl)) (fun w' hw' z9 u hu => (hw'.cell (p := ⟨b2, o2 + k * 32 + z9, none⟩) B2L.out).trans (R2.out z9 u hu)) Tryd.underlying22 (by rfl) (by rw [Z2.out]; exact infoDg) ?_
                (simp only [Act.put, List.setIfInBounds_toArray, List.set_cons_zero, List.set_cons_succ])
                refine plan_bin _ _ _ _ _ _ _ (.bool false) (by rfl) (by rfl) (by rfl) (by first | (with_reducible exact Mem.ev_const _ _) | (with_reducible exact Mem.ev_zero _ _ _) | (with_reducible (apply Eq.trans (Mem.ev_tmp _ _ _)); simp only [List.getD_cons_succ, List.getD_cons_zero] <;> rfl)) (by first | (with_reducible exact Mem.ev_const _ _) | (with_reducible exact Mem.ev_zero _ _ _) | (with_reducible (apply Eq.trans (Mem.ev_tmp _ _ _)); simp only [List.getD_cons_succ, List.getD_cons_zero] <;> rfl)) (fun wx => EQ.out _ _ wx) ?_
                (simp only [Act.put, List.setIfInBounds_toArray, List.set_cons_zero, List.set_cons_succ])
                (first | (refine plan_move _ _ (by rfl) (by rfl) (.inl (by rfl)) (by first | (with_reducible exact Mem.ev_const _ _) | (with_reducible exact Mem.ev_zero _ _ _) | (with_reducible (apply Eq.trans (Mem.ev_tmp _ _ _)); simp only [List.getD_cons_succ, List.getD_cons_zero] <;> rfl)) ?_) | (refine plan_move _ _ (by rfl) (by rfl) (.inr (by rfl)) (by first | (with_reducible exact Mem.ev_const _ _) | (with_reducible exact Mem.ev_zero _ _ _) | (with_reducible (apply Eq.trans (Mem.ev_tmp _ _ _)); simp only [List.getD_cons_succ, List.getD_cons_zero] <;> rfl)) ?_) | (refine plan_pick_t _ _ _ _ (by rfl) (by rfl) (by rfl) (by first | (with_reducible exact Mem.ev_const _ _) | (with_reducible exact Mem.ev_zero _ _ _) | (with_reducible (apply Eq.trans (Mem.ev_tmp _ _ _)); simp only [List.getD_cons_succ, List.getD_cons_zero] <;> rfl)) (by first | (with_reducible exact Mem.ev_const _ _) | (with_reducible exact Mem.ev_zero _ _ _) | (with_reducible (apply Eq.trans (Mem.ev_tmp _ _ _)); simp only [List.getD_cons_succ, List.getD_cons_zero] <;> rfl)) ?_) | (refine plan_pick_f _ _ _ _ (by rfl) (by rfl) (by rfl) (by first | (with_reducible exact Mem.ev_const _ _) | (with_reducible exact Mem.ev_zero _ _ _) | (with_reducible (apply Eq.trans (Mem.ev_tmp _ _ _)); simp only [List.getD_cons_succ, List.getD_cons_zero] <;> rfl)) (by first | (with_reducible exact Mem.ev_const _ _) | (with_reducible exact Mem.ev_zero _ _ _) | (with_reducible (apply Eq.trans (Mem.ev_tmp _ _ _)); simp only [List.getD_cons_succ, List.getD_cons_zero] <;> rfl)) ?_))
                (simp only [Act.put, List.setIfInBounds_toArray, List.set_cons_zero, List.set_cons_succ])
                refine plan_skip (by rfl) (by rfl) ?_
                (simp only [Act.put, List.setIfInBounds_toArray, List.set_cons_zero, List.set_cons_succ])
                refine plan_skip (by rfl) (by rfl) ?_
                (simp only [Act.put, List.setIfInBounds_toArray, List.set_cons_zero, List.set_cons_succ])
                refine plan_skip (by rfl) (by rfl) ?_
                (simp only [Act.put, List.setIfInBounds_toArray, List.set_cons_zero, List.set_cons_succ])
                refine plan_skip (by rfl) (by rfl) ?_
                (simp only [Act.put, List.setIfInBounds_toArray, List.set_cons_zero, List.set_cons_succ])
                refine plan_skip (by rfl) (by rfl) ?_
                (simp only [Act.put, List.setIfInBounds_toArray, List.set_cons_zero, List.set_cons_succ])
                refine plan_skip (by rfl) (by rfl) ?_
                (simp only [Act.put, List.setIfInBounds_toArray, List.set_cons_zero, List.set_cons_succ])
                refine plan_skip (by rfl) (by rfl) ?_
                (simp only [Act.put, List.setIfInBounds_toArray, List.set_cons_zero, List.set_cons_succ])
                refine plan_skip (by rfl) (by rfl) ?_
                (simp only [Act.put, List.setIfInBounds_toArray, List.set_cons_zero, List.set_cons_succ])
                refine plan_sole_skip (by rfl) (by rfl) DR.out ?_
                (simp only [Act.put, List.setIfInBounds_toArray, List.set_cons_zero, List.set_cons_succ])
                refine plan_skip (by rfl) (by rfl) ?_
                (simp only [Act.put, List.setIfInBounds_toArray, List.set_cons_zero, List.set_cons_succ])
                refine plan_pick_f _ _ _ _ (by rfl) (by rfl) (by rfl) (by first | (with_reducible exact Mem.ev_const _ _) | (with_reducible exact Mem.ev_zero _ _ _) | (with_reducible (apply Eq.trans (Mem.ev_tmp _ _ _)); simp only [List.getD_cons_succ, List.getD_cons_zero] <;> rfl)) (by first | (with_reducible exact Mem.ev_const _ _) | (with_reducible exact Mem.ev_zero _ _ _) | (with_reducible (apply Eq.trans (Mem.ev_tmp _ _ _)); simp only [List.getD_cons_succ, List.getD_cons_zero] <;> rfl)) ?_
                (simp only [Act.put, List.setIfInBounds_toArray, List.set_cons_zero, List.set_cons_succ])
                refine plan_nil ?_
                go_wp2_with fail
                go_roundw
                case rel => exact ⟨q + 1, by omega, by go_num, BB2.out.drew, fun i' hi' => by
                  rcases Nat.lt_or_ge i' q with g | g
                  · exact NO2.out i' g
                  · have : i' = q := by omega
                    subst this; exact GOOD.out (by simp)⟩
                case measure => simp [intOf]; omega
              · cases sm
                · go_wp2_with fail
                  refine wp_region_plan_in (fun x => Below wr.heap.size wr x) (.take 0 (.take 1 (.take 2 (.take 3 (.take 4 (.take 5 (.take 6 (.take 7 (.take 8 (.take 9 (.take 10 (.take 11 (.take 12 (.take 13 (.take 14 (.take 15 (.take 16 (.take 17 (.sole 18 (.take 19 (.take 20 .done))))))))))))))))))))) (by kernel_rfl) (by kernel_rfl) (by kernel_rfl) DR.out ?_
                  (first | (refine plan_move _ _ (by rfl) (by rfl) (.inl (by rfl)) (by first | (with_reducible exact Mem.ev_const _ _) | (with_reducible exact Mem.ev_zero _ _ _) | (with_reducible (apply Eq.trans (Mem.ev_tmp _ _ _)); simp only [List.getD_cons_succ, List.getD_cons_zero] <;> rfl)) ?_) | (refine plan_move _ _ (by rfl) (by rfl) (.inr (by rfl)) (by first | (with_reducible exact Mem.ev_const _ _) | (with_reducible exact Mem.ev_zero _ _ _) | (with_reducible (apply Eq.trans (Mem.ev_tmp _ _ _)); simp only [List.getD_cons_succ, List.getD_cons_zero] <;> rfl)) ?_) | (refine plan_pick_t _ _ _ _ (by rfl) (by rfl) (by rfl) (by first | (with_reducible exact Mem.ev_const _ _) | (with_reducible exact Mem.ev_zero _ _ _) | (with_reducible (apply Eq.trans (Mem.ev_tmp _ _ _)); simp only [List.getD_cons_succ, List.getD_cons_zero] <;> rfl)) (by first | (with_reducible exact Mem.ev_const _ _) | (with_reducible exact Mem.ev_zero _ _ _) | (with_reducible (apply Eq.trans (Mem.ev_tmp _ _ _)); simp only [List.getD_cons_succ, List.getD_cons_zero] <;> rfl)) ?_) | (refine plan_pick_f _ _ _ _ (by rfl) (by rfl) (by rfl) (by first | (with_reducible exact Mem.ev_const _ _) | (with_reducible exact Mem.ev_zero _ _ _) | (with_reducible (apply Eq.trans (Mem.ev_tmp _ _ _)); simp only [List.getD_cons_succ, List.getD_cons_zero] <;> rfl)) (by first | (with_reducible exact Mem.ev_const _ _) | (with_reducible exact Mem.ev_zero _ _ _) | (with_reducible (apply Eq.trans (Mem.ev_tmp _ _ _)); simp only [List.getD_cons_succ, List.getD_cons_zero] <;> rfl)) ?_))
                  (simp only [Act.put, List.setIfInBounds_toArray, List.set_cons_zero, List.set_cons_succ])
                  (first | (refine plan_move _ _ (by rfl) (by rfl) (.inl (by rfl)) (by first | (with_reducible exact Mem.ev_const _ _) | (with_reducible exact Mem.ev_zero _ _ _) | (with_reducible (apply Eq.trans (Mem.ev_tmp _ _ _)); simp only [List.getD_cons_succ, List.getD_cons_zero] <;> rfl)) ?_) | (refine plan_move _ _ (by rfl) (by rfl) (.inr (by rfl)) (by first | (with_reducible exact Mem.ev_const _ _) | (with_reducible exact Mem.ev_zero _ _ _) | (with_reducible (apply Eq.trans (Mem.ev_tmp _ _ _)); simp only [List.getD_cons_succ, List.getD_cons_zero] <;> rfl)) ?_) | (refine plan_pick_t _ _ _ _ (by rfl) (by rfl) (by rfl) (by first | (with_reducible exact Mem.ev_const _ _) | (with_reducible exact Mem.ev_zero _ _ _) | (with_reducible (apply Eq.trans (Mem.ev_tmp _ _ _)); simp only [List.getD_cons_succ, List.getD_cons_zero] <;> rfl)) (by first | (with_reducible exact Mem.ev_const _ _) | (with_reducible exact Mem.ev_zero _ _ _) | (with_reducible (apply Eq.trans (Mem.ev_tmp _ _ _)); simp only [List.getD_cons_succ, List.getD_cons_zero] <;> rfl)) ?_) | (refine plan_pick_f _ _ _ _ (by rfl) (by rfl) (by rfl) (by first | (with_reducible exact Mem.ev_const _ _) | (with_reducible exact Mem.ev_zero _ _ _) | (with_reducible (apply Eq.trans (Mem.ev_tmp _ _ _)); simp only [List.getD_cons_succ, List.getD_cons_zero] <;> rfl)) (by first | (with_reducible exact Mem.ev_const _ _) | (with_reducible exact Mem.ev_zero _ _ _) | (with_reducible (apply Eq.trans (Mem.ev_tmp _ _ _)); simp only [List.getD_cons_succ, List.getD_cons_zero] <;> rfl)) ?_))
                  (simp only [Act.put, List.setIfInBounds_toArray, List.set_cons_zero, List.set_cons_succ])
                  refine plan_index_z 82 22 _ _ b2 o2 j c3 32 q (by rfl) (by rfl) (by rfl) (by first | (with_reducible exact Mem.ev_const _ _) | (with_reducible exact Mem.ev_zero _ _ _) | (with_reducible (apply Eq.trans (Mem.ev_tmp _ _ _)); simp only [List.getD_cons_succ, List.getD_cons_zero] <;> rfl)) (by first | (with_reducible exact Mem.ev_const _ _) | (with_reducible exact Mem.ev_zero _ _ _) | (with_reducible (apply Eq.trans (Mem.ev_tmp _ _ _)); simp only [List.getD_cons_succ, List.getD_cons_zero] <;> rfl)) (by omega) Tryd.underlying82 (by kernel_rfl) ?_
                  (simp only [Act.put, List.setIfInBounds_toArray, List.set_cons_zero, List.set_cons_succ])
                  refine plan_load_range 22 _ b2 (o2 + q * 32) _ d1 (by rfl) (by rfl) (by rfl) (by first | (with_reducible exact Mem.ev_const _ _) | (with_reducible exact Mem.ev_zero _ _ _) | (with_reducible (apply Eq.trans (Mem.ev_tmp _ _ _)); simp only [List.getD_cons_succ, List.getD_cons_zero] <;> rfl)) (fun w' hw' z9 u hu => (hw'.cell (p := ⟨b2, o2 + q * 32 + z9, none⟩) B2L.out).trans (R1.out z9 u hu)) Tryd.underlying22 (by rfl) (by rw [Z1.out]; exact infoDg) ?_
                  (simp only [Act.put, List.setIfInBounds_toArray, List.set_cons_zero, List.set_cons_succ])
                  (first | (refine plan_move _ _ (by rfl) (by rfl) (.inl (by rfl)) (by first | (with_reducible exact Mem.ev_const _ _) | (with_reducible exact Mem.ev_zero _ _ _) | (with_reducible (apply Eq.trans (Mem.ev_tmp _ _ _)); simp only [List.getD_cons_succ, List.getD_cons_zero] <;> rfl)) ?_) | (refine plan_move _ _ (by rfl) (by rfl) (.inr (by rfl)) (by first | (with_reducible exact Mem.ev_const _ _) | (with_reducible exact Mem.ev_zero _ _ _) | (with_reducible (apply Eq.trans (Mem.ev_tmp _ _ _)); simp only [List.getD_cons_succ, List.getD_cons_zero] <;> rfl)) ?_) | (refine plan_pick_t _ _ _ _ (by rfl) (by rfl) (by rfl) (by first | (with_reducible exact Mem.ev_const _ _) | (with_reducible exact Mem.ev_zero _ _ _) | (with_reducible (apply Eq.trans (Mem.ev_tmp _ _ _)); simp only [List.getD_cons_succ, List.getD_cons_zero] <;> rfl)) (by first | (with_reducible exact Mem.ev_const _ _) | (with_reducible exact Mem.ev_zero _ _ _) | (with_reducible (apply Eq.trans (Mem.ev_tmp _ _ _)); simp only [List.getD_cons_succ, List.getD_cons_zero] <;> rfl)) ?_) | (refine plan_pick_f _ _ _ _ (by rfl) (by rfl) (by rfl) (by first | (with_reducible exact Mem.ev_const _ _) | (with_reducible exact Mem.ev_zero _ _ _) | (with_reducible (apply Eq.trans (Mem.ev_tmp _ _ _)); simp only [List.getD_cons_succ, List.getD_cons_zero] <;> rfl)) (by first | (with_reducible exact Mem.ev_const _ _) | (with_reducible exact Mem.ev_zero _ _ _) | (with_reducible (apply Eq.trans (Mem.ev_tmp _ _ _)); simp only [List.getD_cons_succ, List.getD_cons_zero] <;> rfl)) ?_))
                  (simp only [Act.put, List.setIfInBounds_toArray, List.set_cons_zero, List.set_cons_succ])
                  (first | (refine plan_move _ _ (by rfl) (by rfl) (.inl (by rfl)) (by first | (with_reducible exact Mem.ev_const _ _) | (with_reducible exact Mem.ev_zero _ _ _) | (with_reducible (apply Eq.trans (Mem.ev_tmp _ _ _)); simp only [List.getD_cons_succ, List.getD_cons_zero] <;> rfl)) ?_) | (refine plan_move _ _ (by rfl) (by rfl) (.inr (by rfl)) (by first | (with_reducible exact Mem.ev_const _ _) | (with_reducible exact Mem.ev_zero _ _ _) | (with_reducible (apply Eq.trans (Mem.ev_tmp _ _ _)); simp only [List.getD_cons_succ, List.getD_cons_zero] <;> rfl)) ?_) | (refine plan_pick_t _ _ _ _ (by rfl) (by rfl) (by rfl) (by first | (with_reducible exact Mem.ev_const _ _) | (with_reducible exact Mem.ev_zero _ _ _) | (with_reducible (apply Eq.trans (Mem.ev_tmp _ _ _)); simp only [List.getD_cons_succ, List.getD_cons_zero] <;> rfl)) (by first | (with_reducible exact Mem.ev_const _ _) | (with_reducible exact Mem.ev_zero _ _ _) | (with_reducible (apply Eq.trans (Mem.ev_tmp _ _ _)); simp only [List.getD_cons_succ, List.getD_cons_zero] <;> rfl)) ?_) | (refine plan_pick_f _ _ _ _ (by rfl) (by rfl) (by rfl) (by first | (with_reducible exact Mem.ev_const _ _) | (with_reducible exact Mem.ev_zero _ _ _) | (with_reducible (apply Eq.trans (Mem.ev_tmp _ _ _)); simp only [List.getD_cons_succ, List.getD_cons_zero] <;> rfl)) (by first | (with_reducible exact Mem.ev_const _ _) | (with_reducible exact Mem.ev_zero _ _ _) | (with_reducible (apply Eq.trans (Mem.ev_tmp _ _ _)); simp only [List.getD_cons_succ, List.getD_cons_zero] <;> rfl)) ?_))
                  (simp only [Act.put, List.setIfInBounds_toArray, List.set_cons_zero, List.set_cons_succ])
                  refine plan_index_z 82 22 _ _ b2 o2 j c3 32 k (by rfl) (by rfl) (by rfl) (by first | (with_reducible exact Mem.ev_const _ _) | (with_reducible exact Mem.ev_zero _ _ _) | (with_reducible (apply Eq.trans (Mem.ev_tmp _ _ _)); simp only [List.getD_cons_succ, List.getD_cons_zero] <;> rfl)) (by first | (with_reducible exact Mem.ev_const _ _) | (with_reducible exact Mem.ev_zero _ _ _) | (with_reducible (apply Eq.trans (Mem.ev_tmp _ _ _)); simp only [List.getD_cons_succ, List.getD_cons_zero] <;> rfl)) (by omega) Tryd.underlying82 (by kernel_rfl) ?_
                  (simp only [Act.put, List.setIfInBounds_toArray, List.set_cons_zero, List.set_cons_succ])
                  refine plan_load_range 22 _ b2 (o2 + k * 32) _ d2 (by rfl) (by rfl) (by rfl) (by first | (with_reducible exact Mem.ev_const _ _) | (with_reducible exact Mem.ev_zero _ _ _) | (with_reducible (apply Eq.trans (Mem.ev_tmp _ _ _)); simp only [List.getD_cons_succ, List.getD_cons_zero] <;> rfl)) (fun w' hw' z9 u hu => (hw'.cell (p := ⟨b2, o2 + k * 32 + z9, none⟩) B2L.out).trans (R2.out z9 u hu)) Tryd.underlying22 (by rfl) (by rw [Z2.out]; exact infoDg) ?_
                  (simp only [Act.put, List.setIfInBounds_toArray, List.set_cons_zero, List.set_cons_succ])
                  refine plan_bin _ _ _ _ _ _ _ (.bool true) (by rfl) (by rfl) (by rfl) (by first | (with_reducible exact Mem.ev_const _ _) | (with_reducible exact Mem.ev_zero _ _ _) | (with_reducible (apply Eq.trans (Mem.ev_tmp _ _ _)); simp only [List.getD_cons_succ, List.getD_cons_zero] <;> rfl)) (by first | (with_reducible exact Mem.ev_const _ _) | (with_reducible exact Mem.ev_zero _ _ _) | (with_reducible (apply Eq.trans (Mem.ev_tmp _ _ _)); simp only [List.getD_cons_succ, List.getD_cons_zero] <;> rfl)) (fun wx => EQ.out _ _ wx) ?_
                  (simp only [Act.put, List.setIfInBounds_toArray, List.set_cons_zero, List.set_cons_succ])
                  (first | (refine plan_move _ _ (by rfl) (by rfl) (.inl (by rfl)) (by first | (with_reducible exact Mem.ev_const _ _) | (with_reducible exact Mem.ev_zero _ _ _) | (with_reducible (apply Eq.trans (Mem.ev_tmp _ _ _)); simp only [List.getD_cons_succ, List.getD_cons_zero] <;> rfl)) ?_) | (refine plan_move _ _ (by rfl) (by rfl) (.inr (by rfl)) (by first | (with_reducible exact Mem.ev_const _ _) | (with_reducible exact Mem.ev_zero _ _ _) | (with_reducible (apply Eq.trans (Mem.ev_tmp _ _ _)); simp only [List.getD_cons_succ, List.getD_cons_zero] <;> rfl)) ?_) | (refine plan_pick_t _ _ _ _ (by rfl) (by rfl) (by rfl) (by first | (with_reducible exact Mem.ev_const _ _) | (with_reducible exact Mem.ev_zero _ _ _) | (with_reducible (apply Eq.trans (Mem.ev_tmp _ _ _)); simp only [List.getD_cons_succ, List.getD_cons_zero] <;> rfl)) (by first | (with_reducible exact Mem.ev_const _ _) | (with_reducible exact Mem.ev_zero _ _ _) | (with_reducible (apply Eq.trans (Mem.ev_tmp _ _ _)); simp only [List.getD_cons_succ, List.getD_cons_zero] <;> rfl)) ?_) | (refine plan_pick_f _ _ _ _ (by rfl) (by rfl) (by rfl) (by first | (with_reducible exact Mem.ev_const _ _) | (with_reducible exact Mem.ev_zero _ _ _) | (with_reducible (apply Eq.trans (Mem.ev_tmp _ _ _)); simp only [List.getD_cons_succ, List.getD_cons_zero] <;> rfl)) (by first | (with_reducible exact Mem.ev_const _ _) | (with_reducible exact Mem.ev_zero _ _ _) | (with_reducible (apply Eq.trans (Mem.ev_tmp _ _ _)); simp only [List.getD_cons_succ, List.getD_cons_zero] <;> rfl)) ?_))
                  (simp only [Act.put, List.setIfInBounds_toArray, List.set_cons_zero, List.set_cons_succ])
                  (first | (refine plan_move _ _ (by rfl) (by rfl) (.inl (by rfl)) (by first | (with_reducible exact Mem.ev_const _ _) | (with_reducible exact Mem.ev_zero _ _ _) | (with_reducible (apply Eq.trans (Mem.ev_tmp _ _ _)); simp only [List.getD_cons_succ, List.getD_cons_zero] <;> rfl)) ?_) | (refine plan_move _ _ (by rfl) (by rfl) (.inr (by rfl)) (by first | (with_reducible exact Mem.ev_const _ _) | (with_reducible exact Mem.ev_zero _ _ _) | (with_reducible (apply Eq.trans (Mem.ev_tmp _ _ _)); simp only [List.getD_cons_succ, List.getD_cons_zero] <;> rfl)) ?_) | (refine plan_pick_t _ _ _ _ (by rfl) (by rfl) (by rfl) (by first | (with_reducible exact Mem.ev_const _ _) | (with_reducible exact Mem.ev_zero _ _ _) | (with_reducible (apply Eq.trans (Mem.ev_tmp _ _ _)); simp only [List.getD_cons_succ, List.getD_cons_zero] <;> rfl)) (by first | (with_reducible exact Mem.ev_const _ _) | (with_reducible exact Mem.ev_zero _ _ _) | (with_reducible (apply Eq.trans (Mem.ev_tmp _ _ _)); simp only [List.getD_cons_succ, List.getD_cons_zero] <;> rfl)) ?_) | (refine plan_pick_f _ _ _ _ (by rfl) (by rfl) (by rfl) (by first | (with_reducible exact Mem.ev_const _ _) | (with_reducible exact Mem.ev_zero _ _ _) | (with_reducible (apply Eq.trans (Mem.ev_tmp _ _ _)); simp only [List.getD_cons_succ, List.getD_cons_zero] <;> rfl)) (by first | (with_reducible exact Mem.ev_const _ _) | (with_reducible exact Mem.ev_zero _ _ _) | (with_reducible (apply Eq.trans (Mem.ev_tmp _ _ _)); simp only [List.getD_cons_succ, List.getD_cons_zero] <;> rfl)) ?_))
                  (simp only [Act.put, List.setIfInBounds_toArray, List.set_cons_zero, List.set_cons_succ])
                  (first | (refine plan_move _ _ (by rfl) (by rfl) (.inl (by rfl)) (by first | (with_reducible exact Mem.ev_const _ _) | (with_reducible exact Mem.ev_zero _ _ _) | (with_reducible (apply Eq.trans (Mem.ev_tmp _ _ _)); simp only [List.getD_cons_succ, List.getD_cons_zero] <;> rfl)) ?_) | (refine plan_move _ _ (by rfl) (by rfl) (.inr (by rfl)) (by first | (with_reducible exact Mem.ev_const _ _) | (with_reducible exact Mem.ev_zero _ _ _) | (with_reducible (apply Eq.trans (Mem.ev_tmp _ _ _)); simp only [List.getD_cons_succ, List.getD_cons_zero] <;> rfl)) ?_) | (refine plan_pick_t _ _ _ _ (by rfl) (by rfl) (by rfl) (by first | (with_reducible exact Mem.ev_const _ _) | (with_reducible exact Mem.ev_zero _ _ _) | (with_reducible (apply Eq.trans (Mem.ev_tmp _ _ _)); simp only [List.getD_cons_succ, List.getD_cons_zero] <;> rfl)) (by first | (with_reducible exact Mem.ev_const _ _) | (with_reducible exact Mem.ev_zero _ _ _) | (with_reducible (apply Eq.trans (Mem.ev_tmp _ _ _)); simp only [List.getD_cons_succ, List.getD_cons_zero] <;> rfl)) ?_) | (refine plan_pick_f _ _ _ _ (by rfl) (by rfl) (by rfl) (by first | (with_reducible exact Mem.ev_const _ _) | (with_reducible exact Mem.ev_zero _ _ _) | (with_reducible (apply Eq.trans (Mem.ev_tmp _ _ _)); simp only [List.getD_cons_succ, List.getD_cons_zero] <;> rfl)) (by first | (with_reducible exact Mem.ev_const _ _) | (with_reducible exact Mem.ev_zero _ _ _) | (with_reducible (apply Eq.trans (Mem.ev_tmp _ _ _)); simp only [List.getD_cons_succ, List.getD_cons_zero] <;> rfl)) ?_))
                  (simp only [Act.put, List.setIfInBounds_toArray, List.set_cons_zero, List.set_cons_succ])
                  refine plan_index 44 26 _ _ pb po j cap0 q (by rfl) (by rfl) (by rfl) (by first | (with_reducible exact Mem.ev_const _ _) | (with_reducible exact Mem.ev_zero _ _ _) | (with_reducible (apply Eq.trans (Mem.ev_tmp _ _ _)); simp only [List.getD_cons_succ, List.getD_cons_zero] <;> rfl)) (by first | (with_reducible exact Mem.ev_const _ _) | (with_reducible exact Mem.ev_zero _ _ _) | (with_reducible (apply Eq.trans (Mem.ev_tmp _ _ _)); simp only [List.getD_cons_succ, List.getD_cons_zero] <;> rfl)) (by omega) Tryd.underlying44 (by kernel_rfl) ?_
                  (simp only [Act.put, List.setIfInBounds_toArray, List.set_cons_zero, List.set_cons_succ])
                  refine plan_cell 26 _ _ v1 _ (by rfl) (by rfl) (by rfl) (by first | (with_reducible exact Mem.ev_const _ _) | (with_reducible exact Mem.ev_zero _ _ _) | (with_reducible (apply Eq.trans (Mem.ev_tmp _ _ _)); simp only [List.getD_cons_succ, List.getD_cons_zero] <;> rfl)) (fun w' hw' => (hw'.cell (p := ⟨pb, po + q, none⟩) PBL.out).trans C1.out) Tryd.underlying26 (by rfl) ?_
                  (simp only [Act.put, List.setIfInBounds_toArray, List.set_cons_zero, List.set_cons_succ])
                  (first | (refine plan_move _ _ (by rfl) (by rfl) (.inl (by rfl)) (by first | (with_reducible exact Mem.ev_const _ _) | (with_reducible exact Mem.ev_zero _ _ _) | (with_reducible (apply Eq.trans (Mem.ev_tmp _ _ _)); simp only [List.getD_cons_succ, List.getD_cons_zero] <;> rfl)) ?_) | (refine plan_move _ _ (by rfl) (by rfl) (.inr (by rfl)) (by first | (with_reducible exact Mem.ev_const _ _) | (with_reducible exact Mem.ev_zero _ _ _) | (with_reducible (apply Eq.trans (Mem.ev_tmp _ _ _)); simp only [List.getD_cons_succ, List.getD_cons_zero] <;> rfl)) ?_) | (refine plan_pick_t _ _ _ _ (by rfl) (by rfl) (by rfl) (by first | (with_reducible exact Mem.ev_const _ _) | (with_reducible exact Mem.ev_zero _ _ _) | (with_reducible (apply Eq.trans (Mem.ev_tmp _ _ _)); simp only [List.getD_cons_succ, List.getD_cons_zero] <;> rfl)) (by first | (with_reducible exact Mem.ev_const _ _) | (with_reducible exact Mem.ev_zero _ _ _) | (with_reducible (apply Eq.trans (Mem.ev_tmp _ _ _)); simp only [List.getD_cons_succ, List.getD_cons_zero] <;> rfl)) ?_) | (refine plan_pick_f _ _ _ _ (by rfl) (by rfl) (by rfl) (by first | (with_reducible exact Mem.ev_const _ _) | (with_reducible exact Mem.ev_zero _ _ _) | (with_reducible (apply Eq.trans (Mem.ev_tmp _ _ _)); simp only [List.getD_cons_succ, List.getD_cons_zero] <;> rfl)) (by first | (with_reducible exact Mem.ev_const _ _) | (with_reducible exact Mem.ev_zero _ _ _) | (with_reducible (apply Eq.trans (Mem.ev_tmp _ _ _)); simp only [List.getD_cons_succ, List.getD_cons_zero] <;> rfl)) ?_))
                  (simp only [Act.put, List.setIfInBounds_toArray, List.set_cons_zero, List.set_cons_succ])
                  (first | (refine plan_move _ _ (by rfl) (by rfl) (.inl (by rfl)) (by first | (with_reducible exact Mem.ev_const _ _) | (with_reducible exact Mem.ev_zero _ _ _) | (with_reducible (apply Eq.trans (Mem.ev_tmp _ _ _)); simp only [List.getD_cons_succ, List.getD_cons_zero] <;> rfl)) ?_) | (refine plan_move _ _ (by rfl) (by rfl) (.inr (by rfl)) (by first | (with_reducible exact Mem.ev_const _ _) | (with_reducible exact Mem.ev_zero _ _ _) | (with_reducible (apply Eq.trans (Mem.ev_tmp _ _ _)); simp only [List.getD_cons_succ, List.getD_cons_zero] <;> rfl)) ?_) | (refine plan_pick_t _ _ _ _ (by rfl) (by rfl) (by rfl) (by first | (with_reducible exact Mem.ev_const _ _) | (with_reducible exact Mem.ev_zero _ _ _) | (with_reducible (apply Eq.trans (Mem.ev_tmp _ _ _)); simp only [List.getD_cons_succ, List.getD_cons_zero] <;> rfl)) (by first | (with_reducible exact Mem.ev_const _ _) | (with_reducible exact Mem.ev_zero _ _ _) | (with_reducible (apply Eq.trans (Mem.ev_tmp _ _ _)); simp only [List.getD_cons_succ, List.getD_cons_zero] <;> rfl)) ?_) | (refine plan_pick_f _ _ _ _ (by rfl) (by rfl) (by rfl) (by first | (with_reducible exact Mem.ev_const _ _) | (with_reducible exact Mem.ev_zero _ _ _) | (with_reducible (apply Eq.trans (Mem.ev_tmp _ _ _)); simp only [List.getD_cons_succ, List.getD_cons_zero] <;> rfl)) (by first | (with_reducible exact Mem.ev_const _ _) | (with_reducible exact Mem.ev_zero _ _ _) | (with_reducible (apply Eq.trans (Mem.ev_tmp _ _ _)); simp only [List.getD_cons_succ, List.getD_cons_zero] <;> rfl)) ?_))
                  (simp only [Act.put, List.setIfInBounds_toArray, List.set_cons_zero, List.set_cons_succ])
                  refine plan_index 44 26 _ _ pb po j cap0 k (by rfl) (by rfl) (by rfl) (by first | (with_reducible exact Mem.ev_const _ _) | (with_reducible exact Mem.ev_zero _ _ _) | (with_reducible (apply Eq.trans (Mem.ev_tmp _ _ _)); simp only [List.getD_cons_succ, List.getD_cons_zero] <;> rfl)) (by first | (with_reducible exact Mem.ev_const _ _) | (with_reducible exact Mem.ev_zero _ _ _) | (with_reducible (apply Eq.trans (Mem.ev_tmp _ _ _)); simp only [List.getD_cons_succ, List.getD_cons_zero] <;> rfl)) (by omega) Tryd.underlying44 (by kernel_rfl) ?_
                  (simp only [Act.put, List.setIfInBounds_toArray, List.set_cons_zero, List.set_cons_succ])
                  refine plan_cell 26 _ _ v2 _ (by rfl) (by rfl) (by rfl) (by first | (with_reducible exact Mem.ev_const _ _) | (with_reducible exact Mem.ev_zero _ _ _) | (with_reducible (apply Eq.trans (Mem.ev_tmp _ _ _)); simp only [List.getD_cons_succ, List.getD_cons_zero] <;> rfl)) (fun w' hw' => (hw'.cell (p := ⟨pb, po + k, none⟩) PBL.out).trans C2.out) Tryd.underlying26 (by rfl) ?_
                  (simp only [Act.put, List.setIfInBounds_toArray, List.set_cons_zero, List.set_cons_succ])
                  refine plan_call 15 _ _ _ (by kernel_rfl) (by rfl) (by rfl) (by rfl) (by first | exact Mem.ev_none _ | (simp only [List.map_toArray, List.map_cons, List.map_nil, Mem.ev_tmp, List.getD_cons_succ, List.getD_cons_zero] <;> rfl)) ?_
                  refine (SAME.out _ (S1.out.below DR.out) (S2.out.below DR.out)).mono ?_
                  rintro o3 w7 ⟨rfl, hb⟩
                  have B7 : Hid (Below wr.heap.size wr w7) := Lib.hid (DR.out.trans (hb.mono DR.out.size))
                  clear hb
                  refine ⟨_, rfl, B7.out, ?_⟩
                  (simp only [Act.put, List.setIfInBounds_toArray, List.set_cons_zero, List.set_cons_succ])
                  refine plan_not _ _ false (by rfl) (by rfl) (by rfl) (by first | (with_reducible exact Mem.ev_const _ _) | (with_reducible exact Mem.ev_zero _ _ _) | (with_reducible (apply Eq.trans (Mem.ev_tmp _ _ _)); simp only [List.getD_cons_succ, List.getD_cons_zero] <;> rfl)) ?_
                  (simp only [Act.put, List.setIfInBounds_toArray, List.set_cons_zero, List.set_cons_succ])
                  refine plan_pick_t _ _ _ _ (by rfl) (by rfl) (by rfl) (by first | (with_reducible exact Mem.ev_const _ _) | (with_reducible exact Mem.ev_zero _ _ _) | (with_reducible (apply Eq.trans (Mem.ev_tmp _ _ _)); simp only [List.getD_cons_succ, List.getD_cons_zero] <;> rfl)) (by first | (with_reducible exact Mem.ev_const _ _) | (with_reducible exact Mem.ev_zero _ _ _) | (with_reducible (apply Eq.trans (Mem.ev_tmp _ _ _)); simp only [List.getD_cons_succ, List.getD_cons_zero] <;> rfl)) ?_
                  (simp only [Act.put, List.setIfInBounds_toArray, List.set_cons_zero, List.set_cons_succ])
                  refine plan_nil ?_
                  go_wp2_with fail
                  go_ret3
                  exact ⟨q, k, true, rfl, .inl ⟨rfl, q, k, rfl, rfl, hqk, by rw [← HN.out]; exact hlt, BAD.out (by simp) (by simp), NO.out, NO2.out⟩, BB.out.trans ((BB2.out.trans (B7.out.mono BB2.out.size)).mono BB.out.size)⟩
                · go_wp2_with fail
                  refine wp_region_plan_in (fun x => Below wr.heap.size wr x) (.take 0 (.take 1 (.take 2 (.take 3 (.take 4 (.take 5 (.take 6 (.take 7 (.take 8 (.take 9 (.take 10 (.take 11 (.take 12 (.take 13 (.take 14 (.take 15 (.take 16 (.take 17 (.sole 18 (.take 19 (.take 20 .done))))))))))))))))))))) (by kernel_rfl) (by kernel_rfl) (by kernel_rfl) DR.out ?_
                  (first | (refine plan_move _ _ (by rfl) (by rfl) (.inl (by rfl)) (by first | (with_reducible exact Mem.ev_const _ _) | (with_reducible exact Mem.ev_zero _ _ _) | (with_reducible (apply Eq.trans (Mem.ev_tmp _ _ _)); simp only [List.getD_cons_succ, List.getD_cons_zero] <;> rfl)) ?_) | (refine plan_move _ _ (by rfl) (by rfl) (.inr (by rfl)) (by first | (with_reducible exact Mem.ev_const _ _) | (with_reducible exact Mem.ev_zero _ _ _) | (with_reducible (apply Eq.trans (Mem.ev_tmp _ _ _)); simp only [List.getD_cons_succ, List.getD_cons_zero] <;> rfl)) ?_) | (refine plan_pick_t _ _ _ _ (by rfl) (by rfl) (by rfl) (by first | (with_reducible exact Mem.ev_const _ _) | (with_reducible exact Mem.ev_zero _ _ _) | (with_reducible (apply Eq.trans (Mem.ev_tmp _ _ _)); simp only [List.getD_cons_succ, List.getD_cons_zero] <;> rfl)) (by first | (with_reducible exact Mem.ev_const _ _) | (with_reducible exact Mem.ev_zero _ _ _) | (with_reducible (apply Eq.trans (Mem.ev_tmp _ _ _)); simp only [List.getD_cons_succ, List.getD_cons_zero] <;> rfl)) ?_) | (refine plan_pick_f _ _ _ _ (by rfl) (by rfl) (by rfl) (by first | (with_reducible exact Mem.ev_const _ _) | (with_reducible exact Mem.ev_zero _ _ _) | (with_reducible (apply Eq.trans (Mem.ev_tmp _ _ _)); simp only [List.getD_cons_succ, List.getD_cons_zero] <;> rfl)) (by first | (with_reducible exact Mem.ev_const _ _) | (with_reducible exact Mem.ev_zero _ _ _) | (with_reducible (apply Eq.trans (Mem.ev_tmp _ _ _)); simp only [List.getD_cons_succ, List.getD_cons_zero] <;> rfl)) ?_))
                  (simp only [Act.put, List.setIfInBounds_toArray, List.set_cons_zero, List.set_cons_succ])
                  (first | (refine plan_move _ _ (by rfl) (by rfl) (.inl (by rfl)) (by first | (with_reducible exact Mem.ev_const _ _) | (with_reducible exact Mem.ev_zero _ _ _) | (with_reducible (apply Eq.trans (Mem.ev_tmp _ _ _)); simp only [List.getD_cons_succ, List.getD_cons_zero] <;> rfl)) ?_) | (refine plan_move _ _ (by rfl) (by rfl) (.inr (by rfl)) (by first | (with_reducible exact Mem.ev_const _ _) | (with_reducible exact Mem.ev_zero _ _ _) | (with_reducible (apply Eq.trans (Mem.ev_tmp _ _ _)); simp only [List.getD_cons_succ, List.getD_cons_zero] <;> rfl)) ?_) | (refine plan_pick_t _ _ _ _ (by rfl) (by rfl) (by rfl) (by first | (with_reducible exact Mem.ev_const _ _) | (with_reducible exact Mem.ev_zero _ _ _) | (with_reducible (apply Eq.trans (Mem.ev_tmp _ _ _)); simp only [List.getD_cons_succ, List.getD_cons_zero] <;> rfl)) (by first | (with_reducible exact Mem.ev_const _ _) | (with_reducible exact Mem.ev_zero _ _ _) | (with_reducible (apply Eq.trans (Mem.ev_tmp _ _ _)); simp only [List.getD_cons_succ, List.getD_cons_zero] <;> rfl)) ?_) | (refine plan_pick_f _ _ _ _ (by rfl) (by rfl) (by rfl) (by first | (with_reducible exact Mem.ev_const _ _) | (with_reducible exact Mem.ev_zero _ _ _) | (with_reducible (apply Eq.trans (Mem.ev_tmp _ _ _)); simp only [List.getD_cons_succ, List.getD_cons_zero] <;> rfl)) (by first | (with_reducible exact Mem.ev_const _ _) | (with_reducible exact Mem.ev_zero _ _ _) | (with_reducible (apply Eq.trans (Mem.ev_tmp _ _ _)); simp only [List.getD_cons_succ, List.getD_cons_zero] <;> rfl)) ?_))
                  (simp only [Act.put, List.setIfInBounds_toArray, List.set_cons_zero, List.set_cons_succ])
                  refine plan_index_z 82 22 _ _ b2 o2 j c3 32 q (by rfl) (by rfl) (by rfl) (by first | (with_reducible exact Mem.ev_const _ _) | (with_reducible exact Mem.ev_zero _ _ _) | (with_reducible (apply Eq.trans (Mem.ev_tmp _ _ _)); simp only [List.getD_cons_succ, List.getD_cons_zero] <;> rfl)) (by first | (with_reducible exact Mem.ev_const _ _) | (with_reducible exact Mem.ev_zero _ _ _) | (with_reducible (apply Eq.trans (Mem.ev_tmp _ _ _)); simp only [List.getD_cons_succ, List.getD_cons_zero] <;> rfl)) (by omega) Tryd.underlying82 (by kernel_rfl) ?_
                  (simp only [Act.put, List.setIfInBounds_toArray, List.set_cons_zero, List.set_cons_succ])
                  refine plan_load_range 22 _ b2 (o2 + q * 32) _ d1 (by rfl) (by rfl) (by rfl) (by first | (with_reducible exact Mem.ev_const _ _) | (with_reducible exact Mem.ev_zero _ _ _) | (with_reducible (apply Eq.trans (Mem.ev_tmp _ _ _)); simp only [List.getD_cons_succ, List.getD_cons_zero] <;> rfl)) (fun w' hw' z9 u hu => (hw'.cell (p := ⟨b2, o2 + q * 32 + z9, none⟩) B2L.out).trans (R1.out z9 u hu)) Tryd.underlying22 (by rfl) (by rw [Z1.out]; exact infoDg) ?_
                  (simp only [Act.put, List.setIfInBounds_toArray, List.set_cons_zero, List.set_cons_succ])
                  (first | (refine plan_move _ _ (by rfl) (by rfl) (.inl (by rfl)) (by first | (with_reducible exact Mem.ev_const _ _) | (with_reducible exact Mem.ev_zero _ _ _) | (with_reducible (apply Eq.trans (Mem.ev_tmp _ _ _)); simp only [List.getD_cons_succ, List.getD_cons_zero] <;> rfl)) ?_) | (refine plan_move _ _ (by rfl) (by rfl) (.inr (by rfl)) (by first | (with_reducible exact Mem.ev_const _ _) | (with_reducible exact Mem.ev_zero _ _ _) | (with_reducible (apply Eq.trans (Mem.ev_tmp _ _ _)); simp only [List.getD_cons_succ, List.getD_cons_zero] <;> rfl)) ?_) | (refine plan_pick_t _ _ _ _ (by rfl) (by rfl) (by rfl) (by first | (with_reducible exact Mem.ev_const _ _) | (with_reducible exact Mem.ev_zero _ _ _) | (with_reducible (apply Eq.trans (Mem.ev_tmp _ _ _)); simp only [List.getD_cons_succ, List.getD_cons_zero] <;> rfl)) (by first | (with_reducible exact Mem.ev_const _ _) | (with_reducible exact Mem.ev_zero _ _ _) | (with_reducible (apply Eq.trans (Mem.ev_tmp _ _ _)); simp only [List.getD_cons_succ, List.getD_cons_zero] <;> rfl)) ?_) | (refine plan_pick_f _ _ _ _ (by rfl) (by rfl) (by rfl) (by first | (with_reducible exact Mem.ev_const _ _) | (with_reducible exact Mem.ev_zero _ _ _) | (with_reducible (apply Eq.trans (Mem.ev_tmp _ _ _)); simp only [List.getD_cons_succ, List.getD_cons_zero] <;> rfl)) (by first | (with_reducible exact Mem.ev_const _ _) | (with_reducible exact Mem.ev_zero _ _ _) | (with_reducible (apply Eq.trans (Mem.ev_tmp _ _ _)); simp only [List.getD_cons_succ, List.getD_cons_zero] <;> rfl)) ?_))
                  (simp only [Act.put, List.setIfInBounds_toArray, List.set_cons_zero, List.set_cons_succ])
                  (first | (refine plan_move _ _ (by rfl) (by rfl) (.inl (by rfl)) (by first | (with_reducible exact Mem.ev_const _ _) | (with_reducible exact Mem.ev_zero _ _ _) | (with_reducible (apply Eq.trans (Mem.ev_tmp _ _ _)); simp only [List.getD_cons_succ, List.getD_cons_zero] <;> rfl)) ?_) | (refine plan_move _ _ (by rfl) (by rfl) (.inr (by rfl)) (by first | (with_reducible exact Mem.ev_const _ _) | (with_reducible exact Mem.ev_zero _ _ _) | (with_reducible (apply Eq.trans (Mem.ev_tmp _ _ _)); simp only [List.getD_cons_succ, List.getD_cons_zero] <;> rfl)) ?_) | (refine plan_pick_t _ _ _ _ (by rfl) (by rfl) (by rfl) (by first | (with_reducible exact Mem.ev_const _ _) | (with_reducible exact Mem.ev_zero _ _ _) | (with_reducible (apply Eq.trans (Mem.ev_tmp _ _ _)); simp only [List.getD_cons_succ, List.getD_cons_zero] <;> rfl)) (by first | (with_reducible exact Mem.ev_const _ _) | (with_reducible exact Mem.ev_zero _ _ _) | (with_reducible (apply Eq.trans (Mem.ev_tmp _ _ _)); simp only [List.getD_cons_succ, List.getD_cons_zero] <;> rfl)) ?_) | (refine plan_pick_f _ _ _ _ (by rfl) (by rfl) (by rfl) (by first | (with_reducible exact Mem.ev_const _ _) | (with_reducible exact Mem.ev_zero _ _ _) | (with_reducible (apply Eq.trans (Mem.ev_tmp _ _ _)); simp only [List.getD_cons_succ, List.getD_cons_zero] <;> rfl)) (by first | (with_reducible exact Mem.ev_const _ _) | (with_reducible exact Mem.ev_zero _ _ _) | (with_reducible (apply Eq.trans (Mem.ev_tmp _ _ _)); simp only [List.getD_cons_succ, List.getD_cons_zero] <;> rfl)) ?_))
                  (simp only [Act.put, List.setIfInBounds_toArray, List.set_cons_zero, List.set_cons_succ])
                  refine plan_index_z 82 22 _ _ b2 o2 j c3 32 k (by rfl) (by rfl) (by rfl) (by first | (with_reducible exact Mem.ev_const _ _) | (with_reducible exact Mem.ev_zero _ _ _) | (with_reducible (apply Eq.trans (Mem.ev_tmp _ _ _)); simp only [List.getD_cons_succ, List.getD_cons_zero] <;> rfl)) (by first | (with_reducible exact Mem.ev_const _ _) | (with_reducible exact Mem.ev_zero _ _ _) | (with_reducible (apply Eq.trans (Mem.ev_tmp _ _ _)); simp only [List.getD_cons_succ, List.getD_cons_zero] <;> rfl)) (by omega) Tryd.underlying82 (by kernel_rfl) ?_
                  (simp only [Act.put, List.setIfInBounds_toArray, List.set_cons_zero, List.set_cons_succ])
                  refine plan_load_range 22 _ b2 (o2 + k * 32) _ d2 (by rfl) (by rfl) (by rfl) (by first | (with_reducible exact Mem.ev_const _ _) | (with_reducible exact Mem.ev_zero _ _ _) | (with_reducible (apply Eq.trans (Mem.ev_tmp _ _ _)); simp only [List.getD_cons_succ, List.getD_cons_zero] <;> rfl)) (fun w' hw' z9 u hu => (hw'.cell (p := ⟨b2, o2 + k * 32 + z9, none⟩) B2L.out).trans (R2.out z9 u hu)) Tryd.underlying22 (by rfl) (by rw [Z2.out]; exact infoDg) ?_
                  (simp only [Act.put, List.setIfInBounds_toArray, List.set_cons_zero, List.set_cons_succ])
                  refine plan_bin _ _ _ _ _ _ _ (.bool true) (by rfl) (by rfl) (by rfl) (by first | (with_reducible exact Mem.ev_const _ _) | (with_reducible exact Mem.ev_zero _ _ _) | (with_reducible (apply Eq.trans (Mem.ev_tmp _ _ _)); simp only [List.getD_cons_succ, List.getD_cons_zero] <;> rfl)) (by first | (with_reducible exact Mem.ev_const _ _) | (with_reducible exact Mem.ev_zero _ _ _) | (with_reducible (apply Eq.trans (Mem.ev_tmp _ _ _)); simp only [List.getD_cons_succ, List.getD_cons_zero] <;> rfl)) (fun wx => EQ.out _ _ wx) ?_
                  (simp only [Act.put, List.setIfInBounds_toArray, List.set_cons_zero, List.set_cons_succ])
                  (first | (refine plan_move _ _ (by rfl) (by rfl) (.inl (by rfl)) (by first | (with_reducible exact Mem.ev_const _ _) | (with_reducible exact Mem.ev_zero _ _ _) | (with_reducible (apply Eq.trans (Mem.ev_tmp _ _ _)); simp only [List.getD_cons_succ, List.getD_cons_zero] <;> rfl)) ?_) | (refine plan_move _ _ (by rfl) (by rfl) (.inr (by rfl)) (by first | (with_reducible exact Mem.ev_const _ _) | (with_reducible exact Mem.ev_zero _ _ _) | (with_reducible (apply Eq.trans (Mem.ev_tmp _ _ _)); simp only [List.getD_cons_succ, List.getD_cons_zero] <;> rfl)) ?_) | (refine plan_pick_t _ _ _ _ (by rfl) (by rfl) (by rfl) (by first | (with_reducible exact Mem.ev_const _ _) | (with_reducible exact Mem.ev_zero _ _ _) | (with_reducible (apply Eq.trans (Mem.ev_tmp _ _ _)); simp only [List.getD_cons_succ, List.getD_cons_zero] <;> rfl)) (by first | (with_reducible exact Mem.ev_const _ _) | (with_reducible exact Mem.ev_zero _ _ _) | (with_reducible (apply Eq.trans (Mem.ev_tmp _ _ _)); simp only [List.getD_cons_succ, List.getD_cons_zero] <;> rfl)) ?_) | (refine plan_pick_f _ _ _ _ (by rfl) (by rfl) (by rfl) (by first | (with_reducible exact Mem.ev_const _ _) | (with_reducible exact Mem.ev_zero _ _ _) | (with_reducible (apply Eq.trans (Mem.ev_tmp _ _ _)); simp only [List.getD_cons_succ, List.getD_cons_zero] <;> rfl)) (by first | (with_reducible exact Mem.ev_const _ _) | (with_reducible exact Mem.ev_zero _ _ _) | (with_reducible (apply Eq.trans (Mem.ev_tmp _ _ _)); simp only [List.getD_cons_succ, List.getD_cons_zero] <;> rfl)) ?_))
                  (simp only [Act.put, List.setIfInBounds_toArray, List.set_cons_zero, List.set_cons_succ])
                  (first | (refine plan_move _ _ (by rfl) (by rfl) (.inl (by rfl)) (by first | (with_reducible exact Mem.ev_const _ _) | (with_reducible exact Mem.ev_zero _ _ _) | (with_reducible (apply Eq.trans (Mem.ev_tmp _ _ _)); simp only [List.getD_cons_succ, List.getD_cons_zero] <;> rfl)) ?_) | (refine plan_move _ _ (by rfl) (by rfl) (.inr (by rfl)) (by first | (with_reducible exact Mem.ev_const _ _) | (with_reducible exact Mem.ev_zero _ _ _) | (with_reducible (apply Eq.trans (Mem.ev_tmp _ _ _)); simp only [List.getD_cons_succ, List.getD_cons_zero] <;> rfl)) ?_) | (refine plan_pick_t _ _ _ _ (by rfl) (by rfl) (by rfl) (by first | (with_reducible exact Mem.ev_const _ _) | (with_reducible exact Mem.ev_zero _ _ _) | (with_reducible (apply Eq.trans (Mem.ev_tmp _ _ _)); simp only [List.getD_cons_succ, List.getD_cons_zero] <;> rfl)) (by first | (with_reducible exact Mem.ev_const _ _) | (with_reducible exact Mem.ev_zero _ _ _) | (with_reducible (apply Eq.trans (Mem.ev_tmp _ _ _)); simp only [List.getD_cons_succ, List.getD_cons_zero] <;> rfl)) ?_) | (refine plan_pick_f _ _ _ _ (by rfl) (by rfl) (by rfl) (by first | (with_reducible exact Mem.ev_const _ _) | (with_reducible exact Mem.ev_zero _ _ _) | (with_reducible (apply Eq.trans (Mem.ev_tmp _ _ _)); simp only [List.getD_cons_succ, List.getD_cons_zero] <;> rfl)) (by first | (with_reducible exact Mem.ev_const _ _) | (with_reducible exact Mem.ev_zero _ _ _) | (with_reducible (apply Eq.trans (Mem.ev_tmp _ _ _)); simp only [List.getD_cons_succ, List.getD_cons_zero] <;> rfl)) ?_))
                  (simp only [Act.put, List.setIfInBounds_toArray, List.set_cons_zero, List.set_cons_succ])
                  (first | (refine plan_move _ _ (by rfl) (by rfl) (.inl (by rfl)) (by first | (with_reducible exact Mem.ev_const _ _) | (with_reducible exact Mem.ev_zero _ _ _) | (with_reducible (apply Eq.trans (Mem.ev_tmp _ _ _)); simp only [List.getD_cons_succ, List.getD_cons_zero] <;> rfl)) ?_) | (refine plan_move _ _ (by rfl) (by rfl) (.inr (by rfl)) (by first | (with_reducible exact Mem.ev_const _ _) | (with_reducible exact Mem.ev_zero _ _ _) | (with_reducible (apply Eq.trans (Mem.ev_tmp _ _ _)); simp only [List.getD_cons_succ, List.getD_cons_zero] <;> rfl)) ?_) | (refine plan_pick_t _ _ _ _ (by rfl) (by rfl) (by rfl) (by first | (with_reducible exact Mem.ev_const _ _) | (with_reducible exact Mem.ev_zero _ _ _) | (with_reducible (apply Eq.trans (Mem.ev_tmp _ _ _)); simp only [List.getD_cons_succ, List.getD_cons_zero] <;> rfl)) (by first | (with_reducible exact Mem.ev_const _ _) | (with_reducible exact Mem.ev_zero _ _ _) | (with_reducible (apply Eq.trans (Mem.ev_tmp _ _ _)); simp only [List.getD_cons_succ, List.getD_cons_zero] <;> rfl)) ?_) | (refine plan_pick_f _ _ _ _ (by rfl) (by rfl) (by rfl) (by first | (with_reducible exact Mem.ev_const _ _) | (with_reducible exact Mem.ev_zero _ _ _) | (with_reducible (apply Eq.trans (Mem.ev_tmp _ _ _)); simp only [List.getD_cons_succ, List.getD_cons_zero] <;> rfl)) (by first | (with_reducible exact Mem.ev_const _ _) | (with_reducible exact Mem.ev_zero _ _ _) | (with_reducible (apply Eq.trans (Mem.ev_tmp _ _ _)); simp only [List.getD_cons_succ, List.getD_cons_zero] <;> rfl)) ?_))
                  (simp only [Act.put, List.setIfInBounds_toArray, List.set_cons_zero, List.set_cons_succ])
                  refine plan_index 44 26 _ _ pb po j cap0 q (by rfl) (by rfl) (by rfl) (by first | (with_reducible exact Mem.ev_const _ _) | (with_reducible exact Mem.ev_zero _ _ _) | (with_reducible (apply Eq.trans (Mem.ev_tmp _ _ _)); simp only [List.getD_cons_succ, List.getD_cons_zero] <;> rfl)) (by first | (with_reducible exact Mem.ev_const _ _) | (with_reducible exact Mem.ev_zero _ _ _) | (with_reducible (apply Eq.trans (Mem.ev_tmp _ _ _)); simp only [List.getD_cons_succ, List.getD_cons_zero] <;> rfl)) (by omega) Tryd.underlying44 (by kernel_rfl) ?_
                  (simp only [Act.put, List.setIfInBounds_toArray, List.set_cons_zero, List.set_cons_succ])
                  refine plan_cell 26 _ _ v1 _ (by rfl) (by rfl) (by rfl) (by first | (with_reducible exact Mem.ev_const _ _) | (with_reducible exact Mem.ev_zero _ _ _) | (with_reducible (apply Eq.trans (Mem.ev_tmp _ _ _)); simp only [List.getD_cons_succ, List.getD_cons_zero] <;> rfl)) (fun w' hw' => (hw'.cell (p := ⟨pb, po + q, none⟩) PBL.out).trans C1.out) Tryd.underlying26 (by rfl) ?_
                  (simp only [Act.put, List.setIfInBounds_toArray, List.set_cons_zero, List.set_cons_succ])
                  (first | (refine plan_move _ _ (by rfl) (by rfl) (.inl (by rfl)) (by first | (with_reducible exact Mem.ev_const _ _) | (with_reducible exact Mem.ev_zero _ _ _) | (with_reducible (apply Eq.trans (Mem.ev_tmp _ _ _)); simp only [List.getD_cons_succ, List.getD_cons_zero] <;> rfl)) ?_) | (refine plan_move _ _ (by rfl) (by rfl) (.inr (by rfl)) (by first | (with_reducible exact Mem.ev_const _ _) | (with_reducible exact Mem.ev_zero _ _ _) | (with_reducible (apply Eq.trans (Mem.ev_tmp _ _ _)); simp only [List.getD_cons_succ, List.getD_cons_zero] <;> rfl)) ?_) | (refine plan_pick_t _ _ _ _ (by rfl) (by rfl) (by rfl) (by first | (with_reducible exact Mem.ev_const _ _) | (with_reducible exact Mem.ev_zero _ _ _) | (with_reducible (apply Eq.trans (Mem.ev_tmp _ _ _)); simp only [List.getD_cons_succ, List.getD_cons_zero] <;> rfl)) (by first | (with_reducible exact Mem.ev_const _ _) | (with_reducible exact Mem.ev_zero _ _ _) | (with_reducible (apply Eq.trans (Mem.ev_tmp _ _ _)); simp only [List.getD_cons_succ, List.getD_cons_zero] <;> rfl)) ?_) | (refine plan_pick_f _ _ _ _ (by rfl) (by rfl) (by rfl) (by first | (with_reducible exact Mem.ev_const _ _) | (with_reducible exact Mem.ev_zero _ _ _) | (with_reducible (apply Eq.trans (Mem.ev_tmp _ _ _)); simp only [List.getD_cons_succ, List.getD_cons_zero] <;> rfl)) (by first | (with_reducible exact Mem.ev_const _ _) | (with_reducible exact Mem.ev_zero _ _ _) | (with_reducible (apply Eq.trans (Mem.ev_tmp _ _ _)); simp only [List.getD_cons_succ, List.getD_cons_zero] <;> rfl)) ?_))
                  (simp only [Act.put, List.setIfInBounds_toArray, List.set_cons_zero, List.set_cons_succ])
                  (first | (refine plan_move _ _ (by rfl) (by rfl) (.inl (by rfl)) (by first | (with_reducible exact Mem.ev_const _ _) | (with_reducible exact Mem.ev_zero _ _ _) | (with_reducible (apply Eq.trans (Mem.ev_tmp _ _ _)); simp only [List.getD_cons_succ, List.getD_cons_zero] <;> rfl)) ?_) | (refine plan_move _ _ (by rfl) (by rfl) (.inr (by rfl)) (by first | (with_reducible exact Mem.ev_const _ _) | (with_reducible exact Mem.ev_zero _ _ _) | (with_reducible (apply Eq.trans (Mem.ev_tmp _ _ _)); simp only [List.getD_cons_succ, List.getD_cons_zero] <;> rfl)) ?_) | (refine plan_pick_t _ _ _ _ (by rfl) (by rfl) (by rfl) (by first | (with_reducible exact Mem.ev_const _ _) | (with_reducible exact Mem.ev_zero _ _ _) | (with_reducible (apply Eq.trans (Mem.ev_tmp _ _ _)); simp only [List.getD_cons_succ, List.getD_cons_zero] <;> rfl)) (by first | (with_reducible exact Mem.ev_const _ _) | (with_reducible exact Mem.ev_zero _ _ _) | (with_reducible (apply Eq.trans (Mem.ev_tmp _ _ _)); simp only [List.getD_cons_succ, List.getD_cons_zero] <;> rfl)) ?_) | (refine plan_pick_f _ _ _ _ (by rfl) (by rfl) (by rfl) (by first | (with_reducible exact Mem.ev_const _ _) | (with_reducible exact Mem.ev_zero _ _ _) | (with_reducible (apply Eq.trans (Mem.ev_tmp _ _ _)); simp only [List.getD_cons_succ, List.getD_cons_zero] <;> rfl)) (by first | (with_reducible exact Mem.ev_const _ _) | (with_reducible exact Mem.ev_zero _ _ _) | (with_reducible (apply Eq.trans (Mem.ev_tmp _ _ _)); simp only [List.getD_cons_succ, List.getD_cons_zero] <;> rfl)) ?_))
                  (simp only [Act.put, List.setIfInBounds_toArray, List.set_cons_zero, List.set_cons_succ])
                  refine plan_index 44 26 _ _ pb po j cap0 k (by rfl) (by rfl) (by rfl) (by first | (with_reducible exact Mem.ev_const _ _) | (with_reducible exact Mem.ev_zero _ _ _) | (with_reducible (apply Eq.trans (Mem.ev_tmp _ _ _)); simp only [List.getD_cons_succ, List.getD_cons_zero] <;> rfl)) (by first | (with_reducible exact Mem.ev_const _ _) | (with_reducible exact Mem.ev_zero _ _ _) | (with_reducible (apply Eq.trans (Mem.ev_tmp _ _ _)); simp only [List.getD_cons_succ, List.getD_cons_zero] <;> rfl)) (by omega) Tryd.underlying44 (by kernel_rfl) ?_
                  (simp only [Act.put, List.setIfInBounds_toArray, List.set_cons_zero, List.set_cons_succ])
                  refine plan_cell 26 _ _ v2 _ (by rfl) (by rfl) (by rfl) (by first | (with_reducible exact Mem.ev_const _ _) | (with_reducible exact Mem.ev_zero _ _ _) | (with_reducible (apply Eq.trans (Mem.ev_tmp _ _ _)); simp only [List.getD_cons_succ, List.getD_cons_zero] <;> rfl)) (fun w' hw' => (hw'.cell (p := ⟨pb, po + k, none⟩) PBL.out).trans C2.out) Tryd.underlying26 (by rfl) ?_
                  (simp only [Act.put, List.setIfInBounds_toArray, List.set_cons_zero, List.set_cons_succ])
                  refine plan_call 15 _ _ _ (by kernel_rfl) (by rfl) (by rfl) (by rfl) (by first | exact Mem.ev_none _ | (simp only [List.map_toArray, List.map_cons, List.map_nil, Mem.ev_tmp, List.getD_cons_succ, List.getD_cons_zero] <;> rfl)) ?_
                  refine (SAME.out _ (S1.out.below DR.out) (S2.out.below DR.out)).mono ?_
                  rintro o3 w7 ⟨rfl, hb⟩
                  have B7 : Hid (Below wr.heap.size wr w7) := Lib.hid (DR.out.trans (hb.mono DR.out.size))
                  clear hb
                  refine ⟨_, rfl, B7.out, ?_⟩
                  (simp only [Act.put, List.setIfInBounds_toArray, List.set_cons_zero, List.set_cons_succ])
                  refine plan_not _ _ true (by rfl) (by rfl) (by rfl) (by first | (with_reducible exact Mem.ev_const _ _) | (with_reducible exact Mem.ev_zero _ _ _) | (with_reducible (apply Eq.trans (Mem.ev_tmp _ _ _)); simp only [List.getD_cons_succ, List.getD_cons_zero] <;> rfl)) ?_
                  (simp only [Act.put, List.setIfInBounds_toArray, List.set_cons_zero, List.set_cons_succ])
                  refine plan_pick_t _ _ _ _ (by rfl) (by rfl) (by rfl) (by first | (with_reducible exact Mem.ev_const _ _) | (with_reducible exact Mem.ev_zero _ _ _) | (with_reducible (apply Eq.trans (Mem.ev_tmp _ _ _)); simp only [List.getD_cons_succ, List.getD_cons_zero] <;> rfl)) (by first | (with_reducible exact Mem.ev_const _ _) | (with_reducible exact Mem.ev_zero _ _ _) | (with_reducible (apply Eq.trans (Mem.ev_tmp _ _ _)); simp only [List.getD_cons_succ, List.getD_cons_zero] <;> rfl)) ?_
                  (simp only [Act.put, List.setIfInBounds_toArray, List.set_cons_zero, List.set_cons_succ])
                  refine plan_nil ?_
                  go_wp2_with fail
                  go_roundw
                  case rel => exact ⟨q + 1, by omega, by go_num, BB2.out.trans (B7.out.mono BB2.out.size), fun i' hi' => by
                    rcases Nat.lt_or_ge i' q with g | g
                    · exact NO2.out i' g
                    · have : i' = q := by omega
                      subst this; exact GOOD.out (by simp)⟩
                  case measure => simp [intOf]; omega
            · have hq2 : q = k := by omega
              have hge2 : ¬ (q : Int) < (k : Int) := by omega
              subst hq2
              have BB2 := Lib.hid hb; have NO2 := Lib.hid hno
              clear hb hno hqk hq
              go_wp2_with fail
              go_roundw
              case rel => exact ⟨q + 1, by omega, by go_num, BB2.out, fun k' hk' i' hi' => by
                rcases Nat.lt_or_ge k' q with g | g
                · exact NO.out k' g i' hi'
                · have : k' = q := by omega
                  subst this; exact NO2.out i' hi'⟩
              case measure => simp [intOf]; omega
        · have hk2 : k = j := by omega
          have hge2 : ¬ (k : Int) < (j : Int) := by omega
          have NO := Lib.hid hno; have BB2 := Lib.hid (BB.out.trans (hb.mono BB.out.size))
          clear hno hb hlt
          go_wp2_with fail
          go_ret3
          exact ⟨0, 0, false, rfl, .inr ⟨rfl, rfl, rfl, by rw [← HN.out, ← hk2]; exact NO.out⟩, BB2.out⟩
end Sha
end Go.Proofs.YtmfgimkopddcgaaDoor
namespace Go.Proofs.YtmfgimkopddcgaaDoor
namespace Sha
open Go.RowKit Mem
/-- A page that begins with some bytes. -/
def pageL (l : List (BitVec 8)) : List (BitVec 8) := l.take 256 ++ List.replicate (256 - l.length) 0
theorem pageL_length (l : List (BitVec 8)) : (pageL l).length = 256 := by simp [pageL]; omega
theorem splice_page (l : List (BitVec 8)) (k : Nat) (hk : k = Nat.min l.length 256) : Mem.splice (u8s (List.replicate 256 0)).toArray 0 (u8s (l.take k)) = (u8s (pageL l)).toArray := by
  have hk' : k = min l.length 256 := hk
  have e1 : l.take k = l.take 256 := by
    rw [hk']
    rcases Nat.le_total l.length 256 with h | h
    · rw [Nat.min_eq_left h, List.take_of_length_le (Nat.le_refl _), List.take_of_length_le h]
    · rw [Nat.min_eq_right h]
  have e2 : (l.take 256).length = k := by rw [List.length_take, hk', Nat.min_comm]
  have e3 : (u8s (List.replicate 256 (0 : BitVec 8))).drop k = u8s (List.replicate (256 - l.length) 0) := by
    unfold u8s
    rw [← List.map_drop, List.drop_replicate, show 256 - k = 256 - l.length by omega]
  unfold Mem.splice pageL
  rw [e1, List.take_zero, List.nil_append, u8s_length, e2, Nat.zero_add]
  show (u8s (l.take 256) ++ (u8s (List.replicate 256 (0 : BitVec 8))).drop k).toArray = _
  rw [e3]
  unfold u8s
  rw [List.map_append]
set_option maxRecDepth 100000 in
set_option maxHeartbeats 1000000 in
theorem page_any (l : List (BitVec 8)) (v : Value) (w : World) (hv : Sl w v l) : Calls Tryd.prog 10 #[v] w (SEnd w (pageL l)) := by
  obtain ⟨a0, c0, rfl⟩ := sl_inv hv
  obtain ⟨i8, hi8, hz8, hs8, hb8⟩ := info_parts infoU8
  obtain ⟨k, hk⟩ : ∃ k, k = Nat.min l.length 256 := ⟨_, rfl⟩
  have hsp := splice_page l k hk
  have hk256 : k ≤ 256 := by rw [hk]; exact Nat.min_le_right _ _
  have pl := pageL_length l
  obtain ⟨M, hM⟩ : ∃ M, M = (u8s (pageL l)).toArray := ⟨_, rfl⟩
  rw [← hM] at hsp
  have HV := Lib.hid hv; have SP := Lib.hid hsp; have HK := Lib.hid hk; have I8 := Lib.hid hi8; have Z8 := Lib.hid hz8; have S8 := Lib.hid hs8; have B8' := Lib.hid hb8; have HM := Lib.hid hM; have PL := Lib.hid pl
  clear hv hsp hk hi8 hz8 hs8 hb8 hM pl
  go_enter Tryd.func10, Tryd.ntmps10
  go_wp2_with (first
    | (refine wpList_make_full _ (by rfl) _ _ 26 (by rfl) w.heap.size 5 i8 (.int .u8 0) 1 Tryd.underlying26 I8.out Z8.out S8.out .i64 .i64 256 256 256 (by rfl) (by rfl) rfl rfl (by rw [B8'.out]; omega) (by simp [maxLen]) (Nat.le_refl _) ?_; intro w4 ho4 hg4; have R4 : Hid (At w4 w.heap.size (u8s (List.replicate 256 0)).toArray 5) := Lib.hid (by have h := own_full ho4; rw [made_zeros] at h; exact h); have B4 : Hid (Below w.heap.size w w4) := Lib.hid ((Below.refl _ _).grown hg4 (Nat.le_refl _) (fun _ h => by cases h)); clear ho4 hg4)
    | (refine wpList_copy_sl (by rfl) _ _ (by rfl) w.heap.size 0 256 256 (.slice a0 l.length c0) l (by rfl) (by rfl) (HV.out.below B4.out) k HK.out _ _ R4.out (by simp [u8s]; omega) _ SP.out ?_; intro w5 ha5 hs5 ho5 hbb5; have R5 := Lib.hid ha5; have B5 := Lib.hid (hbb5 _ _ B4.out (Nat.le_refl _)); clear ha5 hs5 ho5 hbb5))
  go_ret
  exact ⟨w.heap.size, by rw [PL.out]; rfl, by rw [← HM.out]; exact R5.out, Nat.le_refl _, B5.out⟩
set_option maxRecDepth 100000 in
set_option maxHeartbeats 1000000 in
theorem ours9_any (r : RefV) (hr : r.Wf) (w : World) : Calls Tryd.prog 16 #[.agg (refC r)] w fun e w' => e = .returned (.agg (refC r)) ∧ Below w.heap.size w w' := by
  have rs := refC_size hr
  have ro := refC_one r
  obtain ⟨M, hM⟩ : ∃ M, M = refC r := ⟨_, rfl⟩
  rw [← hM] at rs ro ⊢
  obtain ⟨Z, hZ⟩ : ∃ Z, Z = refC zref := ⟨_, rfl⟩
  have zs : Z.size = 34 := by rw [hZ]; exact refC_size zref_wf
  have hx : ∀ w, (zeroValue 38).run Tryd.prog w = .ok (.agg Z) w := by rw [hZ]; exact zeroRfR
  have a1 := (at_new w M 35).alloc (.cells Z 38)
  have a2 : At ((w.alloc (.cells M 35)).alloc (.cells Z 38)) (w.heap.size + 1) Z 38 := by
    have h := at_new (w.alloc (.cells M 35)) Z 38
    simpa using h
  have bz : Below w.heap.size w ((w.alloc (.cells M 35)).alloc (.cells Z 38)) := ((Below.refl _ _).alloc (Nat.le_refl _) _).alloc (by simp) _
  have RS := Lib.hid rs; have RO := Lib.hid ro; have ZS := Lib.hid zs; have A1 := Lib.hid a1; have A2 := Lib.hid a2; have BZ := Lib.hid bz
  clear rs ro zs a1 a2 bz hM hZ hr
  go_enter Tryd.func16, Tryd.ntmps16
  go_upto_region 1 with fail
  clear hx
  generalize (w.alloc (.cells M 35)).alloc (.cells Z 38) = w1 at *
  go_wp2_with (first
    | (refine wpList_load_all (by rfl) 35 _ (by rfl) w.heap.size (by rfl) _ Tryd.underlying35 (by rfl) M _ A1.out (by rw [RS.out]; exact infoRfP) ?_)
    | (refine wpList_store_all (by rfl) 38 _ _ (by rfl) (by rfl) (w.heap.size + 1) M (by rfl) (by rfl) (by rw [RS.out]; exact infoRfR) Z 38 A2.out (by rw [ZS.out, RS.out]) RO.out ?_))
  try simp only [Exit.inBlock, Exit.then]
  refine ret_row (by rfl) (w.heap.size + 1) 38 M _ (by rfl) (At.row (C := Z) A2.out M) Tryd.underlying38 (by rfl) (by rw [RS.out]; exact infoRfR) ?_
  exact ⟨rfl, below_row BZ.out (Nat.le_succ _) M⟩
set_option maxRecDepth 100000 in
set_option maxHeartbeats 1000000 in
theorem theirs9_any (r : RefV) (hr : r.Wf) (w : World) : Calls Tryd.prog 18 #[.agg (refC r)] w fun e w' => e = .returned (.agg (refC r)) ∧ Below w.heap.size w w' := by
  have rs := refC_size hr
  have ro := refC_one r
  obtain ⟨M, hM⟩ : ∃ M, M = refC r := ⟨_, rfl⟩
  rw [← hM] at rs ro ⊢
  obtain ⟨Z, hZ⟩ : ∃ Z, Z = refC zref := ⟨_, rfl⟩
  have zs : Z.size = 34 := by rw [hZ]; exact refC_size zref_wf
  have hx : ∀ w, (zeroValue 35).run Tryd.prog w = .ok (.agg Z) w := by rw [hZ]; exact zeroRfP
  have a1 := (at_new w M 38).alloc (.cells Z 35)
  have a2 : At ((w.alloc (.cells M 38)).alloc (.cells Z 35)) (w.heap.size + 1) Z 35 := by
    have h := at_new (w.alloc (.cells M 38)) Z 35
    simpa using h
  have bz : Below w.heap.size w ((w.alloc (.cells M 38)).alloc (.cells Z 35)) := ((Below.refl _ _).alloc (Nat.le_refl _) _).alloc (by simp) _
  have RS := Lib.hid rs; have RO := Lib.hid ro; have ZS := Lib.hid zs; have A1 := Lib.hid a1; have A2 := Lib.hid a2; have BZ := Lib.hid bz
  clear rs ro zs a1 a2 bz hM hZ hr
  go_enter Tryd.func18, Tryd.ntmps18
  go_upto_region 1 with fail
  clear hx
  generalize (w.alloc (.cells M 38)).alloc (.cells Z 35) = w1 at *
  go_wp2_with (first
    | (refine wpList_load_all (by rfl) 38 _ (by rfl) w.heap.size (by rfl) _ Tryd.underlying38 (by rfl) M _ A1.out (by rw [RS.out]; exact infoRfR) ?_)
    | (refine wpList_store_all (by rfl) 35 _ _ (by rfl) (by rfl) (w.heap.size + 1) M (by rfl) (by rfl) (by rw [RS.out]; exact infoRfP) Z 35 A2.out (by rw [ZS.out, RS.out]) RO.out ?_))
  try simp only [Exit.inBlock, Exit.then]
  refine ret_row (by rfl) (w.heap.size + 1) 35 M _ (by rfl) (At.row (C := Z) A2.out M) Tryd.underlying35 (by rfl) (by rw [RS.out]; exact infoRfP) ?_
  exact ⟨rfl, below_row BZ.out (Nat.le_succ _) M⟩
end Sha
end Go.Proofs.YtmfgimkopddcgaaDoor
namespace Go.Proofs.YtmfgimkopddcgaaDoor
namespace Sha
open Go.RowKit Mem
/-- What the program must keep, where no book is handed in. T: what the calls ask of the world (its laid tables). -/
structure SealP (T : World → Prop) : Prop where
  below : ∀ {w w' : World}, T w → Below w.heap.size w w' → T w'
  sealF : ∀ (key : List (BitVec 8)) (ep : BitVec 32) (block : Int) (page : List (BitVec 8)) (v : Value) (w : World), key.length = 32 → -9223372036854775808 ≤ block → block ≤ 9223372036854775807 → Sl w v page → page.length ≤ 1000 → T w →
    Calls Tryd.prog 11 #[.agg (u8s key).toArray, .int .u32 (V ep), .int .i64 block, v] w (SealEnd w (sealR key ep block page).1 (sealR key ep block page).2)
  hideN : ∀ (key : List (BitVec 8)) (ep : BitVec 32) (place block : Int) (page : List (BitVec 8)) (v : Value) (w : World), key.length = 32 → -9223372036854775808 ≤ place → place ≤ 9223372036854775807 → -9223372036854775808 ≤ block → block ≤ 9223372036854775807 → Sl w v page → page.length ≤ 1000 → T w →
    Calls Tryd.prog 13 #[.pointer none, .agg (u8s key).toArray, .int .u32 (V ep), .int .i64 place, .int .i64 block, v] w (ThreeEnd w (hideR key ep place block page).1 (hideR key ep place block page).2.1 (hideR key ep place block page).2.2)
  openN : ∀ (key : List (BitVec 8)) (r : RefV) (block : Int) (x : List (BitVec 8)) (v : Value) (w : World), key.length = 32 → r.Wf → -9223372036854775808 ≤ block → block ≤ 9223372036854775807 → Sl w v x → x.length ≤ 1000 → T w →
    Calls Tryd.prog 17 #[.pointer none, .agg (u8s key).toArray, .agg (refC r), .int .i64 block, v] w (SealEnd w (openR key r block x).1 (openR key r block x).2)
  lay : ∀ (r : RefV) (w : World), r.Wf → T w → Calls Tryd.prog 22 #[.agg (refC r)] w (RSEnd w (layRf r))
  parse : ∀ (b : List (BitVec 8)) (v : Value) (w : World), Sl w v b → b.length ≤ 1000 → T w → Calls Tryd.prog 20 #[v] w fun e w' => e = .returned (.tuple #[.agg (refC (parseRf b).1), .int .i64 (parseRf b).2]) ∧ Below w.heap.size w w'
  clash : ∀ (ps : List (List (BitVec 8))) (v : Value) (w : World), Sls w v ps → ps.length ≤ 1000 → (∀ p ∈ ps, p.length ≤ 1000) → T w → Calls Tryd.prog 27 #[v] w (ClashEnd ps w)
def K1 : List (BitVec 8) := 1 :: List.replicate 31 0
theorem K1_length : K1.length = 32 := rfl
theorem build_K1 (w : World) : (Instr.build 22 #[(0, .int .u8 1)]).run Tryd.prog w = .ok (.agg (u8s K1).toArray) w := by kernel_rfl
theorem sl_litc (w : World) (x : BitVec 8) : Sl (w.alloc (.cells #[.int .u8 (x.toNat : Int)] 5 (1, 2))) (.slice (some ⟨w.heap.size, 0, none⟩) 1 1) [x] := by
  refine ⟨_, _, rfl, by simp, fun _ => ⟨_, _, rfl, by simp, fun i hi => ?_⟩⟩
  match i, hi with
  | 0, _ => exact cell_of_row _ _ _ _ _ _ (heap_alloc_new w _)
theorem notBad (block : Int) (l : List (BitVec 8)) (h : l.length = 256) (hb : 0 ≤ block) : sealBad block l = false := by
  have h1 : ¬ block < 0 := by omega
  simp [sealBad, h, h1]
theorem hideR_good (key : List (BitVec 8)) (ep : BitVec 32) (place block : Int) (page : List (BitVec 8)) (h : page.length = 256) (hb : 0 ≤ block) (h0 : 0 ≤ place) (h1 : place ≤ 1) : hideR key ep place block page = (sealL key ep block page, ⟨place, ep, digestOf (sealL key ep block page)⟩, 0) := by
  have g : ¬ (place < 0 ∨ 1 < place) := by omega
  unfold hideR
  rw [notBad block page h hb, Bool.false_or, if_neg (by simpa using g)]
theorem openR_good (key : List (BitVec 8)) (r : RefV) (block : Int) (x : List (BitVec 8)) (h : x.length = 256) (hb : 0 ≤ block) (hd : digestOf x = r.dg) : openR key r block x = (sealL key r.ep block x, 0) := by
  unfold openR
  rw [notBad block x h hb, if_neg (by decide), if_neg (fun hn => hn hd)]
theorem openR_corrupt (key : List (BitVec 8)) (r : RefV) (block : Int) (x : List (BitVec 8)) (h : x.length = 256) (hb : 0 ≤ block) (hd : digestOf x ≠ r.dg) : openR key r block x = ([], 9) := by
  unfold openR
  rw [notBad block x h hb, if_neg (by decide), if_pos hd]
set_option maxRecDepth 100000 in
set_option maxHeartbeats 4000000 in
theorem alive9_any {T : World → Prop} (C : SealP T) (w : World) (hT : T w) : Calls Tryd.prog 9 #[] w fun e w' => e = .returned (.bool true) ∧ Below w.heap.size w w' := by
  obtain ⟨P, hP⟩ : ∃ P, P = pageL [97] := ⟨_, rfl⟩
  have pl : P.length = 256 := by rw [hP]; exact pageL_length _
  have p0 : P.getD 0 0 = 97 := by rw [hP]; simp [pageL]
  have p1 : P.getD 1 0 = 0 := by rw [hP]; simp [pageL]
  obtain ⟨L, hL⟩ : ∃ L, L = sealL K1 5 7 P := ⟨_, rfl⟩
  have ll : L.length = 256 := by rw [hL, sealL_length, pl]
  have lb : sealL K1 5 7 L = P := by rw [hL, sealL_back]
  obtain ⟨D, hD, hDl⟩ : ∃ D, D = digestOf L ∧ D.length = 32 := ⟨_, rfl, digestOf_length L⟩
  obtain ⟨r, hr⟩ : ∃ r : RefV, r = ⟨1, 5, D⟩ := ⟨_, rfl⟩
  have hrw : r.Wf := by rw [hr]; exact ⟨by show (-9223372036854775808 : Int) ≤ 1; decide, by show (1 : Int) ≤ 9223372036854775807; decide, hDl⟩
  have eh : hideR K1 5 1 7 P = (L, r, 0) := by rw [hideR_good K1 5 1 7 P pl (by decide) (by decide) (by decide), ← hL, ← hD, ← hr]
  have eo : openR K1 r 7 L = (P, 0) := by rw [openR_good K1 r 7 L ll (by decide) (by rw [hr, hD]), hr, lb]
  have c0 := ref0 r
  have c1 := ref1 r
  have rs := refC_size hrw
  have ro := refC_one r
  have hlit : Below w.heap.size w (w.alloc (.cells #[.int .u8 97] 5 (1, 2))) := (Below.refl _ _).alloc (Nat.le_refl _) _
  have pg : Calls Tryd.prog 10 #[.slice (some ⟨w.heap.size, 0, none⟩) 1 1] (w.alloc (.cells #[.int .u8 97] 5 (1, 2))) (SEnd (w.alloc (.cells #[.int .u8 97] 5 (1, 2))) P) := by
    rw [hP]; exact page_any [97] _ _ (sl_litc w 97)
  have hi : ∀ (v : Value) (wx : World), Sl wx v P → T wx → Calls Tryd.prog 13 #[.pointer none, .agg (u8s K1).toArray, .int .u32 5, .int .i64 1, .int .i64 7, v] wx (ThreeEnd wx L r 0) := fun v wx h1 h2 => by
    have k := C.hideN K1 5 1 7 P v wx K1_length (by decide) (by decide) (by decide) (by decide) h1 (by rw [pl]; decide) h2
    rw [eh] at k
    exact k
  have op : ∀ (v : Value) (wx : World), Sl wx v L → T wx → Calls Tryd.prog 17 #[.pointer none, .agg (u8s K1).toArray, .agg (refC r), .int .i64 7, v] wx (SealEnd wx P 0) := fun v wx h1 h2 => by
    have k := C.openN K1 r 7 L v wx K1_length hrw (by decide) (by decide) h1 (by rw [ll]; decide) h2
    rw [eo] at k
    exact k
  have hpl : r.pl = 1 := by rw [hr]
  have hep : V r.ep = 5 := by rw [hr]; rfl
  rw [hpl] at c0
  rw [hep] at c1
  obtain ⟨M, hM⟩ : ∃ M, M = refC r := ⟨_, rfl⟩
  rw [← hM] at op c0 c1 rs ro
  obtain ⟨K, hK⟩ : ∃ K, K = (u8s K1).toArray := ⟨_, rfl⟩
  have bk := build_K1
  rw [← hK] at bk hi op
  obtain ⟨Z, hZ⟩ : ∃ Z, Z = refC zref := ⟨_, rfl⟩
  have zs : Z.size = 34 := by rw [hZ]; exact refC_size zref_wf
  have hx : ∀ w, (zeroValue 35).run Tryd.prog w = .ok (.agg Z) w := by rw [hZ]; exact zeroRfP
  have CC := Lib.hid C; have TT : Hid (T (w.alloc (.cells #[.int .u8 97] 5 (1, 2)))) := Lib.hid (C.below hT hlit)
  have PG := Lib.hid pg; have HI := Lib.hid hi; have OP := Lib.hid op; have BK := Lib.hid bk; have C0 := Lib.hid c0; have C1 := Lib.hid c1; have RS := Lib.hid rs; have RO := Lib.hid ro; have ZS := Lib.hid zs; have PL := Lib.hid pl; have LL := Lib.hid ll; have P0 := Lib.hid p0; have P1 := Lib.hid p1; have BL := Lib.hid hlit; have HM := Lib.hid hM
  clear C hT pg hi op bk c0 c1 rs ro zs pl ll p0 p1 hlit hM hK hZ hP hL hD hDl hr hrw eh eo lb hpl hep
  have hcv := Lib.run_convert_bytes_const (P := Tryd.prog) w 26 5 #[.int .u8 97] 1 1 Tryd.underlying26 Tryd.underlying5
  go_enter Tryd.func9, Tryd.ntmps9
  go_wp2_with (first
    | (refine Mem.wpList_build (by rfl) 22 _ #[(0, .int .u8 1)] (.agg K) (by rfl) (by simp [Act.eval]) BK.out ?_)
    | fail)
  clear hcv
  refine PG.out.mono ?_
  rintro e w2 ⟨g, rfl, ha, hg, hb2⟩
  have S2 := Lib.hid (at_sl ha rfl)
  rw [PL.out] at S2 ⊢
  have B2 := Lib.hid (BL.out.trans (hb2.mono BL.out.size)); have T2 := Lib.hid (CC.out.below TT.out hb2)
  clear ha hg hb2 PG TT BL
  go_wp2_with fail
  refine (HI.out _ w2 S2.out T2.out).mono ?_
  rintro e w3 ⟨v3, rfl, hs3, hb3⟩
  rw [← HM.out]
  obtain ⟨a3, c3, rfl⟩ := sl_inv hs3
  rw [LL.out] at hs3 ⊢
  have S3 := Lib.hid (hs3.below ((Below.refl _ _).alloc (Nat.le_refl _) (.cells M 35))); have A3 := Lib.hid (at_new w3 M 35)
  have B3 := Lib.hid ((B2.out.trans (hb3.mono B2.out.size)).alloc (Nat.le_trans B2.out.size hb3.size) (.cells M 35))
  have T3 : Hid (T (w3.alloc (.cells M 35))) := Lib.hid (CC.out.below (CC.out.below T2.out hb3) ((Below.refl _ _).alloc (Nat.le_refl _) _))
  clear hs3 hb3 HI S2 B2 T2
  go_wp2_with (first
    | (refine wpList_store_new (by rfl) 35 _ _ (by rfl) (by rfl) M _ _ (by rfl) (by rfl) (by rw [RS.out]; exact infoRfP) (by rw [RS.out, ZS.out]) RO.out ?_; clear hx; generalize w3.alloc (.cells M 35) = w4 at *; generalize w3.heap.size = b4 at *)
    | (refine Mem.wpList_build (by rfl) 22 _ #[(0, .int .u8 1)] (.agg K) (by rfl) (by simp [Act.eval]) BK.out ?_)
    | (refine wpList_load_all (by rfl) 35 _ (by rfl) b4 (by rfl) _ Tryd.underlying35 (by rfl) M _ A3.out (by rw [RS.out]; exact infoRfP) ?_))
  refine (OP.out _ w4 S3.out T3.out).mono ?_
  rintro e w5 ⟨v5, rfl, hs5, hb5⟩
  obtain ⟨a5, c5, e5, _, hr5⟩ := hs5
  obtain ⟨bb, oo, ea, hblt, hcell⟩ := hr5 (by intro e; have := PL.out; rw [e] at this; cases this)
  subst ea
  rw [PL.out] at e5
  subst e5
  have d0 : w5.cell? ⟨bb, oo, none⟩ = some (.int .u8 97) := by have h := hcell 0 (by rw [PL.out]; decide); rw [P0.out] at h; exact h
  have d1 : w5.cell? ⟨bb, oo + 1, none⟩ = some (.int .u8 0) := by have h := hcell 1 (by rw [PL.out]; decide); rw [P1.out] at h; exact h
  have A5 := A3.out.below hb5 A3.out.lt
  have f0 : w5.cell? ⟨b4, 0, none⟩ = some (.int .i64 1) := (A5.cell 0).trans C0.out
  have f1 : w5.cell? ⟨b4, 1, none⟩ = some (.int .u32 5) := (A5.cell 1).trans C1.out
  have B5 := Lib.hid (B3.out.trans (hb5.mono B3.out.size))
  clear hcell hr5 hblt hb5 A5 A3 S3 T3 B3 OP
  go_wp2_with fail
  go_ret
  exact ⟨rfl, B5.out⟩
end Sha
end Go.Proofs.YtmfgimkopddcgaaDoor
namespace Go.Proofs.YtmfgimkopddcgaaDoor
namespace Sha
open Go.RowKit Mem
/-- What a page is sealed with. -/
structure AskV where
  key : List (BitVec 8)
  ep : BitVec 32
  pl : Int
  bl : Int
structure AskV.Wf (a : AskV) : Prop where
  key : a.key.length = 32
  p0 : -9223372036854775808 ≤ a.pl
  p1 : a.pl ≤ 9223372036854775807
  b0 : -9223372036854775808 ≤ a.bl
  b1 : a.bl ≤ 9223372036854775807
def askC (a : AskV) : Array Value := (u8s a.key ++ ([.int .u32 (V a.ep), .int .i64 a.pl, .int .i64 a.bl] : List Value)).toArray
theorem askC_size {a : AskV} (h : a.Wf) : (askC a).size = 35 := by simp [askC, u8s_length, h.key]
theorem ask32 {a : AskV} (h : a.Wf) : (askC a)[32]? = some (.int .u32 (V a.ep)) := by
  simp only [askC, List.getElem?_toArray]
  rw [List.getElem?_append_right (by rw [u8s_length, h.key]; decide), u8s_length, h.key]; rfl
theorem ask33 {a : AskV} (h : a.Wf) : (askC a)[33]? = some (.int .i64 a.pl) := by
  simp only [askC, List.getElem?_toArray]
  rw [List.getElem?_append_right (by rw [u8s_length, h.key]; decide), u8s_length, h.key]; rfl
theorem ask34 {a : AskV} (h : a.Wf) : (askC a)[34]? = some (.int .i64 a.bl) := by
  simp only [askC, List.getElem?_toArray]
  rw [List.getElem?_append_right (by rw [u8s_length, h.key]; decide), u8s_length, h.key]; rfl
theorem ask_key {a : AskV} (h : a.Wf) : (askC a).extract 0 (0 + 32) = (u8s a.key).toArray := by
  apply Array.ext'
  have hl : (u8s a.key).length = 32 := by rw [u8s_length, h.key]
  simp only [askC, Array.toList_extract, List.extract_eq_take_drop]
  rw [List.drop_zero, List.take_append_of_le_length (by rw [hl]; decide), List.take_of_length_le (by rw [hl]; decide)]
end Sha
end Go.Proofs.YtmfgimkopddcgaaDoor
namespace Go.Proofs.YtmfgimkopddcgaaDoor
namespace Sha
open Go.RowKit Mem
theorem o_eqlI {P : Program} (k : IntKind) (q : Int) (t : TypeId) (x y : Operand) (w : World) : (do eqGuard .eql t x y (.int k q) (.int k q); binOp .eql t (.int k q) (.int k q) : Sem Value).run P w = .ok (.bool true) w := by go_simp
theorem o_neqI {P : Program} (k : IntKind) (q : Int) (t : TypeId) (x y : Operand) (w : World) : (do eqGuard .neq t x y (.int k q) (.int k q); binOp .neq t (.int k q) (.int k q) : Sem Value).run P w = .ok (.bool false) w := by go_simp
theorem infoAsk : (Tryd.prog.info? 25).map (·.size) = some 35 := by kernel_rfl
theorem sealR_len (key : List (BitVec 8)) (ep : BitVec 32) (block : Int) (p : List (BitVec 8)) : (sealR key ep block p).1.length ≤ p.length := by
  unfold sealR
  split
  · simp
  · show (sealL key ep block p).length ≤ _; rw [sealL_length]; exact Nat.le_refl _
theorem hideR_len (key : List (BitVec 8)) (ep : BitVec 32) (pl block : Int) (p : List (BitVec 8)) : (hideR key ep pl block p).1.length ≤ p.length := by
  unfold hideR
  split
  · simp
  · show (sealL key ep block p).length ≤ _; rw [sealL_length]; exact Nat.le_refl _
theorem openR_len (key : List (BitVec 8)) (r : RefV) (block : Int) (x : List (BitVec 8)) : (openR key r block x).1.length ≤ x.length := by
  unfold openR
  split
  · simp
  · split
    · simp
    · show (sealL key r.ep block x).length ≤ _; rw [sealL_length]; exact Nat.le_refl _
theorem hideR_err (key : List (BitVec 8)) (ep : BitVec 32) (pl block : Int) (p : List (BitVec 8)) : 0 ≤ (hideR key ep pl block p).2.2 := by
  unfold hideR
  split
  · show (0 : Int) ≤ 1; decide
  · exact Int.le_refl _
end Sha
end Go.Proofs.YtmfgimkopddcgaaDoor
