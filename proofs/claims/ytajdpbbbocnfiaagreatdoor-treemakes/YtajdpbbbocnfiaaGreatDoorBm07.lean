/- My own texts, merged. -/
import Derived.Test.YtajdpbbbocnfiaaGreatDoorBm01
import Derived.Test.YtajdpbbbocnfiaaGreatDoorBm00
import Derived.Laws.Tables
import Derived.Test.YtajdpbbbocnfiaaGreatDoorBm03
namespace Go.Proofs.YtajdpbbbocnfiaaGreatDoor
namespace Sha
open Go.RowKit Mem
theorem infoDg : (Tryz.prog.info? 22).map (·.size) = some 32 := by kernel_rfl
theorem sizeB1 (w : World) : (sizeOf 5).run Tryz.prog w = .ok 1 w := by kernel_rfl
set_option maxRecDepth 10000 in
theorem eq32 (d : Nat) (l m : List (BitVec 8)) (hl : l.length = 32) (hm : m.length = 32) (w : World) : (Op.equalIn (d + 2) 22 (.agg (u8s l).toArray) (.agg (u8s m).toArray)).run Tryz.prog w = .ok (l == m) w := by
 have e1 : ∀ k : List (BitVec 8), u8s k = (k.map fun x => (x.toNat : Int)).map (Value.int .u8) := fun k => by simp [u8s]
 have h := run_equalIn_ints (P := Tryz.prog) w d 22 5 .u8 32 Tryz.underlying22 Tryz.underlying5 sizeB1 (l.map fun x => (x.toNat : Int)) (m.map fun x => (x.toNat : Int)) (by simpa using hl) (by simpa using hm)
 rw [e1, e1, h]
 congr 1
 rw [Bool.eq_iff_iff, beq_iff_eq, beq_iff_eq]
 exact (List.map_inj_right (fun a b h => by apply BitVec.eq_of_toNat_eq; omega)).trans Iff.rfl
theorem neqDg (l m : List (BitVec 8)) (hl : l.length = 32) (hm : m.length = 32) (x y : Operand) (w : World) : (do eqGuard .neq 22 x y (.agg (u8s l).toArray) (.agg (u8s m).toArray); binOp .neq 22 (.agg (u8s l).toArray) (.agg (u8s m).toArray) : Sem Value).run Tryz.prog w = .ok (.bool (!(l == m))) w := by
 rw [Sem.run_bind, run_eqGuard_agg w .neq 22 x y _ _ (by kernel_rfl), Result.andThen_ok, run_neq_struct, eq32 9998 l m hl hm w]; rfl
structure RefV where
 pl : Int
 ep : BitVec 32
 dg : List (BitVec 8)
structure RefV.Wf (r : RefV) : Prop where
 p0 : -9223372036854775808 ≤ r.pl
 p1 : r.pl ≤ 9223372036854775807
 dg : r.dg.length = 32
def refL (r : RefV) : List Value := [.int .i64 r.pl, .int .u32 (V r.ep)] ++ u8s r.dg
def refC (r : RefV) : Array Value := (refL r).toArray
theorem refC_size {r : RefV} (h : r.Wf) : (refC r).size = 34 := by simp [refC, refL, u8s_length, h.dg]
theorem refC_one (r : RefV) : (refC r).all (·.oneCell') = true := by
 rw [Array.all_eq_true]
 intro i hi
 have hm : (refC r)[i] ∈ refL r := by
  have h : (refC r)[i] ∈ refC r := Array.getElem_mem hi
  exact Array.mem_toList_iff.2 h
 generalize (refC r)[i] = u at hm
 simp only [refL, List.mem_append, List.mem_cons, List.not_mem_nil, or_false] at hm
 rcases hm with (rfl | rfl) | hm
 all_goals first | rfl | exact u8s_cells _ _ hm
theorem ref0 (r : RefV) : (refC r)[0]? = some (.int .i64 r.pl) := by simp [refC, refL]
theorem ref1 (r : RefV) : (refC r)[1]? = some (.int .u32 (V r.ep)) := by simp [refC, refL]
theorem ref_dg {r : RefV} (h : r.Wf) (i : Nat) (hi : i < 32) : (refC r)[2 + i]? = some (.int .u8 ((r.dg.getD i 0).toNat : Int)) := by
 have e := u8s_get r.dg i (by rw [h.dg]; exact hi)
 rw [← e]
 simp only [refC, refL, List.getElem?_toArray]
 rw [List.getElem?_append_right (by simp)]
 simp
theorem ref_dgRow {r : RefV} (h : r.Wf) : (refC r).extract 2 (2 + 32) = (u8s r.dg).toArray := by
 apply Array.ext'
 simp [refC, refL]
 exact List.take_of_length_le (by rw [u8s_length, h.dg]; exact Nat.le_refl _)
def zref : RefV := ⟨0, 0, List.replicate 32 0⟩
theorem zref_wf : zref.Wf := ⟨by decide, by decide, by decide⟩
theorem V_inj {x y : BitVec 32} (h : V x = V y) : x = y := by
 apply BitVec.eq_of_toNat_eq
 have : (x.toNat : Int) = (y.toNat : Int) := h
 omega
def sameRef (a b : RefV) : Bool := (a.pl == b.pl) && ((V a.ep == V b.ep) && (a.dg == b.dg))
theorem sameRef_iff (a b : RefV) : sameRef a b = true ↔ a = b := by
 obtain ⟨p, e, d⟩ := a
 obtain ⟨p', e', d'⟩ := b
 simp only [sameRef, Bool.and_eq_true, beq_iff_eq, RefV.mk.injEq]
 exact ⟨fun ⟨h1, h2, h3⟩ => ⟨h1, V_inj h2, h3⟩, fun ⟨h1, h2, h3⟩ => ⟨h1, by rw [h2], h3⟩⟩
theorem sameRef_self (a : RefV) : sameRef a a = true := (sameRef_iff a a).2 rfl
def layRf (r : RefV) : List (BitVec 8) := [BitVec.ofInt 8 r.pl] ++ le4 r.ep ++ r.dg
theorem layRf_length {r : RefV} (h : r.Wf) : (layRf r).length = 37 := by simp [layRf, le4, h.dg]
def rfOf (b : List (BitVec 8)) : RefV := ⟨((b.getD 0 0).toNat : Int), lew (b.drop 1) 0, b.drop 5⟩
theorem rfOf_wf (b : List (BitVec 8)) (h : b.length = 37) : (rfOf b).Wf := by
 have := (b.getD 0 0).isLt
 exact ⟨by show _ ≤ ((b.getD 0 0).toNat : Int); omega, by show ((b.getD 0 0).toNat : Int) ≤ _; omega, by simp [rfOf, h]⟩
def parseRf (b : List (BitVec 8)) : RefV × Int := if b.length ≠ 37 ∨ 1 < (b.getD 0 0).toNat then (zref, 1) else (rfOf b, 0)
theorem lew_le4 (x : BitVec 32) (t : List (BitVec 8)) : lew (le4 x ++ t) 0 = x := by
 simp only [lew, le4, List.cons_append, List.nil_append, Nat.mul_zero, Nat.zero_add, List.getD_cons_zero, List.getD_cons_succ, wb]
 apply BitVec.eq_of_getLsbD_eq
 intro i hi
 simp only [BitVec.getLsbD_or, BitVec.getLsbD_shiftLeft, BitVec.getLsbD_setWidth, BitVec.getLsbD_ushiftRight]
 rcases (by omega : i < 8 ∨ (8 ≤ i ∧ i < 16) ∨ (16 ≤ i ∧ i < 24) ∨ 24 ≤ i) with h | h | h | h
 ·simp [hi, h, show i < 24 by omega, show i < 16 by omega]
 ·simp [hi, show ¬ i < 8 by omega, show i < 24 by omega, show i < 16 by omega, show i - 8 < 8 by omega, show i - 8 < 32 by omega, show 8 + (i - 8) = i by omega]
 ·simp [hi, show ¬ i < 8 by omega, show i < 24 by omega, show ¬ i < 16 by omega, show ¬ i - 8 < 8 by omega, show i - 16 < 8 by omega, show i - 16 < 32 by omega, show 16 + (i - 16) = i by omega]
 ·simp [hi, show ¬ i < 8 by omega, show ¬ i < 24 by omega, show ¬ i < 16 by omega, show ¬ i - 8 < 8 by omega, show ¬ i - 16 < 8 by omega, show i - 24 < 8 by omega, show i - 24 < 32 by omega, show 24 + (i - 24) = i by omega]
theorem le4_lew (a b c d : BitVec 8) (t : List (BitVec 8)) : le4 (lew (a :: b :: c :: d :: t) 0) = [a, b, c, d] := by
 have key : ∀ (k : Nat) (z : BitVec 8), (∀ i, i < 8 → (lew (a :: b :: c :: d :: t) 0).getLsbD (k + i) = z.getLsbD i) → wb (lew (a :: b :: c :: d :: t) 0) k = z := by
  intro k z h
  apply BitVec.eq_of_getLsbD_eq
  intro i hi
  rw [wb, BitVec.getLsbD_setWidth, BitVec.getLsbD_ushiftRight]
  simp [hi, h i hi]
 have z8 : ∀ (y : BitVec 8) (i : Nat), 8 ≤ i → y.getLsbD i = false := fun y i h => BitVec.getLsbD_of_ge y i h
 have hl : ∀ i, (lew (a :: b :: c :: d :: t) 0).getLsbD i = (((decide (i < 32) && !decide (i < 24) && (decide (i - 24 < 32) && d.getLsbD (i - 24))) || (decide (i < 32) && !decide (i < 16) && (decide (i - 16 < 32) && c.getLsbD (i - 16)))) || (decide (i < 32) && !decide (i < 8) && (decide (i - 8 < 32) && b.getLsbD (i - 8)))
  || (decide (i < 32) && a.getLsbD i)) := by
  intro i
  simp only [lew, Nat.mul_zero, Nat.zero_add, List.getD_cons_zero, List.getD_cons_succ, BitVec.getLsbD_or, BitVec.getLsbD_shiftLeft, BitVec.getLsbD_setWidth]
 simp only [le4]
 rw [key 0 a, key 8 b, key 16 c, key 24 d]
 ·intro i hi
  rw [hl]
  simp [show 24 + i < 32 by omega, show ¬ 24 + i < 24 by omega, show ¬ 24 + i < 16 by omega, show ¬ 24 + i < 8 by omega, show 24 + i - 24 = i by omega, z8 c (24 + i - 16) (by omega), z8 b (24 + i - 8) (by omega), z8 a (24 + i) (by omega), show i < 32 by omega]
 ·intro i hi
  rw [hl]
  simp [show 16 + i < 32 by omega, show 16 + i < 24 by omega, show ¬ 16 + i < 16 by omega, show ¬ 16 + i < 8 by omega, show 16 + i - 16 = i by omega, z8 b (16 + i - 8) (by omega), z8 a (16 + i) (by omega), show i < 32 by omega]
 ·intro i hi
  rw [hl]
  simp [show 8 + i < 32 by omega, show 8 + i < 24 by omega, show 8 + i < 16 by omega, show ¬ 8 + i < 8 by omega, show 8 + i - 8 = i by omega, show i < 32 by omega]
 ·intro i hi
  rw [hl]
  simp [hi, show i < 32 by omega, show i < 24 by omega, show i < 16 by omega]
theorem zeroRfR (w : World) : (zeroValue 36).run Tryz.prog w = .ok (.agg (refC zref)) w := by kernel_rfl
theorem zeroRfP (w : World) : (zeroValue 31).run Tryz.prog w = .ok (.agg (refC zref)) w := by kernel_rfl
theorem buildRf0 (w : World) : (Instr.build 36 #[]).run Tryz.prog w = .ok (.agg (refC zref)) w := run_build w _ _ _ (by kernel_rfl)
theorem buildRf3 (p : Int) (e : BitVec 32) (dg : List (BitVec 8)) (h : dg.length = 32) (w : World) : (Instr.build 36 #[(0, .int .i64 p), (1, .int .u32 (V e)), (2, .agg (u8s dg).toArray)]).run Tryz.prog w = .ok (.agg (refC ⟨p, e, dg⟩)) w := by
 match dg, h with
 | [a0, a1, a2, a3, a4, a5, a6, a7, a8, a9, a10, a11, a12, a13, a14, a15, a16, a17, a18, a19, a20, a21, a22, a23, a24, a25, a26, a27, a28, a29, a30, a31], _ => exact run_build w _ _ _ (by kernel_rfl)
theorem infoRfR : (Tryz.prog.info? 36).map (·.size) = some 34 := by kernel_rfl
theorem infoRfP : (Tryz.prog.info? 31).map (·.size) = some 34 := by kernel_rfl
theorem parts_ref {a b : RefV} (ha : a.Wf) (hb : b.Wf) (d : Nat) (w : World) : (eqParts (d + 2) (refC a) (refC b) [(true, 3, 0), (true, 23, 1), (true, 22, 2)]).run Tryz.prog w = .ok (sameRef a b) w := by
 have e : sameRef a b = ((a.pl == b.pl) && ((V a.ep == V b.ep) && ((a.dg == b.dg) && true))) := by simp [sameRef]
 rw [e]
 refine eqParts_cons (run_part_int w 3 .i64 Tryz.underlying3 (refC a) 0 _ (ref0 a)) (run_part_int w 3 .i64 Tryz.underlying3 (refC b) 0 _ (ref0 b)) (run_equalIn_int w (d + 1) 3 .i64 .i64 _ _ Tryz.underlying3) ?_
 refine eqParts_cons (run_part_int w 23 .u32 Tryz.underlying23 (refC a) 1 _ (ref1 a)) (run_part_int w 23 .u32 Tryz.underlying23 (refC b) 1 _ (ref1 b)) (run_equalIn_int w (d + 1) 23 .u32 .u32 _ _ Tryz.underlying23) ?_
 exact eqParts_cons (run_part_arr w _ _ 32 32 Tryz.underlying22 infoDg _ 2 _ (ref_dgRow ha)) (run_part_arr w _ _ 32 32 Tryz.underlying22 infoDg _ 2 _ (ref_dgRow hb)) (eq32 d _ _ ha.dg hb.dg w) rfl
theorem eqlRf (t : TypeId) (hf : (Tryz.prog.fieldsOf t).toList.map (fun f => (decide (f.name ≠ "_"), f.type, f.offset)) = [(true, 3, 0), (true, 23, 1), (true, 22, 2)])
 (hu : Tryz.prog.underlying t = some (.struct (Tryz.prog.fieldsOf t))) (hp : Tryz.prog.stoodInHeld t = false) (hg : Tryz.prog.eqGuardType Tryz.prog.depth t = false) {a b : RefV} (ha : a.Wf) (hb : b.Wf) (x y : Operand) (w : World) :
 (do eqGuard .eql t x y (.agg (refC a)) (.agg (refC b)); binOp .eql t (.agg (refC a)) (.agg (refC b)) : Sem Value).run Tryz.prog w = .ok (.bool (sameRef a b)) w ∧
 (do eqGuard .neq t x y (.agg (refC a)) (.agg (refC b)); binOp .neq t (.agg (refC a)) (.agg (refC b)) : Sem Value).run Tryz.prog w = .ok (.bool (!sameRef a b)) w := by
 have h := run_equalIn_agg w 9999 t (refC a) (refC b) hu hp
 rw [eqFields_parts, hf, parts_ref ha hb 9997 w] at h
 constructor
 ·rw [Sem.run_bind, run_eqGuard_agg w .eql t x y _ _ hg, Result.andThen_ok, run_eql_struct, h]; rfl
 ·rw [Sem.run_bind, run_eqGuard_agg w .neq t x y _ _ hg, Result.andThen_ok, run_neq_struct, h]; rfl
theorem eqlRP {a b : RefV} (ha : a.Wf) (hb : b.Wf) (x y : Operand) (w : World) : (do eqGuard .eql 31 x y (.agg (refC a)) (.agg (refC b)); binOp .eql 31 (.agg (refC a)) (.agg (refC b)) : Sem Value).run Tryz.prog w = .ok (.bool (sameRef a b)) w :=
 (eqlRf _ (by kernel_rfl) (by kernel_rfl) (by kernel_rfl) (by kernel_rfl) ha hb x y w).1
def plOk (r : RefV) : Bool := decide (0 ≤ r.pl ∧ r.pl ≤ 1)
def bodyN (L : List RefV) (n : Nat) : List (BitVec 8) := BitVec.ofNat 8 L.length :: (L.take n).flatMap layRf
theorem bodyN_succ (L : List RefV) (n : Nat) (h : n < L.length) : bodyN L (n + 1) = bodyN L n ++ layRf (L.getD n zref) := by
 unfold bodyN
 rw [List.take_add_one, List.getElem?_eq_getElem h, List.flatMap_append]
 simp [List.getD_eq_getElem?_getD, List.getElem?_eq_getElem h]
theorem flat_length (L : List RefV) (h : ∀ r ∈ L, r.Wf) : (L.flatMap layRf).length = 37 * L.length := by
 induction L with
 | nil => rfl
 | cons r L ih =>
  rw [List.flatMap_cons, List.length_append, layRf_length (h r (List.mem_cons_self ..)), ih (fun x hx => h x (List.mem_cons_of_mem _ hx)), List.length_cons]
  omega
theorem bodyN_length (L : List RefV) (n : Nat) (h : ∀ r ∈ L, r.Wf) (hn : n ≤ L.length) : (bodyN L n).length = 1 + 37 * n := by
 unfold bodyN
 rw [List.length_cons, flat_length _ (fun r hr => h r (List.mem_of_mem_take hr)), List.length_take]
 omega
def layN (L : List RefV) : List (BitVec 8) × Int :=
 if L.length < 1 ∨ 6 < L.length ∨ L.all plOk = false then ([], 1) else (bodyN L L.length ++ List.replicate (256 - (1 + 37 * L.length)) 0, 0)
theorem layN_ok {L : List RefV} {p : List (BitVec 8)} (h : layN L = (p, 0)) : (1 ≤ L.length ∧ L.length ≤ 6) ∧ L.all plOk = true ∧ p = bodyN L L.length ++ List.replicate (256 - (1 + 37 * L.length)) 0 := by
 unfold layN at h
 split at h
 ·injection h with _ h; cases h
 ·rename_i hc
  injection h with h _
  refine ⟨by omega, ?_, h.symm⟩
  cases e : L.all plOk
  ·exact absurd (Or.inr (Or.inr e)) hc
  ·rfl
theorem layN_length {L : List RefV} {p : List (BitVec 8)} (hw : ∀ r ∈ L, r.Wf) (h : layN L = (p, 0)) : p.length = 256 := by
 obtain ⟨h1, _, rfl⟩ := layN_ok h
 rw [List.length_append, bodyN_length L _ hw (Nat.le_refl _), List.length_replicate]
 omega
def pieceN (p : List (BitVec 8)) (i : Nat) : List (BitVec 8) := (p.drop (1 + 37 * i)).take 37
def manyN (p : List (BitVec 8)) : Nat := min (p.getD 0 0).toNat 6
def refsN (p : List (BitVec 8)) (n : Nat) : List RefV := (List.range n).map fun i => rfOf (pieceN p i)
theorem refsN_length (p : List (BitVec 8)) (n : Nat) : (refsN p n).length = n := by simp [refsN]
theorem refsN_succ (p : List (BitVec 8)) (n : Nat) : refsN p (n + 1) = refsN p n ++ [rfOf (pieceN p n)] := by simp [refsN, List.range_succ]
theorem refsN_get (p : List (BitVec 8)) (n i : Nat) (h : i < n) : (refsN p n).getD i zref = rfOf (pieceN p i) := by simp [refsN, List.getD_eq_getElem?_getD, h]
theorem piece_length (p : List (BitVec 8)) (i : Nat) (h : p.length = 256) (hi : i < 6) : (pieceN p i).length = 37 := by
 unfold pieceN
 rw [List.length_take, List.length_drop]
 omega
theorem refsN_wf (p : List (BitVec 8)) (n : Nat) (h : p.length = 256) (hn : n ≤ 6) : ∀ r ∈ refsN p n, r.Wf := by
 intro r hr
 unfold refsN at hr
 obtain ⟨i, hi, rfl⟩ := List.mem_map.1 hr
 exact rfOf_wf _ (piece_length p i h (by have := List.mem_range.1 hi; omega))
def allN (p : List (BitVec 8)) : List RefV × Int :=
 if p.length ≠ 256 then ([], 1) else if layN (refsN p (manyN p)) = (p, 0) then (refsN p (manyN p), 0) else ([], 9)
def parseN (p : List (BitVec 8)) (z : Int) : List RefV × Int :=
 if z < 1 ∨ 6 < z then ([], 1) else if (allN p).2 = 0 ∧ ((allN p).1.length : Int) ≠ z then ([], 9) else allN p
theorem bad_piece (p : List (BitVec 8)) (i n : Nat) (hi : i < n) (h : 1 < ((pieceN p i).getD 0 0).toNat) : layN (refsN p n) = ([], 1) := by
 unfold layN
 refine if_pos (Or.inr (Or.inr ?_))
 rw [List.all_eq_false]
 refine ⟨rfOf (pieceN p i), List.mem_map.2 ⟨i, List.mem_range.2 hi, rfl⟩, ?_⟩
 have e : (rfOf (pieceN p i)).pl = (((pieceN p i).getD 0 0).toNat : Int) := rfl
 unfold plOk
 rw [e]
 intro hc
 have h2 := of_decide_eq_true hc
 omega
theorem allN_lay {p : List (BitVec 8)} {L : List RefV} (h : allN p = (L, 0)) : layN L = (p, 0) := by
 unfold allN at h
 split at h
 ·injection h with _ h; cases h
 ·split at h
  ·rename_i h2
   injection h with h _
   rw [← h]; exact h2
  ·injection h with _ h; cases h
theorem ref_back (r : RefV) (hr : r.Wf) (h : plOk r = true) : rfOf (layRf r) = r := by
 have h2 : 0 ≤ r.pl ∧ r.pl ≤ 1 := by simpa [plOk] using h
 obtain ⟨p, e, d⟩ := r
 have hd : d.length = 32 := hr.dg
 have hp : p = 0 ∨ p = 1 := by simp only at h2; omega
 unfold rfOf layRf
 rw [RefV.mk.injEq]
 refine ⟨?_, ?_, ?_⟩
 ·rcases hp with rfl | rfl <;> rfl
 ·show lew (([BitVec.ofInt 8 p] ++ le4 e ++ d).drop 1) 0 = e
  exact lew_le4 e d
 ·show ([BitVec.ofInt 8 p] ++ le4 e ++ d).drop 5 = d
  rfl
theorem flat_piece : ∀ (L : List RefV) (t : List (BitVec 8)), (∀ r ∈ L, r.Wf) → ∀ i, i < L.length → ((L.flatMap layRf ++ t).drop (37 * i)).take 37 = layRf (L.getD i zref) := by
 intro L
 induction L with
 | nil => intro t _ i hi; simp at hi
 | cons r L ih =>
  intro t h i hi
  have hl := layRf_length (h r (List.mem_cons_self ..))
  rw [List.flatMap_cons, List.append_assoc]
  match i with
  | 0 =>
   show (layRf r ++ _).take 37 = layRf r
   rw [List.take_append_of_le_length (by omega), List.take_of_length_le (by omega)]
  | i + 1 =>
   have e : 37 * (i + 1) = (layRf r).length + 37 * i := by omega
   rw [e, List.drop_append, List.drop_of_length_le (by omega), List.nil_append, Nat.add_sub_cancel_left]
   exact ih t (fun x hx => h x (List.mem_cons_of_mem _ hx)) i (by simpa using hi)
theorem lay_piece {L : List RefV} {p : List (BitVec 8)} (hw : ∀ r ∈ L, r.Wf) (h : layN L = (p, 0)) (i : Nat) (hi : i < L.length) : pieceN p i = layRf (L.getD i zref) := by
 obtain ⟨_, _, rfl⟩ := layN_ok h
 unfold pieceN bodyN
 rw [List.take_of_length_le (Nat.le_refl _), List.cons_append, Nat.add_comm 1 (37 * i), List.drop_succ_cons]
 exact flat_piece L _ hw i hi
theorem lay_many {L : List RefV} {p : List (BitVec 8)} (h : layN L = (p, 0)) : manyN p = L.length ∧ (p.getD 0 0).toNat = L.length := by
 obtain ⟨h1, _, rfl⟩ := layN_ok h
 have e : ((bodyN L L.length ++ List.replicate (256 - (1 + 37 * L.length)) 0).getD 0 0).toNat = L.length := by
  show (BitVec.ofNat 8 L.length).toNat = L.length
  rw [BitVec.toNat_ofNat]
  omega
 unfold manyN
 rw [e]
 omega
theorem lay_refs {L : List RefV} {p : List (BitVec 8)} (hw : ∀ r ∈ L, r.Wf) (h : layN L = (p, 0)) : refsN p L.length = L := by
 have ho := (layN_ok h).2.1
 apply List.ext_getElem
 ·rw [refsN_length]
 ·intro i h1 h2
  have a := refsN_get p L.length i h2
  rw [lay_piece hw h i h2] at a
  have e : L.getD i zref = L[i] := by simp [List.getD_eq_getElem?_getD, h2]
  rw [e, ref_back L[i] (hw _ (List.getElem_mem h2)) (List.all_eq_true.1 ho _ (List.getElem_mem h2))] at a
  rw [← a]
  simp [List.getD_eq_getElem?_getD, h1]
theorem layN_all {L : List RefV} {p : List (BitVec 8)} (hw : ∀ r ∈ L, r.Wf) (h : layN L = (p, 0)) : allN p = (L, 0) := by
 unfold allN
 rw [if_neg (fun hn => hn (layN_length hw h)), (lay_many h).1, lay_refs hw h, if_pos h]
theorem lay_parse {L : List RefV} {p : List (BitVec 8)} (hw : ∀ r ∈ L, r.Wf) (h : layN L = (p, 0)) : parseN p (L.length : Int) = (L, 0) := by
 have h1 := (layN_ok h).1
 unfold parseN
 rw [layN_all hw h, if_neg (by omega), if_neg (by simp)]
theorem allN_wf (p : List (BitVec 8)) : ∀ r ∈ (allN p).1, r.Wf := by
 unfold allN
 split
 ·intro r hr; cases hr
 ·rename_i h
  split
  ·exact refsN_wf p _ (by omega) (by unfold manyN; omega)
  ·intro r hr; cases hr
theorem allN_le (p : List (BitVec 8)) : (allN p).1.length ≤ 6 := by
 unfold allN
 split
 ·simp
 ·split
  ·rw [refsN_length]; unfold manyN; omega
  ·simp
end Sha
end Go.Proofs.YtajdpbbbocnfiaaGreatDoor
