/- My own texts, merged. -/
import Derived.Test.YtajdpbbbocnfiaaGreatDoorBm01
import Derived.Test.YtajdpbbbocnfiaaGreatDoorBm00
import Derived.Laws.BitsAllLaws
import Derived.Lib.SliceRun
import Derived.Laws.CopyRow
import Derived.Laws.IdiomCopy
namespace Go.Proofs.YtajdpbbbocnfiaaGreatDoor
namespace Sha
open Go.RowKit Mem
def SEnd (w : World) (L : List (BitVec 8)) (e : Ending) (w' : World) : Prop :=
 ∃ g, e = .returned (.slice (some ⟨g, 0, none⟩) L.length L.length) ∧ At w' g (u8s L).toArray 5 ∧ w.heap.size ≤ g ∧ Below w.heap.size w w'
def RSEnd (w : World) (L : List (BitVec 8)) (e : Ending) (w' : World) : Prop := ∃ v, e = .returned v ∧ Sl w' v L ∧ Below w.heap.size w w'
theorem sl_none (w : World) : Sl w (.slice none 0 0) [] := ⟨none, 0, rfl, by simp, fun h => absurd rfl h⟩
def rowZ (l : List (BitVec 8)) (n i : Nat) : List (BitVec 8) := l.take i ++ List.replicate (n - i) 0
theorem rowZ_length (l : List (BitVec 8)) (n i : Nat) (hl : l.length = n) (h : i ≤ n) : (rowZ l n i).length = n := by simp [rowZ, hl]; omega
theorem rowZ_set (l : List (BitVec 8)) (n i : Nat) (hl : l.length = n) (h : i < n) : (rowZ l n i).set i (l.getD i 0) = rowZ l n (i + 1) := by
 unfold rowZ
 have hi : i < l.length := by omega
 rw [List.set_append_right _ _ (by rw [List.length_take]; omega), List.length_take, Nat.min_eq_left (by omega), Nat.sub_self, show n - i = (n - (i + 1)) + 1 by omega, List.replicate_succ, List.set_cons_zero, List.take_succ_eq_append_getElem hi, List.append_assoc]
 simp [List.getD_eq_getElem?_getD, hi]
theorem rowZ_all (l : List (BitVec 8)) (n : Nat) (hl : l.length = n) : rowZ l n n = l := by
 unfold rowZ
 rw [List.take_of_length_le (by omega)]
 simp
structure TabV (w : World) (g : Nat) (cs : List Value) : Prop where
 lt : g < w.heap.size
 c : w.rangeAt g 0 cs
theorem TabV.below {w w' : World} {B g : Nat} {cs : List Value} (h : TabV w g cs) (hb : Below B w w') (hlt : g < B) : TabV w' g cs :=
 ⟨Nat.lt_of_lt_of_le h.lt hb.size, fun j v hv => by rw [hb.cell (p := ⟨g, 0 + j, none⟩) hlt]; exact h.c j v hv⟩
def rowY (l : List (BitVec 32)) (n i : Nat) : List (BitVec 32) := l.take i ++ List.replicate (n - i) 0
theorem rowY_length (l : List (BitVec 32)) (n i : Nat) (hl : l.length = n) (h : i ≤ n) : (rowY l n i).length = n := by simp [rowY, hl]; omega
theorem rowY_set (l : List (BitVec 32)) (n i : Nat) (hl : l.length = n) (h : i < n) : (rowY l n i).set i (l.getD i 0) = rowY l n (i + 1) := by
 unfold rowY
 have hi : i < l.length := by omega
 rw [List.set_append_right _ _ (by rw [List.length_take]; omega), List.length_take, Nat.min_eq_left (by omega), Nat.sub_self, show n - i = (n - (i + 1)) + 1 by omega, List.replicate_succ, List.set_cons_zero, List.take_succ_eq_append_getElem hi, List.append_assoc]
 simp [List.getD_eq_getElem?_getD, hi]
theorem rowY_all (l : List (BitVec 32)) (n : Nat) (hl : l.length = n) : rowY l n n = l := by
 unfold rowY
 rw [List.take_of_length_le (by omega)]
 simp
end Sha
end Go.Proofs.YtajdpbbbocnfiaaGreatDoor
namespace Go.Proofs.YtajdpbbbocnfiaaGreatDoor
namespace Sha
open Go.RowKit Mem
def pieceA (a : Option Addr) (cap i : Nat) : Option Addr := if cap = i then a else a.map (·.add i)
theorem sl_piece {w : World} {a : Option Addr} {cap i j : Nat} {l : List (BitVec 8)} (h : Sl w (.slice a l.length cap) l) (hi : i ≤ j) (hj : j ≤ l.length) : Sl w (.slice (pieceA a cap i) (j - i) (cap - i)) ((l.drop i).take (j - i)) := by
 obtain ⟨a', cap', e, hcap, hr⟩ := h
 injection e with e1 _ e3
 subst e1; subst e3
 have hl : ((l.drop i).take (j - i)).length = j - i := by rw [List.length_take, List.length_drop]; omega
 refine ⟨_, _, by rw [hl], by rw [hl]; omega, fun hne => ?_⟩
 have hij : i < j := by
  rcases Nat.lt_or_ge i j with h | h
  ·exact h
  ·rw [show j - i = 0 by omega, List.take_zero] at hne
   exact absurd rfl hne
 obtain ⟨bb, oo, rfl, hlt, hc⟩ := hr (by intro h0; rw [h0] at hj; simp at hj; omega)
 refine ⟨bb, oo + i, by rw [pieceA, if_neg (by omega)]; simp [Addr.add_mid], hlt, fun k hk => ?_⟩
 rw [hl] at hk
 rw [Nat.add_assoc, hc (i + k) (by omega)]
 simp [List.getD_eq_getElem?_getD, hk]
section
variable {ops : Array Oper} {rest : List Oper} {o : Oper} {a : Act} {w : World} {Q : Exit → Act → World → Prop}
theorem slice_run (ty : TypeId) (e : TypeId) (hu : Tryz.prog.underlying ty = some (.slice e)) (hs : (Tryz.prog.info? e).map (·.size) = some 1) (a0 : Option Addr) (len cap i j : Nat) (hij : i ≤ j) (hj : j ≤ len) (hc : len ≤ cap) (w : World) :
 (Instr.sliceAt ty (.slice a0 len cap) (some (.int .i64 (i : Int))) (some (.int .i64 (j : Int))) none).run Tryz.prog w = .ok (.slice (pieceA a0 cap i) (j - i) (cap - i)) w ∧
 (Instr.sliceAt ty (.slice a0 len cap) none (some (.int .i64 (j : Int))) none).run Tryz.prog w = .ok (.slice (pieceA a0 cap 0) j cap) w ∧
 (Instr.sliceAt ty (.slice a0 len cap) (some (.int .i64 (i : Int))) none none).run Tryz.prog w = .ok (.slice (pieceA a0 cap i) (len - i) (cap - i)) w := by
 cases hq : Tryz.prog.info? e with
 | none => simp [hq] at hs
 | some q =>
  have hs1 : q.size = 1 := by simpa [hq] using hs
  have hjc : j ≤ cap := by omega
  have hil : i ≤ len := by omega
  refine ⟨?_, ?_, ?_⟩ <;> simp [Instr.sliceAt, Instr.slice, Instr.sliceBounds, Instr.sliceBound, asIntOf, Sem.run_bind, run_underlying hu, sizeOf, typeInfo, hq, hs1, hij, hjc, hil, pieceA]
theorem wpList_piece_to (hw : Region.wanted o (yielded ops a.tmps) = true) (ty : TypeId) (x j : Operand) (ho : o.op = .slice ty x none (some j) none) (hu : Tryz.prog.underlying ty = some (.slice 5)) (a0 : Option Addr) (len cap m : Nat) (l : List (BitVec 8)) (hl : l.length = len)
 (hx : a.eval x = .slice a0 len cap) (hv : Sl w (.slice a0 len cap) l) (hj : a.eval j = .int .i64 (m : Int)) (hm : m ≤ len)
 (h : Sl w (.slice (pieceA a0 cap 0) m cap) (l.take m) → wpList Tryz.prog ops Q rest (a.put o.dst (.slice (pieceA a0 cap 0) m cap)) w) : wpList Tryz.prog ops Q (o :: rest) a w := by
 subst hl
 have hcap : l.length ≤ cap := by obtain ⟨_, _, e, hc, _⟩ := hv; injection e with _ _ e3; omega
 have hr := (slice_run ty 5 hu infoB a0 l.length cap 0 m (Nat.zero_le _) hm hcap w).2.1
 unfold wpList
 rw [if_pos hw]
 left
 unfold Oper.wp
 have : (execOp a.eval o).run Tryz.prog w = .ok (.value (.slice (pieceA a0 cap 0) m cap)) w := by
  unfold execOp
  simp only [ho, hx, hj, Option.map_some, Option.map_none, Sem.run_bind, hr, Result.andThen_ok, Sem.run_pure]
 rw [this]
 have h1 := sl_piece hv (Nat.zero_le m) hm
 rw [Nat.sub_zero, Nat.sub_zero, List.drop_zero] at h1
 exact h h1
theorem wpList_piece_from (hw : Region.wanted o (yielded ops a.tmps) = true) (ty : TypeId) (x i : Operand) (ho : o.op = .slice ty x (some i) none none) (hu : Tryz.prog.underlying ty = some (.slice 5)) (a0 : Option Addr) (len cap k : Nat) (l : List (BitVec 8)) (hl : l.length = len)
 (hx : a.eval x = .slice a0 len cap) (hv : Sl w (.slice a0 len cap) l) (hi : a.eval i = .int .i64 (k : Int)) (hk : k ≤ len)
 (h : Sl w (.slice (pieceA a0 cap k) (len - k) (cap - k)) (l.drop k) → wpList Tryz.prog ops Q rest (a.put o.dst (.slice (pieceA a0 cap k) (len - k) (cap - k))) w) : wpList Tryz.prog ops Q (o :: rest) a w := by
 subst hl
 have hcap : l.length ≤ cap := by obtain ⟨_, _, e, hc, _⟩ := hv; injection e with _ _ e3; omega
 have hr := (slice_run ty 5 hu infoB a0 l.length cap k l.length hk (Nat.le_refl _) hcap w).2.2
 unfold wpList
 rw [if_pos hw]
 left
 unfold Oper.wp
 have : (execOp a.eval o).run Tryz.prog w = .ok (.value (.slice (pieceA a0 cap k) (l.length - k) (cap - k))) w := by
  unfold execOp
  simp only [ho, hx, hi, Option.map_some, Option.map_none, Sem.run_bind, hr, Result.andThen_ok, Sem.run_pure]
 rw [this]
 have h1 := sl_piece hv hk (Nat.le_refl _)
 rw [List.take_of_length_le (by rw [List.length_drop]; omega)] at h1
 exact h h1
end
end Sha
end Go.Proofs.YtajdpbbbocnfiaaGreatDoor
namespace Go.Proofs.YtajdpbbbocnfiaaGreatDoor
namespace Sha
open Go.RowKit Mem
def laidB (b : List (BitVec 8)) (k : Nat) (x : List (BitVec 8)) : List (BitVec 8) := b.take k ++ x ++ b.drop (k + x.length)
theorem laidL_length (b : List (BitVec 8)) (k : Nat) (x : List (BitVec 8)) (h : k + x.length ≤ b.length) : (laidB b k x).length = b.length := by simp [laidB]; omega
theorem splice_laid (b : List (BitVec 8)) (k : Nat) (x : List (BitVec 8)) : Mem.splice (u8s b).toArray k (u8s x) = (u8s (laidB b k x)).toArray := by
 unfold Mem.splice laidB u8s
 simp [List.map_take, List.map_drop]
theorem plan_copy_sl {ops : Array Oper} {Q : Exit → Act → World → Prop} {S : World → Prop} {w : World} {a : Act} {o : Oper} {i : Nat} {r : Plan} (x y : Operand) (ho : ops.toList[i]? = some o) (hw : Region.wanted o (yielded ops a.tmps) = true)
 (hop : o.op = .call { callee := .builtin .copy, args := #[x, y], argTypes := #[39, 39] }) (b p dLen dCap : Nat) (vy : Value) (l m : List (BitVec 8)) (hx : a.eval x = .slice (some ⟨b, p, none⟩) dLen dCap) (hy : a.eval y = vy) (hl : Sl w vy l) (hne : l ≠ [])
 (hk : l.length ≤ dLen) (hC : At w b (u8s m).toArray 5) (hfit : p + l.length ≤ m.length)
 (h : ∀ w', At w' b (u8s (laidB m p l)).toArray 5 → w'.heap.size = w.heap.size → (∀ k, k ≠ b → w'.heap[k]? = w.heap[k]?) → (∀ B a, Below B a w → B ≤ b → Below B a w') → S w' ∧ wpPlan Tryz.prog ops Q S r (a.put o.dst (.int .i64 (l.length : Int))) w') : wpPlan Tryz.prog ops Q S (.sole i r) a w := by
 obtain ⟨a0, cap, rfl, _, hr⟩ := hl
 obtain ⟨bb, oo, rfl, _, hc⟩ := hr hne
 have hlen : (u8s l).length = Nat.min l.length dLen := by rw [u8s_length]; exact (Nat.min_eq_left hk).symm
 have hrun := run_copy_row (P := Tryz.prog) w 39 39 o.type 5 b p dLen dCap ⟨bb, oo, none⟩ l.length cap (u8s m).toArray 5 (u8s l) Tryz.underlying39 infoB hC hlen (fun j v hj => by
  have hjk : j < l.length := by
   have := (List.getElem?_eq_some_iff.1 hj).1
   rwa [u8s_length] at this
  rw [Addr.add_mid, hc j hjk, ← hj, u8s_get _ _ hjk]) (by rw [u8s_length]; simpa [u8s] using hfit) (u8s_cells l)
 refine wpOp_at ho hw ?_
 unfold Oper.wp execOp
 simp only [hop, resolve, invoke, builtin, Sem.run_bind, Sem.run_pure, Result.andThen_ok, List.map_toArray, List.map_cons, List.map_nil, hx, hy, hrun]
 have e : ((u8s m).take p ++ u8s l ++ (u8s m).drop (p + (u8s l).length)).toArray = (u8s (laidB m p l)).toArray := by
  rw [← splice_laid, Mem.splice]
 rw [e]
 have hE : goInt (u8s l).length = .int .i64 (l.length : Int) := by rw [u8s_length]; rfl
 rw [hE]
 exact h _ (hC.row _) (by simp) (fun k hk => setRow_other w b k _ hk) (fun B a hb hB => below_row hb hB _)
def SlB (F : Foot) (w : World) (v : Value) (l : List (BitVec 8)) : Prop := SlR F w 1 v l.length (u8s l)
theorem SlB.sl {F : Foot} {w : World} {v : Value} {l : List (BitVec 8)} (h : SlB F w v l) : Sl w v l := by
 obtain ⟨_, a, cap, rfl, hc, hr⟩ := h
 refine ⟨a, cap, rfl, hc, fun hne => ?_⟩
 obtain ⟨bb, oo, ea, _, hlt, hcell⟩ := hr (fun h0 => hne (List.eq_nil_of_length_eq_zero h0))
 exact ⟨bb, oo, ea, hlt, fun i hi => hcell i _ (u8s_get l i hi)⟩
theorem SlB.keep {F : Foot} {w w' : World} {v : Value} {l : List (BitVec 8)} (h : SlB F w v l) (hs : w.heap.size ≤ w'.heap.size) (hk : ∀ k, F k → k < w.heap.size → w'.heap[k]? = w.heap[k]?) : SlB F w' v l := SlR.keep h hs hk
theorem SlB.mono {F G : Foot} {w : World} {v : Value} {l : List (BitVec 8)} (h : SlB F w v l) (hs : ∀ k, F k → k < w.heap.size → G k) : SlB G w v l := SlR.mono h hs
theorem OwnB.slB {w : World} {B : Nat} {v : Value} {l : List (BitVec 8)} (h : OwnB w B v l) : SlB (fun k => B ≤ k) w v l := ownsRow_slR h
theorem slB_nil (F : Foot) (w : World) : SlB F w (.slice none 0 0) [] := SlR.nil F w 1
def fillB (b : List (BitVec 8)) (size : Nat) : List (BitVec 8) := b ++ List.replicate (size - b.length) 0
theorem Sl.but_at {w w' : World} {v : Value} {l : List (BitVec 8)} {br : Nat} {C : Array Value} {t : TypeId} (h : Sl w v l) (hC : At w br C t) (hno : ∀ (k : Nat) (x : Int), C[k]? ≠ some (.int .u8 x)) (hb : But br w w') : Sl w' v l := by
 obtain ⟨a, cap, rfl, hc, hr⟩ := h
 refine ⟨a, cap, rfl, hc, fun hne => ?_⟩
 obtain ⟨bb, oo, rfl, hlt, hcell⟩ := hr hne
 have h0 : 0 < l.length := List.length_pos_iff.2 hne
 have hbn : bb ≠ br := by
  rintro rfl
  have h1 := hcell 0 h0
  rw [hC.cell] at h1
  exact hno _ _ h1
 refine ⟨bb, oo, rfl, Nat.lt_of_lt_of_le hlt hb.size, fun i hi => ?_⟩
 rw [World.cell?_of_block (w := w) (w' := w') (a := ⟨bb, oo + i, none⟩) (hb.block bb hlt hbn)]
 exact hcell i hi
def rdRow (v : Value) (e : Nat) : Array Value := #[v, .int .i64 (e : Int)]
theorem rdRow_no (a : Option Addr) (n cap e : Nat) (k : Nat) (x : Int) : (rdRow (.slice a n cap) e)[k]? ≠ some (.int .u8 x) := by
 unfold rdRow
 match k with
 | 0 => simp
 | 1 => simp
 | k + 2 => simp
theorem rdTake_small (b : List (BitVec 8)) (e n : Nat) : (rdTake b e n).x.length ≤ n ∧ (rdTake b e n).x.length ≤ b.length ∧ (rdTake b e n).b.length ≤ b.length ∧ ((rdTake b e n).e = e ∨ (rdTake b e n).e = 4) := by
 unfold rdTake
 split
 ·simp
 ·split
  ·simp
  ·simp; omega
abbrev RdAcc := World → Nat → List (BitVec 8) → Nat → Prop
structure PkEnd (R : RdAcc) (w : World) (br : Nat) (b : List (BitVec 8)) (e : Nat) (w' : World) : Prop where
 r : R w' br b e
 o : But br w w'
 k : ∀ B x, Below B x w → B ≤ br → Below B x w'
abbrev rp (br : Nat) : Value := .pointer (some ⟨br, 0, none⟩)
theorem PkEnd.trans {R : RdAcc} {w w1 w2 : World} {br : Nat} {b1 b2 : List (BitVec 8)} {e1 e2 : Nat} (h : PkEnd R w br b1 e1 w1) (k : PkEnd R w1 br b2 e2 w2) : PkEnd R w br b2 e2 w2 :=
 ⟨k.r, But.same h.o k.o, fun B x hB hle => k.k B x (h.k B x hB hle) hle⟩
theorem plan_copy_row {ops : Array Oper} {Q : Exit → Act → World → Prop} {S : World → Prop} {w : World} {a : Act} {o : Oper} {i : Nat} {r : Plan} (x y : Operand) (ho : ops.toList[i]? = some o) (hw : Region.wanted o (yielded ops a.tmps) = true)
 (hop : o.op = .call { callee := .builtin .copy, args := #[x, y], argTypes := #[39, 39] }) (g p : Nat) (C : Array Value) (t : TypeId) (vy : Value) (l : List (BitVec 8)) (hx : a.eval x = .slice (some ⟨g, p, none⟩) 32 32) (hy : a.eval y = vy) (hl : Sl w vy l) (h32 : l = [] ∨ l.length = 32)
 (hC : At w g C t) (hfit : p + 32 ≤ C.size) (C' : Array Value) (hC' : (if l = [] then C else (C.toList.take p ++ u8s l ++ C.toList.drop (p + 32)).toArray) = C')
 (h : ∀ n w', At w' g C' t → (∀ k, k ≠ g → w'.heap[k]? = w.heap[k]?) → (∀ B a, Below B a w → B ≤ g → Below B a w') → S w' ∧ wpPlan Tryz.prog ops Q S r (a.put o.dst n) w') : wpPlan Tryz.prog ops Q S (.sole i r) a w := by
 obtain ⟨a0, cap, rfl, _, hr⟩ := hl
 refine wpOp_at ho hw ?_
 unfold Oper.wp execOp
 by_cases hne : l = []
 ·subst hne
  rw [if_pos rfl] at hC'
  subst hC'
  have hrun := run_copy_none (P := Tryz.prog) w 39 39 o.type 5 (some ⟨g, p, none⟩) a0 32 32 0 cap Tryz.underlying39 infoB (by simp)
  simp only [hop, resolve, invoke, builtin, Sem.run_bind, Sem.run_pure, Result.andThen_ok, List.map_toArray, List.map_cons, List.map_nil, hx, hy, List.length_nil, hrun]
  exact h _ _ hC (fun _ _ => rfl) (fun _ _ hb _ => hb)
 ·rw [if_neg hne] at hC'
  have hl32 : l.length = 32 := by rcases h32 with h | h; exact absurd h hne; exact h
  obtain ⟨bb, oo, rfl, _, hc⟩ := hr hne
  have hrun := run_copy_row (P := Tryz.prog) w 39 39 o.type 5 g p 32 32 ⟨bb, oo, none⟩ l.length cap C t (u8s l) Tryz.underlying39 infoB hC (by rw [u8s_length, hl32]; rfl) (fun j v hj => by
   have hjk : j < l.length := by
    have := (List.getElem?_eq_some_iff.1 hj).1
    rwa [u8s_length] at this
   rw [Addr.add_mid, hc j hjk, ← hj, u8s_get _ _ hjk]) (by rw [u8s_length, hl32]; exact hfit) (u8s_cells l)
  have e : (u8s l).length = 32 := by rw [u8s_length]; exact hl32
  rw [e, hC'] at hrun
  simp only [hop, resolve, invoke, builtin, Sem.run_bind, Sem.run_pure, Result.andThen_ok, List.map_toArray, List.map_cons, List.map_nil, hx, hy, hrun]
  exact h _ _ (hC.row _) (fun k hk => setRow_other w g k _ hk) (fun B a hb hB => below_row hb hB _)
end Sha
end Go.Proofs.YtajdpbbbocnfiaaGreatDoor
