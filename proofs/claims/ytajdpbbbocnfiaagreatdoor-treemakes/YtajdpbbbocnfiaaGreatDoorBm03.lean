/- My own texts, merged. -/
import Derived.Test.YtajdpbbbocnfiaaGreatDoorBm00
namespace Go.Proofs.YtajdpbbbocnfiaaGreatDoor
namespace Sha
structure Q4 where
 a : BitVec 32
 b : BitVec 32
 c : BitVec 32
 d : BitVec 32
def Q4.list (q : Q4) : List (BitVec 32) := [q.a, q.b, q.c, q.d]
def q4 (l : List (BitVec 32)) : Q4 := ⟨l.getD 0 0, l.getD 1 0, l.getD 2 0, l.getD 3 0⟩
def qa1 (q : Q4) : BitVec 32 := q.a + q.b
def qd1 (q : Q4) : BitVec 32 := (q.d ^^^ qa1 q).rotateLeft 16
def qc1 (q : Q4) : BitVec 32 := q.c + qd1 q
def qb1 (q : Q4) : BitVec 32 := (q.b ^^^ qc1 q).rotateLeft 12
def qa2 (q : Q4) : BitVec 32 := qa1 q + qb1 q
def qd2 (q : Q4) : BitVec 32 := (qd1 q ^^^ qa2 q).rotateLeft 8
def qc2 (q : Q4) : BitVec 32 := qc1 q + qd2 q
def qb2 (q : Q4) : BitVec 32 := (qb1 q ^^^ qc2 q).rotateLeft 7
def qr (q : Q4) : Q4 := ⟨qa2 q, qb2 q, qc2 q, qd2 q⟩
def qat (w : List (BitVec 32)) (i j k l : Nat) : List (BitVec 32) :=
 (((w.set i (qr ⟨w.getD i 0, w.getD j 0, w.getD k 0, w.getD l 0⟩).a).set j (qr ⟨w.getD i 0, w.getD j 0, w.getD k 0, w.getD l 0⟩).b).set k (qr ⟨w.getD i 0, w.getD j 0, w.getD k 0, w.getD l 0⟩).c).set l (qr ⟨w.getD i 0, w.getD j 0, w.getD k 0, w.getD l 0⟩).d
theorem qat_length (w : List (BitVec 32)) (i j k l : Nat) : (qat w i j k l).length = w.length := by simp [qat]
def plc : List (List Nat) := [[0, 4, 8, 12], [1, 5, 9, 13], [2, 6, 10, 14], [3, 7, 11, 15], [0, 5, 10, 15], [1, 6, 11, 12], [2, 7, 8, 13], [3, 4, 9, 14]]
def qpl (w : List (BitVec 32)) (p : List Nat) : List (BitVec 32) := qat w (p.getD 0 0) (p.getD 1 0) (p.getD 2 0) (p.getD 3 0)
def some8 (w : List (BitVec 32)) (m : Nat) : List (BitVec 32) := (plc.take m).foldl qpl w
def all8 (w : List (BitVec 32)) : Nat → List (BitVec 32)
 | 0 => w
 | n + 1 => some8 (all8 w n) 8
theorem some8_next (w : List (BitVec 32)) (m : Nat) (h : m < 8) : some8 w (m + 1) = qpl (some8 w m) (plc.getD m []) := by
 have hm : m < plc.length := h
 unfold some8
 rw [List.take_succ_eq_append_getElem hm, List.foldl_append]
 simp [hm]
theorem some8_length (w : List (BitVec 32)) : ∀ m, m ≤ 8 → (some8 w m).length = w.length
 | 0, _ => rfl
 | m + 1, h => by rw [some8_next w m (by omega), qpl, qat_length, some8_length w m (by omega)]
theorem all8_length (w : List (BitVec 32)) : ∀ n, (all8 w n).length = w.length
 | 0 => rfl
 | n + 1 => by rw [all8, some8_length _ 8 (by decide), all8_length w n]
def le4 (x : BitVec 32) : List (BitVec 8) := [wb x 0, wb x 8, wb x 16, wb x 24]
def lew (b : List (BitVec 8)) (i : Nat) : BitVec 32 :=
 (b.getD (4 * i + 3) 0).setWidth 32 <<< 24 ||| (b.getD (4 * i + 2) 0).setWidth 32 <<< 16 ||| (b.getD (4 * i + 1) 0).setWidth 32 <<< 8 ||| (b.getD (4 * i) 0).setWidth 32
def cfirst (key nonce : List (BitVec 8)) (n : BitVec 32) : List (BitVec 32) :=
 [1634760805, 857760878, 2036477234, 1797285236] ++ (List.range 8).map (lew key) ++ [n] ++ (List.range 3).map (lew nonce)
theorem cfirst_length (key nonce : List (BitVec 8)) (n : BitVec 32) : (cfirst key nonce n).length = 16 := by simp [cfirst]
def cwords (key nonce : List (BitVec 8)) (n : BitVec 32) : List (BitVec 32) := adds (all8 (cfirst key nonce n) 10) (cfirst key nonce n)
def cByte (l : List (BitVec 32)) (i : Nat) : BitVec 8 := wb (l.getD (i / 4) 0) (8 * (i % 4))
def cblk (key nonce : List (BitVec 8)) (n : BitVec 32) : List (BitVec 8) := (List.range 64).map (cByte (cwords key nonce n))
theorem cblk_length (key nonce : List (BitVec 8)) (n : BitVec 32) : (cblk key nonce n).length = 64 := by simp [cblk]
def cblks (key nonce : List (BitVec 8)) (n : BitVec 32) : Nat → List (BitVec 8)
 | 0 => []
 | j + 1 => cblks key nonce n j ++ cblk key nonce (n + BitVec.ofNat 32 j)
theorem cblks_length (key nonce : List (BitVec 8)) (n : BitVec 32) : ∀ j, (cblks key nonce n j).length = 64 * j
 | 0 => rfl
 | j + 1 => by rw [cblks, List.length_append, cblks_length key nonce n j, cblk_length]; omega
theorem cblks_more (key nonce : List (BitVec 8)) (n : BitVec 32) (j : Nat) : ∀ i, (cblks key nonce n (j + i)).take (64 * j) = cblks key nonce n j
 | 0 => by rw [Nat.add_zero, List.take_of_length_le (by rw [cblks_length]; omega)]
 | i + 1 => by rw [← Nat.add_assoc, cblks, List.take_append_of_le_length (by rw [cblks_length]; omega), cblks_more key nonce n j i]
def cstream (key nonce : List (BitVec 8)) (n : BitVec 32) (size : Nat) : List (BitVec 8) := (cblks key nonce n ((size + 63) / 64)).take size
theorem cstream_length (key nonce : List (BitVec 8)) (n : BitVec 32) (size : Nat) : (cstream key nonce n size).length = size := by
 rw [cstream, List.length_take, cblks_length]; omega
theorem cstream_from (key nonce : List (BitVec 8)) (n : BitVec 32) (size j : Nat) (h : size ≤ 64 * j) : (cblks key nonce n j).take size = cstream key nonce n size := by
 have hc : (size + 63) / 64 ≤ j := by omega
 obtain ⟨i, rfl⟩ : ∃ i, j = (size + 63) / 64 + i := ⟨j - (size + 63) / 64, by omega⟩
 have e := cblks_more key nonce n ((size + 63) / 64) i
 rw [cstream, ← e, List.take_take]
 congr 1
 omega
def cturn (b s : List (BitVec 8)) : List (BitVec 8) := List.zipWith (· ^^^ ·) b s ++ b.drop s.length
theorem cturn_length (b s : List (BitVec 8)) (h : s.length ≤ b.length) : (cturn b s).length = b.length := by
 simp [cturn]; omega
theorem zip_back : ∀ b s : List (BitVec 8), s.length ≤ b.length → List.zipWith (· ^^^ ·) (List.zipWith (· ^^^ ·) b s) s = b.take s.length
 | b, [], _ => by simp
 | [], _ :: _, h => by simp at h
 | x :: b, y :: s, h => by
  simp only [List.length_cons] at h
  simp only [List.zipWith_cons_cons, List.length_cons, List.take_succ_cons, zip_back b s (by omega)]
  rw [BitVec.xor_assoc, BitVec.xor_self, BitVec.xor_zero]
theorem cturn_back (b s : List (BitVec 8)) (h : s.length ≤ b.length) : cturn (cturn b s) s = b := by
 have hz : (List.zipWith (· ^^^ ·) b s : List (BitVec 8)).length = s.length := by simp; omega
 have h1 : List.zipWith (· ^^^ ·) (cturn b s) s = b.take s.length := by
  rw [← zip_back b s h, cturn]
  have : List.zipWith (· ^^^ ·) (List.zipWith (· ^^^ ·) b s ++ b.drop s.length) (s ++ []) = List.zipWith (· ^^^ ·) (List.zipWith (· ^^^ ·) b s) s ++ List.zipWith (· ^^^ ·) (b.drop s.length) [] := List.zipWith_append hz
  simpa using this
 have h2 : (cturn b s).drop s.length = b.drop s.length := by
  unfold cturn
  rw [List.drop_append, hz, Nat.sub_self, List.drop_zero, List.drop_of_length_le (by rw [hz]; exact Nat.le_refl _), List.nil_append]
 rw [cturn, h1, h2, List.take_append_drop]
def wb64 (x : BitVec 64) (k : Nat) : BitVec 8 := (x >>> k).setWidth 8
def cnonce (e : BitVec 32) (b : BitVec 64) : List (BitVec 8) := (List.range 4).map (fun i => wb e (8 * i)) ++ (List.range 8).map fun i => wb64 b (8 * i)
theorem cnonce_length (e : BitVec 32) (b : BitVec 64) : (cnonce e b).length = 12 := by simp [cnonce]
end Sha
end Go.Proofs.YtajdpbbbocnfiaaGreatDoor
namespace Go.Proofs.YtajdpbbbocnfiaaGreatDoor
namespace Mem
open Go.RowKit
section
variable {P : Program} {ops : Array Oper} {Q : Exit → Act → World → Prop} {S : World → Prop} {w : World} {a : Act} {o : Oper} {i : Nat} {r : Plan}
theorem plan_nilcheck (x : Operand) (p : Addr) (ho : ops.toList[i]? = some o) (hw : Region.wanted o (yielded ops a.tmps) = true) (hop : o.op = .nilCheck x) (hx : a.eval x = .pointer (some p))
 (h : wpPlan P ops Q S r (a.put o.dst (.pointer (some p))) w) : wpPlan P ops Q S (.take i r) a w :=
 plan_take _ ho hw (fun w' _ => by simp [execOp, hop, hx]) h
theorem plan_index_z (t e : TypeId) (x ix : Operand) (g off n c z : Nat) (k : Nat) (ho : ops.toList[i]? = some o) (hw : Region.wanted o (yielded ops a.tmps) = true) (hop : o.op = .indexAddr t x ix)
 (hx : a.eval x = .slice (some ⟨g, off, none⟩) n c) (hi : a.eval ix = .int .i64 (k : Int)) (hk : k < n) (hu : P.underlying t = some (.slice e)) (hs : (P.info? e).map (·.size) = some z)
 (h : wpPlan P ops Q S r (a.put o.dst (.pointer (some ⟨g, off + k * z, none⟩))) w) : wpPlan P ops Q S (.take i r) a w :=
 plan_take _ ho hw (fun w' _ => by
  cases hq : P.info? e with
  | none => simp [hq] at hs
  | some q =>
   have hs1 : q.size = z := by simpa [hq] using hs
   simp [execOp, hop, hx, hi, Instr.indexAt, asIntOf, Sem.run_bind, run_underlying hu, sizeOf, typeInfo, hq, hs1, hk, Addr.add]) h
theorem plan_sole_val (v : Value) (ho : ops.toList[i]? = some o) (hw : Region.wanted o (yielded ops a.tmps) = true) (hv : (execOp a.eval o).run P w = .ok (.value v) w) (hS : S w)
 (h : wpPlan P ops Q S r (a.put o.dst v) w) : wpPlan P ops Q S (.sole i r) a w := by
 refine wpOp_at ho hw ?_
 unfold Oper.wp
 rw [hv]
 exact ⟨hS, h⟩
theorem plan_sole_cell (t : TypeId) (x : Operand) (p : Addr) (v : Value) (d : TypeDesc) (ho : ops.toList[i]? = some o) (hw : Region.wanted o (yielded ops a.tmps) = true) (hop : o.op = .load t x)
 (hx : a.eval x = .pointer (some p)) (hc : w.cell? p = some v) (hu : P.underlying t = some d) (hd : d.isRow = false) (hS : S w)
 (h : wpPlan P ops Q S r (a.put o.dst v) w) : wpPlan P ops Q S (.sole i r) a w :=
 plan_sole_val v ho hw (by
  have hagg : (isAgg t).run P w = .ok false w := by
   unfold isAgg
   rw [Sem.run_bind, run_underlying hu w]
   cases d <;> simp_all
  simp [execOp, hop, hx, Instr.loadAt, Instr.sureAddr, loadVar, Sem.run_bind, hagg, hc]) hS h
end
theorem plan_load_range {P : Program} {ops : Array Oper} {Q : Exit → Act → World → Prop} {S : World → Prop} {w : World} {a : Act} {o : Oper} {i : Nat} {r : Plan} (ty : TypeId) (x : Operand) (b off : Nat) (d : TypeDesc) (R : Array Value) (ho : ops.toList[i]? = some o) (hw : Region.wanted o (yielded ops a.tmps) = true) (hop : o.op = .load ty x) (hx : a.eval x = .pointer (some ⟨b, off, none⟩))
 (hC : ∀ w', S w' → w'.rangeAt b off R.toList) (hu : P.underlying ty = some d) (hd : d.isRow = true) (hi : (P.info? ty).map (·.size) = some R.size) (h : wpPlan P ops Q S r (a.put o.dst (.agg R)) w) :
 wpPlan P ops Q S (.take i r) a w :=
 plan_take _ ho hw (fun w' hw' => by
  have hr := run_loadAt_mid (P := P) w' b off ty R.toList d (hC w' hw') hu hd (by rw [hi]; simp)
  unfold execOp
  simp only [hop, hx, Sem.run_bind, hr, Result.andThen_ok, Sem.run_pure]) h
theorem plan_not {P : Program} {ops : Array Oper} {Q : Exit → Act → World → Prop} {S : World → Prop} {w : World} {a : Act} {o : Oper} {i : Nat} {r : Plan} (t : TypeId) (x : Operand) (b : Bool) (ho : ops.toList[i]? = some o) (hw : Region.wanted o (yielded ops a.tmps) = true) (hop : o.op = .unOp .not t x)
 (hx : a.eval x = .bool b) (h : wpPlan P ops Q S r (a.put o.dst (.bool (!b))) w) : wpPlan P ops Q S (.take i r) a w :=
 plan_take _ ho hw (fun w' _ => by cases b <;> simp [execOp, hop, hx, Op.unary]) h
theorem plan_not_t {P : Program} {ops : Array Oper} {Q : Exit → Act → World → Prop} {S : World → Prop} {w : World} {a : Act} {o : Oper} {i : Nat} {r : Plan} (t : TypeId) (x : Operand) (ho : ops.toList[i]? = some o) (hw : Region.wanted o (yielded ops a.tmps) = true) (hop : o.op = .unOp .not t x)
 (hx : a.eval x = .bool true) (h : wpPlan P ops Q S r (a.put o.dst (.bool false)) w) : wpPlan P ops Q S (.take i r) a w := plan_not t x true ho hw hop hx h
theorem plan_extract {P : Program} {ops : Array Oper} {Q : Exit → Act → World → Prop} {S : World → Prop} {w : World} {a : Act} {o : Oper} {i : Nat} {r : Plan} (x : Operand) (k : Nat) (vs : Array Value) (v : Value) (ho : ops.toList[i]? = some o) (hw : Region.wanted o (yielded ops a.tmps) = true) (hop : o.op = .extract x k)
 (hx : a.eval x = .tuple vs) (hv : vs[k]? = some v) (h : wpPlan P ops Q S r (a.put o.dst v) w) : wpPlan P ops Q S (.take i r) a w :=
 plan_take v ho hw (fun w' _ => by simp [execOp, hop, hx, Instr.extract, hv]) h
end Mem
end Go.Proofs.YtajdpbbbocnfiaaGreatDoor
namespace Go.Proofs.YtajdpbbbocnfiaaGreatDoor
namespace Sha
open Go.RowKit
theorem stn_mono (p a b : Nat) (h : a ≤ b) (hb : b ≤ 4) : stn p a ≤ stn p b := by
 match b, hb, a, h with
 | 0, _, 0, _ => exact Nat.le_refl _
 | 1, _, 0, _ => simp [stn]
 | 1, _, 1, _ => exact Nat.le_refl _
 | 2, _, 0, _ => simp [stn]
 | 2, _, 1, _ => simp [stn]
 | 2, _, 2, _ => exact Nat.le_refl _
 | 3, _, 0, _ => simp [stn]
 | 3, _, 1, _ => simp only [stn]; omega
 | 3, _, 2, _ => simp [stn]
 | 3, _, 3, _ => exact Nat.le_refl _
 | 4, _, 0, _ => simp [stn]
 | 4, _, 1, _ => simp only [stn]; omega
 | 4, _, 2, _ => simp only [stn]; omega
 | 4, _, 3, _ => simp [stn]
 | 4, _, 4, _ => exact Nat.le_refl _
theorem lev_top (p i : Nat) (h0 : 1 ≤ p) (h1 : p ≤ 216) : i + 1 < itn p ↔ (i < itn p ∧ lev p i < topn p) := by
 have r := root_one p h0 h1
 have t := top_le p
 have h4 := itn_le p
 constructor
 ·intro h
  refine ⟨by omega, ?_⟩
  rcases Nat.lt_or_ge (lev p i) (topn p) with h2 | h2
  ·exact h2
  ·exfalso
   have := stn_mono p (topn p) (lev p i) h2 (by have := lev_le p i; omega)
   have := lev_lo p i
   omega
 ·rintro ⟨h, h2⟩
  have a := lev_hi p i (by omega)
  have := stn_mono p (lev p i + 1) (topn p) h2 (by omega)
  omega
theorem par_lev (p i : Nat) (h0 : 1 ≤ p) (h1 : p ≤ 216) (h : i + 1 < itn p) : stn p (lev p i + 1) ≤ (parN p i).1 ∧ (parN p i).1 < stn p (lev p i + 2) ∧ (parN p i).1 < itn p ∧ p ≤ (parN p i).1 ∧ lev p (parN p i).1 = lev p i + 1 := by
 have ⟨hit, htop⟩ := (lev_top p i h0 h1).1 h
 have t := top_le p
 have h4 := itn_le p
 have lo := lev_lo p i
 have hi := lev_hi p i (by omega)
 have s1 := stn_lvn p (lev p i) (lev_le p i)
 have s2 := stn_lvn p (lev p i + 1) (by omega)
 have c1 := lvn_cnt p (lev p i) (by omega)
 have c2 := cnt_le (lvn p (lev p i))
 have e : (parN p i).1 = stn p (lev p i + 1) + (i - stn p (lev p i)) / 6 := rfl
 have a1 : stn p (lev p i + 1) ≤ (parN p i).1 := by omega
 have a2 : (parN p i).1 < stn p (lev p i + 2) := by rw [e, s2, c1]; omega
 have m1 := stn_mono p (lev p i + 2) (topn p + 1) (by omega) (by omega)
 have m2 : p ≤ stn p (lev p i + 1) := stn_mono p 1 (lev p i + 1) (by omega) (by omega)
 exact ⟨a1, a2, by unfold itn; omega, by omega, lev_eq p _ (lev p i + 1) (by omega) a1 a2⟩
def PZ (p : Nat) (z : Int) : Int × Int × Bool := if 0 ≤ z ∧ z + 1 < (itn p : Int) then (((parN p z.toNat).1 : Int), ((parN p z.toNat).2 : Int), true) else (0, 0, false)
def BZ (p : Nat) (z k : Int) : Int := if (0 ≤ z ∧ z < (itn p : Int)) ∧ 0 ≤ k ∧ k ≤ 1 then 2 + 2 * z + k else -1
theorem BZ_at (p i k : Nat) (hi : i < itn p) (hk : k < 2) : BZ p (i : Int) (k : Int) = 2 + 2 * (i : Int) + (k : Int) := if_pos ⟨⟨by omega, by omega⟩, by omega, by omega⟩
def itp (p x : Nat) : Nat → Nat
 | 0 => x
 | k + 1 => (parN p (itp p x k)).1
theorem itp_lev (p x : Nat) (h0 : 1 ≤ p) (h1 : p ≤ 216) (hx : x < p) : ∀ k, k ≤ topn p → stn p k ≤ itp p x k ∧ itp p x k < stn p (k + 1) ∧ lev p (itp p x k) = k := by
 intro k
 induction k with
 | zero => intro _; exact ⟨Nat.zero_le _, hx, by unfold lev; rw [if_pos (show itp p x 0 < p from hx)]⟩
 | succ k ih =>
  intro hk
  obtain ⟨a, b, c⟩ := ih (by omega)
  have t := top_le p
  have m := stn_mono p (k + 1) (topn p) hk (by omega)
  have r := root_one p h0 h1
  have hl := par_lev p (itp p x k) h0 h1 (by omega)
  rw [c] at hl
  exact ⟨hl.1, hl.2.1, hl.2.2.2.2⟩
def pathZ (p x n : Nat) : List Int := (List.range n).map fun k => (itp p x k : Int)
theorem pathZ_length (p x n : Nat) : (pathZ p x n).length = n := by simp [pathZ]
theorem pathZ_succ (p x n : Nat) : pathZ p x (n + 1) = pathZ p x n ++ [(itp p x n : Int)] := by simp [pathZ, List.range_succ]
theorem itp_par (p x k : Nat) (h0 : 1 ≤ p) (h1 : p ≤ 216) (hx : x < p) (hk : k < topn p) : PZ p (itp p x k : Int) = ((itp p x (k + 1) : Int), ((parN p (itp p x k)).2 : Int), true) := by
 have h := itp_lev p x h0 h1 hx k (by omega)
 have t := top_le p
 have m := stn_mono p (k + 1) (topn p) hk (by omega)
 have r := root_one p h0 h1
 unfold PZ
 rw [if_pos ⟨by omega, by omega⟩, Int.toNat_natCast]; rfl
theorem itp_end (p x : Nat) (h0 : 1 ≤ p) (h1 : p ≤ 216) (hx : x < p) : PZ p (itp p x (topn p) : Int) = (0, 0, false) := by
 have h := itp_lev p x h0 h1 hx (topn p) (Nat.le_refl _)
 have r := root_one p h0 h1
 unfold PZ
 rw [if_neg (by omega)]
def WZ (p : Nat) (z : Int) : List Int := if 0 ≤ z ∧ z < (p : Int) then pathZ p z.toNat (topn p + 1) else []
theorem itp_root (p x : Nat) (h0 : 1 ≤ p) (h1 : p ≤ 216) (hx : x < p) : itp p x (topn p) + 1 = itn p := by
 have h := itp_lev p x h0 h1 hx (topn p) (Nat.le_refl _)
 have r := root_one p h0 h1
 have s := stn_lvn p (topn p) (top_le p).2
 omega
end Sha
end Go.Proofs.YtajdpbbbocnfiaaGreatDoor
namespace Go.Proofs.YtajdpbbbocnfiaaGreatDoor
namespace Sha
open Go.RowKit Mem
section
variable {P : Program} {ops : Array Oper} {Q : Exit → Act → World → Prop} {S : World → Prop} {w : World} {a : Act} {o : Oper} {i : Nat} {r : Plan}
theorem plan_store_at (ty : TypeId) (x y : Operand) (b k : Nat) (D C E : Array Value) (t : TypeId) (ho : ops.toList[i]? = some o) (hw : Region.wanted o (yielded ops a.tmps) = true) (hop : o.op = .store ty x y) (hdst : o.dst = none)
 (hx : a.eval x = .pointer (some ⟨b, k, none⟩)) (hy : a.eval y = .agg D) (hi : (P.info? ty).map (·.size) = some D.size) (hC : At w b C t) (hn : k + D.size ≤ C.size) (h1 : D.all (·.oneCell') = true) (hE : Mem.splice C k D.toList = E) (hS : S (w.setRow b E))
 (h : wpPlan P ops Q S r a (w.setRow b E)) : wpPlan P ops Q S (.sole i r) a w := by
 refine wpOp_at ho hw ?_
 have hput : a.put o.dst undef = a := by rw [hdst]; rfl
 refine wp_store_mid ty x y hop b k D hx hy (fun j hj => ?_) hi h1 ?_
 ·rw [hC.cell, hC.free]
  exact ⟨by simp; omega, rfl⟩
 ·rw [setCells_row _ _ _ _ _ hC (by simpa using hn), hput, hE]; exact ⟨hS, h⟩
end
end Sha
end Go.Proofs.YtajdpbbbocnfiaaGreatDoor
