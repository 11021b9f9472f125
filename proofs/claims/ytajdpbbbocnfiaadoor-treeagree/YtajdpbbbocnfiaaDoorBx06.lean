/- Plain mathematics of the cipher (RFC 8439) on words and bytes. Loads in a plain region, guarded or not. Over any program. Numbers and texts as bytes: mathematics. -/
import Derived.Test.YtajdpbbbocnfiaaDoorBx01
import Derived.Test.YtajdpbbbocnfiaaDoorBx00
namespace Go.Proofs.YtajdpbbbocnfiaaDoor
namespace Sha
/-- Four words. -/
structure Q4 where
  a : BitVec 32
  b : BitVec 32
  c : BitVec 32
  d : BitVec 32
def Q4.list (q : Q4) : List (BitVec 32) := [q.a, q.b, q.c, q.d]
def q4 (l : List (BitVec 32)) : Q4 := ⟨l.getD 0 0, l.getD 1 0, l.getD 2 0, l.getD 3 0⟩
/-- The quarter round. -/
def qa1 (q : Q4) : BitVec 32 := q.a + q.b
def qd1 (q : Q4) : BitVec 32 := (q.d ^^^ qa1 q).rotateLeft 16
def qc1 (q : Q4) : BitVec 32 := q.c + qd1 q
def qb1 (q : Q4) : BitVec 32 := (q.b ^^^ qc1 q).rotateLeft 12
def qa2 (q : Q4) : BitVec 32 := qa1 q + qb1 q
def qd2 (q : Q4) : BitVec 32 := (qd1 q ^^^ qa2 q).rotateLeft 8
def qc2 (q : Q4) : BitVec 32 := qc1 q + qd2 q
def qb2 (q : Q4) : BitVec 32 := (qb1 q ^^^ qc2 q).rotateLeft 7
def qr (q : Q4) : Q4 := ⟨qa2 q, qb2 q, qc2 q, qd2 q⟩
/-- The quarter round of four places. -/
def qat (w : List (BitVec 32)) (i j k l : Nat) : List (BitVec 32) :=
  (((w.set i (qr ⟨w.getD i 0, w.getD j 0, w.getD k 0, w.getD l 0⟩).a).set j (qr ⟨w.getD i 0, w.getD j 0, w.getD k 0, w.getD l 0⟩).b).set k (qr ⟨w.getD i 0, w.getD j 0, w.getD k 0, w.getD l 0⟩).c).set l (qr ⟨w.getD i 0, w.getD j 0, w.getD k 0, w.getD l 0⟩).d
theorem qat_length (w : List (BitVec 32)) (i j k l : Nat) : (qat w i j k l).length = w.length := by simp [qat]
/-- The places of the eight quarter rounds. -/
def plc : List (List Nat) := [[0, 4, 8, 12], [1, 5, 9, 13], [2, 6, 10, 14], [3, 7, 11, 15], [0, 5, 10, 15], [1, 6, 11, 12], [2, 7, 8, 13], [3, 4, 9, 14]]
def qpl (w : List (BitVec 32)) (p : List Nat) : List (BitVec 32) := qat w (p.getD 0 0) (p.getD 1 0) (p.getD 2 0) (p.getD 3 0)
/-- The first m of the eight; n times all. -/
def some8 (w : List (BitVec 32)) (m : Nat) : List (BitVec 32) := (plc.take m).foldl qpl w
def all8 (w : List (BitVec 32)) : Nat → List (BitVec 32)
  | 0 => w
  | n + 1 => some8 (all8 w n) 8
theorem some8_next (w : List (BitVec 32)) (m : Nat) (h : m < 8) : some8 w (m + 1) = qpl (some8 w m) (plc.getD m []) := by
  have hm : m < plc.length := h
  unfold some8
  rw [List.take_succ_eq_append_getElem hm, List.foldl_append]
  simp [hm]
theorem some8_length (w : List (BitVec 32)) : ∀ m, m ≤ 8 → (some8 w m).length = w.length
  | 0, _ => rfl
  | m + 1, h => by rw [some8_next w m (by omega), qpl, qat_length, some8_length w m (by omega)]
theorem all8_length (w : List (BitVec 32)) : ∀ n, (all8 w n).length = w.length
  | 0 => rfl
  | n + 1 => by rw [all8, some8_length _ 8 (by decide), all8_length w n]
/-- A word as four bytes, the lowest first; four bytes as a word. -/
def le4 (x : BitVec 32) : List (BitVec 8) := [wb x 0, wb x 8, wb x 16, wb x 24]
def lew (b : List (BitVec 8)) (i : Nat) : BitVec 32 :=
  (b.getD (4 * i + 3) 0).setWidth 32 <<< 24 ||| (b.getD (4 * i + 2) 0).setWidth 32 <<< 16 ||| (b.getD (4 * i + 1) 0).setWidth 32 <<< 8 ||| (b.getD (4 * i) 0).setWidth 32
def cfirst (key nonce : List (BitVec 8)) (n : BitVec 32) : List (BitVec 32) :=
  [1634760805, 857760878, 2036477234, 1797285236] ++ (List.range 8).map (lew key) ++ [n] ++ (List.range 3).map (lew nonce)
theorem cfirst_length (key nonce : List (BitVec 8)) (n : BitVec 32) : (cfirst key nonce n).length = 16 := by simp [cfirst]
/-- The words of a block, and its bytes. -/
def cwords (key nonce : List (BitVec 8)) (n : BitVec 32) : List (BitVec 32) := adds (all8 (cfirst key nonce n) 10) (cfirst key nonce n)
def cByte (l : List (BitVec 32)) (i : Nat) : BitVec 8 := wb (l.getD (i / 4) 0) (8 * (i % 4))
def cblk (key nonce : List (BitVec 8)) (n : BitVec 32) : List (BitVec 8) := (List.range 64).map (cByte (cwords key nonce n))
theorem cblk_length (key nonce : List (BitVec 8)) (n : BitVec 32) : (cblk key nonce n).length = 64 := by simp [cblk]
/-- The first j blocks of the stream; its first so many bytes. -/
def cblks (key nonce : List (BitVec 8)) (n : BitVec 32) : Nat → List (BitVec 8)
  | 0 => []
  | j + 1 => cblks key nonce n j ++ cblk key nonce (n + BitVec.ofNat 32 j)
theorem cblks_length (key nonce : List (BitVec 8)) (n : BitVec 32) : ∀ j, (cblks key nonce n j).length = 64 * j
  | 0 => rfl
  | j + 1 => by rw [cblks, List.length_append, cblks_length key nonce n j, cblk_length]; omega
theorem cblks_more (key nonce : List (BitVec 8)) (n : BitVec 32) (j : Nat) : ∀ i, (cblks key nonce n (j + i)).take (64 * j) = cblks key nonce n j
  | 0 => by rw [Nat.add_zero, List.take_of_length_le (by rw [cblks_length]; omega)]
  | i + 1 => by rw [← Nat.add_assoc, cblks, List.take_append_of_le_length (by rw [cblks_length]; omega), cblks_more key nonce n j i]
def cstream (key nonce : List (BitVec 8)) (n : BitVec 32) (size : Nat) : List (BitVec 8) := (cblks key nonce n ((size + 63) / 64)).take size
theorem cstream_length (key nonce : List (BitVec 8)) (n : BitVec 32) (size : Nat) : (cstream key nonce n size).length = size := by
  rw [cstream, List.length_take, cblks_length]; omega
theorem cstream_from (key nonce : List (BitVec 8)) (n : BitVec 32) (size j : Nat) (h : size ≤ 64 * j) : (cblks key nonce n j).take size = cstream key nonce n size := by
  have hc : (size + 63) / 64 ≤ j := by omega
  obtain ⟨i, rfl⟩ : ∃ i, j = (size + 63) / 64 + i := ⟨j - (size + 63) / 64, by omega⟩
  have e := cblks_more key nonce n ((size + 63) / 64) i
  rw [cstream, ← e, List.take_take]
  congr 1
  omega
/-- Bytes turned: those behind the stream as they are. -/
def cturn (b s : List (BitVec 8)) : List (BitVec 8) := List.zipWith (· ^^^ ·) b s ++ b.drop s.length
theorem cturn_length (b s : List (BitVec 8)) (h : s.length ≤ b.length) : (cturn b s).length = b.length := by
  simp [cturn]; omega
theorem zip_back : ∀ b s : List (BitVec 8), s.length ≤ b.length → List.zipWith (· ^^^ ·) (List.zipWith (· ^^^ ·) b s) s = b.take s.length
  | b, [], _ => by simp
  | [], _ :: _, h => by simp at h
  | x :: b, y :: s, h => by
    simp only [List.length_cons] at h
    simp only [List.zipWith_cons_cons, List.length_cons, List.take_succ_cons, zip_back b s (by omega)]
    rw [BitVec.xor_assoc, BitVec.xor_self, BitVec.xor_zero]
/-- What is turned twice is as it was. -/
theorem cturn_back (b s : List (BitVec 8)) (h : s.length ≤ b.length) : cturn (cturn b s) s = b := by
  have hz : (List.zipWith (· ^^^ ·) b s : List (BitVec 8)).length = s.length := by simp; omega
  have h1 : List.zipWith (· ^^^ ·) (cturn b s) s = b.take s.length := by
    rw [← zip_back b s h, cturn]
    have : List.zipWith (· ^^^ ·) (List.zipWith (· ^^^ ·) b s ++ b.drop s.length) (s ++ []) = List.zipWith (· ^^^ ·) (List.zipWith (· ^^^ ·) b s) s ++ List.zipWith (· ^^^ ·) (b.drop s.length) [] := List.zipWith_append hz
    simpa using this
  have h2 : (cturn b s).drop s.length = b.drop s.length := by
    unfold cturn
    rw [List.drop_append, hz, Nat.sub_self, List.drop_zero, List.drop_of_length_le (by rw [hz]; exact Nat.le_refl _), List.nil_append]
  rw [cturn, h1, h2, List.take_append_drop]
/-- A nonce: four bytes of an epoch, eight of a block, the lowest first. -/
def wb64 (x : BitVec 64) (k : Nat) : BitVec 8 := (x >>> k).setWidth 8
def cnonce (e : BitVec 32) (b : BitVec 64) : List (BitVec 8) := (List.range 4).map (fun i => wb e (8 * i)) ++ (List.range 8).map fun i => wb64 b (8 * i)
theorem cnonce_length (e : BitVec 32) (b : BitVec 64) : (cnonce e b).length = 12 := by simp [cnonce]
end Sha
end Go.Proofs.YtajdpbbbocnfiaaDoor
namespace Go.Proofs.YtajdpbbbocnfiaaDoor
namespace Mem
open Go.RowKit
theorem wpList_load_is_wanted {P : Program} {ops : Array Oper} {rest : List Oper} {o : Oper} {a : Act} {w : World} {Q : Exit → Act → World → Prop} (hw : Region.wanted o (yielded ops a.tmps) = true) (ty : TypeId) (x : Operand) (hop : o.op = .load ty x)
    (b c n : Nat) (hx : a.eval x = .pointer (some ⟨b, c, none⟩)) (d : TypeDesc) (hu : P.underlying ty = some d) (hd : d.isRow = true) (hi : (P.info? ty).map (·.size) = some n)
    (C : Array Value) (t : TypeId) (hC : At w b C t) (hn : c + n ≤ C.size) (R : Array Value) (hR : C.extract c (c + n) = R) (h : wpList P ops Q rest (a.put o.dst (.agg R)) w) : wpList P ops Q (o :: rest) a w := by
  unfold wpList
  rw [if_pos hw]
  left
  unfold Oper.wp
  have hr := run_loadAt_mid (P := P) w b c ty (C.extract c (c + n)).toList d (hC.range c n) hu hd (by rw [hi]; simp; omega)
  have : (execOp a.eval o).run P w = .ok (.value (.agg R)) w := by
    unfold execOp
    simp only [hop, hx, Sem.run_bind, hr, Result.andThen_ok, Sem.run_pure]
    simp [hR]
  rw [this]
  exact h
end Mem
end Go.Proofs.YtajdpbbbocnfiaaDoor
namespace Go.Proofs.YtajdpbbbocnfiaaDoor
namespace Sha
/-- A number's byte, its lowest so many bytes; the number of some bytes. -/
def nbyte (m i : Nat) : BitVec 8 := BitVec.ofNat 8 (m / 256 ^ i)
def nbytes (m k : Nat) : List (BitVec 8) := (List.range k).map (nbyte m)
def leN : List (BitVec 8) → Nat
  | [] => 0
  | x :: l => x.toNat + 256 * leN l
theorem nbytes_length (m k : Nat) : (nbytes m k).length = k := by simp [nbytes]
theorem leN_lt : ∀ l : List (BitVec 8), leN l < 256 ^ l.length
  | [] => by simp [leN]
  | x :: l => by
    have h := leN_lt l
    have hx := x.isLt
    rw [leN, List.length_cons, Nat.pow_succ]
    omega
theorem leN_64 (l : List (BitVec 8)) (h : l.length ≤ 8) : leN l < 18446744073709551616 := by
  have h1 := leN_lt l
  have h2 : 256 ^ l.length ≤ 256 ^ 8 := Nat.pow_le_pow_right (by decide) h
  have h3 : (256 ^ 8 : Nat) = 18446744073709551616 := by decide
  omega
/-- A number from one to another one. -/
def cutN (z : Int) (lo hi : Nat) : Nat := (min (max z (lo : Int)) (hi : Int)).toNat
theorem cutN_val (z : Int) (lo hi : Nat) (_h : lo ≤ hi) : ((cutN z lo hi : Nat) : Int) = min (max z (lo : Int)) (hi : Int) := by unfold cutN; omega
theorem cutN_lo (z : Int) (lo hi : Nat) (h : lo ≤ hi) : lo ≤ cutN z lo hi := by unfold cutN; omega
theorem cutN_hi (z : Int) (lo hi : Nat) : cutN z lo hi ≤ hi := by unfold cutN; omega
def allZ (l : List (BitVec 8)) : Bool := l.all (· == 0)
/-- What a reader takes: the bytes, those that are left, its error. -/
structure Rd3 where
  x : List (BitVec 8)
  b : List (BitVec 8)
  e : Nat
def rdTake (b : List (BitVec 8)) (e n : Nat) : Rd3 := if e ≠ 0 then ⟨[], b, e⟩ else if b.length < n then ⟨[], b, 4⟩ else ⟨b.take n, b.drop n, 0⟩
def rdNum (b : List (BitVec 8)) (e : Nat) (k most : Nat) : Nat × List (BitVec 8) × Nat :=
  if (rdTake b e k).e ≠ 0 then (0, (rdTake b e k).b, (rdTake b e k).e) else if most < leN (rdTake b e k).x then (0, (rdTake b e k).b, 3) else (leN (rdTake b e k).x, (rdTake b e k).b, 0)
def rdRest (b : List (BitVec 8)) (e : Nat) : Nat := if e = 0 ∧ allZ b = false then 3 else e
theorem rdTake_len (b : List (BitVec 8)) (e n : Nat) (h : (rdTake b e n).e = 0) : (rdTake b e n).x.length = n ∧ e = 0 ∧ n ≤ b.length := by
  unfold rdTake at *
  split at h <;> rename_i h1
  · exact absurd h h1
  · split at h <;> rename_i h2
    · simp at h
    · rw [if_neg h1, if_neg h2]
      exact ⟨by simp; omega, by omega, by omega⟩
theorem rdTake_err (b : List (BitVec 8)) (e n : Nat) (h : (rdTake b e n).e ≠ 0) : (rdTake b e n).x = [] ∧ (rdTake b e n).b = b := by
  unfold rdTake at *
  split at h <;> rename_i h1
  · rw [if_pos h1]; exact ⟨rfl, rfl⟩
  · split at h <;> rename_i h2
    · rw [if_neg h1, if_pos h2]; exact ⟨rfl, rfl⟩
    · simp at h
end Sha
end Go.Proofs.YtajdpbbbocnfiaaDoor
