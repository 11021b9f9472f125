/- A word turned left, bit by bit and at once. Plain mathematics of the cipher (RFC 8439) on words and bytes. The document's turning left, quarter round and its way back: their walks. The document's quarter round and its way back: their walks. The document's word of four bytes: its walk. The document's places of the quarter rounds: its walk. The document's nonce: its walk. The program's turning of a word, its quarter round and its word of four bytes: their walks. The program's laying of a word as four bytes: its walk. The first words of a block: their walk. A block's words behind the rounds: the walks of the function literal and of the rounds. The rounds of a block's words: their walk. A block of the stream, and a nonce: their walks. The program's nonce: its walk. The program's stream: its walk. The program's turning of bytes: its walk. -/
import Derived.Test.YtjadjidjfkahpaaDoorBA
namespace Go.Proofs.YtjadjidjfkahpaaDoor
namespace Sha
/-- Turned right by r (up to 32), as a number. -/
def rM (x r : Nat) : Nat := x / 2 ^ r + x % 2 ^ r * 2 ^ (32 - r)
theorem rotl_nat (x : BitVec 32) (r : Nat) (h : r < 32) : (x.rotateLeft r).toNat = x.toNat * 2 ^ r % 2 ^ 32 + x.toNat / 2 ^ (32 - r) := by
  have hlt : x.toNat / 2 ^ (32 - r) < 2 ^ r := by
    have := x.isLt
    have e : 2 ^ 32 = 2 ^ (32 - r) * 2 ^ r := by rw [← Nat.pow_add]; congr 1; omega
    rw [e] at this
    exact Nat.div_lt_of_lt_mul this
  have e1 : x.toNat * 2 ^ r % 2 ^ 32 = 2 ^ r * (x.toNat % 2 ^ (32 - r)) := by
    have e : 2 ^ 32 = 2 ^ (32 - r) * 2 ^ r := by rw [← Nat.pow_add]; congr 1; omega
    rw [e, Nat.mul_mod_mul_right, Nat.mul_comm]
  rw [BitVec.toNat_rotateLeft, Nat.mod_eq_of_lt h, Nat.shiftRight_eq_div_pow, Nat.shiftLeft_eq, e1, ← Nat.two_pow_add_eq_or_of_lt hlt]
theorem rotl_zero (x : BitVec 32) : x.rotateLeft 0 = x := by
  apply BitVec.eq_of_toNat_eq
  rw [rotl_nat x 0 (by decide)]
  have := x.isLt
  omega
/-- One step of the turning. -/
theorem rotl_step (x : BitVec 32) (r : Nat) (h : r < 31) : (x.rotateLeft r).toNat * 2 % 2 ^ 32 + (x.rotateLeft r).toNat / 2147483648 = (x.rotateLeft (r + 1)).toNat := by
  rw [rotl_nat x r (by omega), rotl_nat x (r + 1) (by omega)]
  have hx := x.isLt
  have e2 : 32 - (r + 1) = 31 - r := by omega
  have e3 : 2 ^ (32 - r) = 2 * 2 ^ (31 - r) := by rw [← Nat.pow_succ']; congr 1; omega
  have e1 : 2 ^ 32 = 2 ^ r * (2 * 2 ^ (31 - r)) := by rw [← e3, ← Nat.pow_add]; congr 1; omega
  have em : x.toNat * 2 ^ r % 2 ^ 32 = 2 ^ r * (x.toNat % (2 * 2 ^ (31 - r))) := by rw [e1, Nat.mul_comm (x.toNat), Nat.mul_mod_mul_left]
  have em2 : x.toNat * 2 ^ (r + 1) % 2 ^ 32 = 2 * 2 ^ r * (x.toNat % 2 ^ (31 - r)) := by
    have e5 : 2 ^ 32 = 2 * 2 ^ r * 2 ^ (31 - r) := by rw [e1]; simp only [Nat.mul_assoc, Nat.mul_left_comm]
    rw [e5, Nat.pow_succ, Nat.mul_comm (x.toNat), Nat.mul_comm (2 ^ r) 2, Nat.mul_mod_mul_left]
  rw [em, em2, e2, e3]
  have hP : 0 < 2 ^ (31 - r) := Nat.two_pow_pos _
  have hR : 0 < 2 ^ r := Nat.two_pow_pos _
  have hRP : 2 ^ r * 2 ^ (31 - r) = 2147483648 := by rw [← Nat.pow_add, show r + (31 - r) = 31 by omega]
  generalize 2 ^ (31 - r) = P at *
  generalize 2 ^ r = R at *
  -- x = (2 h + l) P + m
  obtain ⟨m, hm⟩ : ∃ m, m = x.toNat % P := ⟨_, rfl⟩
  obtain ⟨q, hq⟩ : ∃ q, q = x.toNat / P := ⟨_, rfl⟩
  have hxq : x.toNat = P * q + m := by rw [hm, hq, Nat.div_add_mod]
  have hmP : m < P := by rw [hm]; exact Nat.mod_lt _ hP
  have d2 : x.toNat / (2 * P) = q / 2 := by rw [Nat.mul_comm, ← Nat.div_div_eq_div_mul, ← hq]
  have m2 : x.toNat % (2 * P) = q % 2 * P + m := by
    have h0 := Nat.div_add_mod x.toNat (2 * P)
    rw [d2] at h0
    have h1 : P * q = 2 * P * (q / 2) + P * (q % 2) := by
      have := Nat.div_add_mod q 2
      calc P * q = P * (2 * (q / 2) + q % 2) := by rw [this]
        _ = 2 * P * (q / 2) + P * (q % 2) := by rw [Nat.mul_add, ← Nat.mul_assoc, Nat.mul_comm P 2]
    have h2 : P * (q % 2) = q % 2 * P := Nat.mul_comm _ _
    omega
  rw [d2, m2, ← hq, ← hm]
  have hq2 : q / 2 < R := by
    have hq3 : q < 2 * R := by
      rw [hq]
      apply Nat.div_lt_of_lt_mul
      have : P * (2 * R) = 2 * (R * P) := by rw [Nat.mul_left_comm, Nat.mul_comm P R]
      rw [this, hRP]; omega
    omega
  have hRm : R * m < R * P := Nat.mul_lt_mul_of_pos_left hmP hR
  have e6 : R * (q % 2 * P + m) = q % 2 * 2147483648 + R * m := by rw [Nat.mul_add, Nat.mul_left_comm, hRP]
  have e7 : 2 * R * m = 2 * (R * m) := Nat.mul_assoc _ _ _
  rw [e6, e7]
  rw [hRP] at hRm
  have hl : R * m + q / 2 < 2147483648 := by
    -- the low bits of R * m are free
    have hm1 : m + 1 ≤ P := hmP
    have h1 : R * (m + 1) ≤ R * P := Nat.mul_le_mul_left _ hm1
    rw [hRP, Nat.mul_add, Nat.mul_one] at h1
    omega
  rcases Nat.mod_two_eq_zero_or_one q with h0 | h0 <;> rw [h0] <;> omega
theorem rotl_add (x : BitVec 32) (a : Nat) (ha : a < 32) : ∀ b, a + b < 32 → (x.rotateLeft a).rotateLeft b = x.rotateLeft (a + b)
  | 0, _ => rotl_zero _
  | b + 1, h => by
    apply BitVec.eq_of_toNat_eq
    rw [← rotl_step _ b (by omega), rotl_add x a ha b (by omega), ← Nat.add_assoc, ← rotl_step x (a + b) (by omega)]
/-- Turned by two that are 32 it is as it was. -/
theorem rotl_full (x : BitVec 32) : (x.rotateLeft 31).rotateLeft 1 = x := by
  apply BitVec.eq_of_toNat_eq
  rw [rotl_nat _ 1 (by decide), rotl_nat _ 31 (by decide)]
  have hx := x.isLt
  generalize x.toNat = y at *
  have e1 : y * 2 ^ 31 % 2 ^ 32 = 2147483648 * (y % 2) := by omega
  rw [e1]
  simp only [Nat.reducePow, Nat.reduceSub]
  rcases Nat.mod_two_eq_zero_or_one y with h0 | h0 <;> rw [h0] <;> omega
theorem rotl_pair (x : BitVec 32) (a b : Nat) (hb : 0 < b) (h : a + b = 32) : (x.rotateLeft a).rotateLeft b = x := by
  by_cases ha : a = 0
  · subst ha
    have e : b = 32 := by omega
    subst e
    rw [rotl_zero]
    have : x.rotateLeft 32 = x.rotateLeft 0 := by rw [BitVec.rotateLeft_def, BitVec.rotateLeft_def]
    rw [this, rotl_zero]
  · obtain ⟨c, rfl⟩ : ∃ c, b = c + 1 := ⟨b - 1, by omega⟩
    by_cases hc : c = 0
    · subst hc
      have e : a = 31 := by omega
      subst e
      exact rotl_full x
    · have e : (x.rotateLeft a).rotateLeft (c + 1) = ((x.rotateLeft a).rotateLeft c).rotateLeft 1 := (rotl_add (x.rotateLeft a) c (by omega) 1 (by omega)).symm
      rw [e, rotl_add x a (by omega) c (by omega), show a + c = 31 by omega]
      exact rotl_full x
/-- One bit, as the model reckons it. -/
theorem lf_val (x : BitVec 32) (r : Nat) (h : r < 31) : (V (x.rotateLeft r) * 2 + V (x.rotateLeft r) / 2147483648) % (4294967296 : Int) = V (x.rotateLeft (r + 1)) := by
  have e := rotl_step x r h
  have h1 := (x.rotateLeft (r + 1)).isLt
  unfold V
  omega
end Sha
end Go.Proofs.YtjadjidjfkahpaaDoor
namespace Go.Proofs.YtjadjidjfkahpaaDoor
namespace Sha
/-- Four words. -/
structure Q4 where
  a : BitVec 32
  b : BitVec 32
  c : BitVec 32
  d : BitVec 32
def Q4.list (q : Q4) : List (BitVec 32) := [q.a, q.b, q.c, q.d]
def q4 (l : List (BitVec 32)) : Q4 := ⟨l.getD 0 0, l.getD 1 0, l.getD 2 0, l.getD 3 0⟩
theorem q4_list (l : List (BitVec 32)) (h : l.length = 4) : (q4 l).list = l := by
  match l, h with
  | [_, _, _, _], _ => rfl
theorem list_q4 (q : Q4) : q4 q.list = q := rfl
/-- The quarter round. -/
def qa1 (q : Q4) : BitVec 32 := q.a + q.b
def qd1 (q : Q4) : BitVec 32 := (q.d ^^^ qa1 q).rotateLeft 16
def qc1 (q : Q4) : BitVec 32 := q.c + qd1 q
def qb1 (q : Q4) : BitVec 32 := (q.b ^^^ qc1 q).rotateLeft 12
def qa2 (q : Q4) : BitVec 32 := qa1 q + qb1 q
def qd2 (q : Q4) : BitVec 32 := (qd1 q ^^^ qa2 q).rotateLeft 8
def qc2 (q : Q4) : BitVec 32 := qc1 q + qd2 q
def qb2 (q : Q4) : BitVec 32 := (qb1 q ^^^ qc2 q).rotateLeft 7
def qr (q : Q4) : Q4 := ⟨qa2 q, qb2 q, qc2 q, qd2 q⟩
/-- The way back. -/
def kb1 (q : Q4) : BitVec 32 := q.b.rotateLeft 25 ^^^ q.c
def kc1 (q : Q4) : BitVec 32 := q.c - q.d
def kd1 (q : Q4) : BitVec 32 := q.d.rotateLeft 24 ^^^ q.a
def ka1 (q : Q4) : BitVec 32 := q.a - kb1 q
def kb0 (q : Q4) : BitVec 32 := (kb1 q).rotateLeft 20 ^^^ kc1 q
def kc0 (q : Q4) : BitVec 32 := kc1 q - kd1 q
def kd0 (q : Q4) : BitVec 32 := (kd1 q).rotateLeft 16 ^^^ ka1 q
def ka0 (q : Q4) : BitVec 32 := ka1 q - kb0 q
def qback (q : Q4) : Q4 := ⟨ka0 q, kb0 q, kc0 q, kd0 q⟩
theorem xor_back (x y : BitVec 32) : x ^^^ y ^^^ y = x := by rw [BitVec.xor_assoc, BitVec.xor_self, BitVec.xor_zero]
theorem sub_back (x y : BitVec 32) : x + y - y = x := BitVec.add_sub_cancel x y
/-- Each quarter round comes back. -/
theorem qback_qr (q : Q4) : qback (qr q) = q := by
  have e1 : kb1 (qr q) = qb1 q := by
    show (qb2 q).rotateLeft 25 ^^^ qc2 q = qb1 q
    rw [qb2, rotl_pair _ 7 25 (by decide) (by decide), xor_back]
  have e2 : kc1 (qr q) = qc1 q := sub_back _ _
  have e3 : kd1 (qr q) = qd1 q := by
    show (qd2 q).rotateLeft 24 ^^^ qa2 q = qd1 q
    rw [qd2, rotl_pair _ 8 24 (by decide) (by decide), xor_back]
  have e4 : ka1 (qr q) = qa1 q := by
    show qa2 q - kb1 (qr q) = qa1 q
    rw [e1]; exact sub_back _ _
  have e5 : kb0 (qr q) = q.b := by
    rw [kb0, e1, e2, qb1, rotl_pair _ 12 20 (by decide) (by decide), xor_back]
  have e6 : kc0 (qr q) = q.c := by rw [kc0, e2, e3]; exact sub_back _ _
  have e7 : kd0 (qr q) = q.d := by
    rw [kd0, e3, e4, qd1, rotl_pair _ 16 16 (by decide) (by decide), xor_back]
  have e8 : ka0 (qr q) = q.a := by rw [ka0, e4, e5]; exact sub_back _ _
  show (⟨ka0 (qr q), kb0 (qr q), kc0 (qr q), kd0 (qr q)⟩ : Q4) = q
  rw [e5, e6, e7, e8]
theorem qr_inj (x y : Q4) (h : qr x = qr y) : x = y := by rw [← qback_qr x, h, qback_qr]
/-- The quarter round of four places. -/
def qat (w : List (BitVec 32)) (i j k l : Nat) : List (BitVec 32) :=
  (((w.set i (qr ⟨w.getD i 0, w.getD j 0, w.getD k 0, w.getD l 0⟩).a).set j (qr ⟨w.getD i 0, w.getD j 0, w.getD k 0, w.getD l 0⟩).b).set k (qr ⟨w.getD i 0, w.getD j 0, w.getD k 0, w.getD l 0⟩).c).set l (qr ⟨w.getD i 0, w.getD j 0, w.getD k 0, w.getD l 0⟩).d
theorem qat_length (w : List (BitVec 32)) (i j k l : Nat) : (qat w i j k l).length = w.length := by simp [qat]
/-- The places of the eight quarter rounds. -/
def plc : List (List Nat) := [[0, 4, 8, 12], [1, 5, 9, 13], [2, 6, 10, 14], [3, 7, 11, 15], [0, 5, 10, 15], [1, 6, 11, 12], [2, 7, 8, 13], [3, 4, 9, 14]]
def qpl (w : List (BitVec 32)) (p : List Nat) : List (BitVec 32) := qat w (p.getD 0 0) (p.getD 1 0) (p.getD 2 0) (p.getD 3 0)
/-- The first m of the eight; n times all. -/
def some8 (w : List (BitVec 32)) (m : Nat) : List (BitVec 32) := (plc.take m).foldl qpl w
def all8 (w : List (BitVec 32)) : Nat → List (BitVec 32)
  | 0 => w
  | n + 1 => some8 (all8 w n) 8
theorem some8_next (w : List (BitVec 32)) (m : Nat) (h : m < 8) : some8 w (m + 1) = qpl (some8 w m) (plc.getD m []) := by
  have hm : m < plc.length := h
  unfold some8
  rw [List.take_succ_eq_append_getElem hm, List.foldl_append]
  simp [hm]
theorem some8_length (w : List (BitVec 32)) : ∀ m, m ≤ 8 → (some8 w m).length = w.length
  | 0, _ => rfl
  | m + 1, h => by rw [some8_next w m (by omega), qpl, qat_length, some8_length w m (by omega)]
theorem all8_length (w : List (BitVec 32)) : ∀ n, (all8 w n).length = w.length
  | 0 => rfl
  | n + 1 => by rw [all8, some8_length _ 8 (by decide), all8_length w n]
/-- A word as four bytes, the lowest first; four bytes as a word. -/
def le4 (x : BitVec 32) : List (BitVec 8) := [wb x 0, wb x 8, wb x 16, wb x 24]
def lew (b : List (BitVec 8)) (i : Nat) : BitVec 32 :=
  (b.getD (4 * i + 3) 0).setWidth 32 <<< 24 ||| (b.getD (4 * i + 2) 0).setWidth 32 <<< 16 ||| (b.getD (4 * i + 1) 0).setWidth 32 <<< 8 ||| (b.getD (4 * i) 0).setWidth 32
def cfirst (key nonce : List (BitVec 8)) (n : BitVec 32) : List (BitVec 32) :=
  [1634760805, 857760878, 2036477234, 1797285236] ++ (List.range 8).map (lew key) ++ [n] ++ (List.range 3).map (lew nonce)
theorem cfirst_length (key nonce : List (BitVec 8)) (n : BitVec 32) : (cfirst key nonce n).length = 16 := by simp [cfirst]
/-- The words of a block, and its bytes. -/
def cwords (key nonce : List (BitVec 8)) (n : BitVec 32) : List (BitVec 32) := adds (all8 (cfirst key nonce n) 10) (cfirst key nonce n)
def cByte (l : List (BitVec 32)) (i : Nat) : BitVec 8 := wb (l.getD (i / 4) 0) (8 * (i % 4))
def cblk (key nonce : List (BitVec 8)) (n : BitVec 32) : List (BitVec 8) := (List.range 64).map (cByte (cwords key nonce n))
theorem cblk_length (key nonce : List (BitVec 8)) (n : BitVec 32) : (cblk key nonce n).length = 64 := by simp [cblk]
/-- The first j blocks of the stream; its first so many bytes. -/
def cblks (key nonce : List (BitVec 8)) (n : BitVec 32) : Nat → List (BitVec 8)
  | 0 => []
  | j + 1 => cblks key nonce n j ++ cblk key nonce (n + BitVec.ofNat 32 j)
theorem cblks_length (key nonce : List (BitVec 8)) (n : BitVec 32) : ∀ j, (cblks key nonce n j).length = 64 * j
  | 0 => rfl
  | j + 1 => by rw [cblks, List.length_append, cblks_length key nonce n j, cblk_length]; omega
theorem cblks_more (key nonce : List (BitVec 8)) (n : BitVec 32) (j : Nat) : ∀ i, (cblks key nonce n (j + i)).take (64 * j) = cblks key nonce n j
  | 0 => by rw [Nat.add_zero, List.take_of_length_le (by rw [cblks_length]; omega)]
  | i + 1 => by rw [← Nat.add_assoc, cblks, List.take_append_of_le_length (by rw [cblks_length]; omega), cblks_more key nonce n j i]
def cstream (key nonce : List (BitVec 8)) (n : BitVec 32) (size : Nat) : List (BitVec 8) := (cblks key nonce n ((size + 63) / 64)).take size
theorem cstream_length (key nonce : List (BitVec 8)) (n : BitVec 32) (size : Nat) : (cstream key nonce n size).length = size := by
  rw [cstream, List.length_take, cblks_length]; omega
theorem cstream_from (key nonce : List (BitVec 8)) (n : BitVec 32) (size j : Nat) (h : size ≤ 64 * j) : (cblks key nonce n j).take size = cstream key nonce n size := by
  have hc : (size + 63) / 64 ≤ j := by omega
  obtain ⟨i, rfl⟩ : ∃ i, j = (size + 63) / 64 + i := ⟨j - (size + 63) / 64, by omega⟩
  have e := cblks_more key nonce n ((size + 63) / 64) i
  rw [cstream, ← e, List.take_take]
  congr 1
  omega
/-- Bytes turned: those behind the stream as they are. -/
def cturn (b s : List (BitVec 8)) : List (BitVec 8) := List.zipWith (· ^^^ ·) b s ++ b.drop s.length
theorem cturn_length (b s : List (BitVec 8)) (h : s.length ≤ b.length) : (cturn b s).length = b.length := by
  simp [cturn]; omega
theorem zip_back : ∀ b s : List (BitVec 8), s.length ≤ b.length → List.zipWith (· ^^^ ·) (List.zipWith (· ^^^ ·) b s) s = b.take s.length
  | b, [], _ => by simp
  | [], _ :: _, h => by simp at h
  | x :: b, y :: s, h => by
    simp only [List.length_cons] at h
    simp only [List.zipWith_cons_cons, List.length_cons, List.take_succ_cons, zip_back b s (by omega)]
    rw [BitVec.xor_assoc, BitVec.xor_self, BitVec.xor_zero]
/-- What is turned twice is as it was. -/
theorem cturn_back (b s : List (BitVec 8)) (h : s.length ≤ b.length) : cturn (cturn b s) s = b := by
  have hz : (List.zipWith (· ^^^ ·) b s : List (BitVec 8)).length = s.length := by simp; omega
  have h1 : List.zipWith (· ^^^ ·) (cturn b s) s = b.take s.length := by
    rw [← zip_back b s h, cturn]
    have : List.zipWith (· ^^^ ·) (List.zipWith (· ^^^ ·) b s ++ b.drop s.length) (s ++ []) = List.zipWith (· ^^^ ·) (List.zipWith (· ^^^ ·) b s) s ++ List.zipWith (· ^^^ ·) (b.drop s.length) [] := List.zipWith_append hz
    simpa using this
  have h2 : (cturn b s).drop s.length = b.drop s.length := by
    unfold cturn
    rw [List.drop_append, hz, Nat.sub_self, List.drop_zero, List.drop_of_length_le (by rw [hz]; exact Nat.le_refl _), List.nil_append]
  rw [cturn, h1, h2, List.take_append_drop]
/-- A nonce: four bytes of an epoch, eight of a block, the lowest first. -/
def wb64 (x : BitVec 64) (k : Nat) : BitVec 8 := (x >>> k).setWidth 8
def cnonce (e : BitVec 32) (b : BitVec 64) : List (BitVec 8) := (List.range 4).map (fun i => wb e (8 * i)) ++ (List.range 8).map fun i => wb64 b (8 * i)
theorem cnonce_length (e : BitVec 32) (b : BitVec 64) : (cnonce e b).length = 12 := by simp [cnonce]
end Sha
end Go.Proofs.YtjadjidjfkahpaaDoor
namespace Go.Proofs.YtjadjidjfkahpaaDoor
namespace Sha
open Go.RowKit Mem
set_option maxRecDepth 100000 in
set_option maxHeartbeats 400000 in
theorem left_any (x : BitVec 32) (n : Nat) (w : World) (hn : n < 32) :
    Calls Tryd.prog 81 #[.int .u32 (V x), .int .i64 (n : Int)] w fun e w' => e = .returned (.int .u32 (V (x.rotateLeft n))) ∧ w = w' := by
  go_enter Tryd.func81, Tryd.ntmps81
  go_wp2_with fail
  go_loop [0, 5] (fun v i => ∃ k : Nat, k ≤ n ∧ i = .int .i64 k ∧ v = .int .u32 (V (x.rotateLeft k))) (fun _ i => n - (intOf i).toNat)
  case atStart => exact ⟨0, by omega, rfl, by rw [rotl_zero]⟩
  case round =>
    obtain ⟨k, hk, rfl, rfl⟩ := hrel
    obtain ⟨y, hy⟩ : ∃ y, y = x.rotateLeft k := ⟨_, rfl⟩
    by_cases hlt : k < n
    · have hs := lf_val x k (by omega)
      rw [← hy] at hs ⊢
      have v0 := V_lo y
      have v1 := V_hi y
      have hlt' : (k : Int) < (n : Int) := by omega
      have HS := Lib.hid hs
      clear hs hy
      go_wp2
      go_round
      case rel => exact ⟨k + 1, by omega, by go_num, by rw [← HS.out]; congr 1; first | omega | (rw [Int.tdiv_eq_ediv_of_nonneg v0]; omega)⟩
      case measure => simp [intOf]; omega
    · have hkn : k = n := by omega
      rw [← hy]
      have HY : Hid (y = x.rotateLeft n) := by rw [hy, hkn]; exact (rfl : x.rotateLeft n = x.rotateLeft n)
      have hge : ¬ (k : Int) < (n : Int) := by omega
      clear hy hkn hlt
      go_wp2
      go_ret
      exact ⟨by rw [← HY.out]; rfl, rfl⟩
end Sha
end Go.Proofs.YtjadjidjfkahpaaDoor
namespace Go.Proofs.YtjadjidjfkahpaaDoor
namespace Sha
open Go.RowKit Mem
def qOf (q : Q4) : Array Value := (u32s q.list).toArray
theorem qOf_size (q : Q4) : (qOf q).size = 4 := rfl
theorem qOf_one (q : Q4) : (qOf q).all (·.oneCell') = true := u32s_one _
theorem build_q (a b c d : BitVec 32) (w : World) : (Instr.build 112 #[(0, .int .u32 (V a)), (1, .int .u32 (V b)), (2, .int .u32 (V c)), (3, .int .u32 (V d))]).run Tryd.prog w = .ok (.agg #[.int .u32 (V a), .int .u32 (V b), .int .u32 (V c), .int .u32 (V d)]) w := by kernel_rfl
def Z4 : Array Value := (u32s [0, 0, 0, 0]).toArray
theorem zero4 (w : World) : (zeroValue 112).run Tryd.prog w = .ok (.agg Z4) w := by kernel_rfl
theorem infoQ : (Tryd.prog.info? 112).map (·.size) = some 4 := by kernel_rfl
theorem infoU32 : (Tryd.prog.info? 65).map (·.size) = some 1 := by kernel_rfl
theorem v_sub (a b : BitVec 32) : IntKind.u32.wrap (V a - V b) = V (a - b) := by
  have h0 := V_lo a; have h1 := V_hi a; have h2 := V_lo b; have h3 := V_hi b
  have e : IntKind.u32.wrap (V a - V b) = (V a - V b) % 4294967296 := by simp [IntKind.wrap, IntKind.bits, IntKind.signed]
  rw [e]
  unfold V at *
  rw [BitVec.toNat_sub]
  omega
theorem v_subm (a b : BitVec 32) : (V a - V b) % (4294967296 : Int) = V (a - b) := by
  rw [← v_sub]; simp [IntKind.wrap, IntKind.bits, IntKind.signed]
set_option maxRecDepth 100000 in
set_option maxHeartbeats 1000000 in
theorem rquarter_any (q : Q4) (w : World) : Calls Tryd.prog 72 #[.agg (qOf q)] w fun e w' => e = .returned (.agg (qOf (qr q))) ∧ Below w.heap.size w w' := by
  obtain ⟨X, hX⟩ : ∃ X, X = Z4 := ⟨_, rfl⟩
  have hx := zero4
  rw [← hX] at hx
  have hXs : X.size = 4 := by rw [hX]; rfl
  obtain ⟨C, hC⟩ : ∃ C, C = qOf q := ⟨_, rfl⟩
  have c0 : C[0]? = some (.int .u32 (V q.a)) := by rw [hC]; rfl
  have c1 : C[1]? = some (.int .u32 (V q.b)) := by rw [hC]; rfl
  have c2 : C[2]? = some (.int .u32 (V q.c)) := by rw [hC]; rfl
  have c3 : C[3]? = some (.int .u32 (V q.d)) := by rw [hC]; rfl
  rw [← hC]
  have a1 : At ((w.alloc (.cells C 112)).alloc (.cells X 112)) w.heap.size C 112 := (at_new w C _).alloc _
  have r1 : At ((w.alloc (.cells C 112)).alloc (.cells X 112)) (w.heap.size + 1) X 112 := by
    have h := at_new (w.alloc (.cells C 112)) X 112
    simpa using h
  have b1 : Below w.heap.size w ((w.alloc (.cells C 112)).alloc (.cells X 112)) := ((Below.refl _ _).alloc (Nat.le_refl _) _).alloc (by simp) _
  have XS := Lib.hid hXs; have C0 := Lib.hid c0; have C1 := Lib.hid c1; have C2 := Lib.hid c2; have C3 := Lib.hid c3; have A1 := Lib.hid a1; have R1 := Lib.hid r1; have B1 := Lib.hid b1
  clear hXs c0 c1 c2 c3 a1 r1 b1 hX hC
  go_enter Tryd.func72, Tryd.ntmps72
  go_wp2_with fail
  generalize (w.alloc (.cells C 112)).alloc (.cells X 112) = w1 at *
  refine wp_region_plan_in (fun w' => Below w1.heap.size w1 w') (.take 0 (.take 1 (.take 2 (.take 3 (.take 4 (.take 5 (.take 6 (.take 7 (.take 8 (.take 9 (.take 10 (.take 11 .done)))))))))))) (by kernel_rfl) (by kernel_rfl) (by kernel_rfl) (Below.refl _ _).drew ?_
  refine plan_index_arr 112 65 4 _ _ w.heap.size 0 1 0 (by rfl) (by rfl) (by rfl) (by first | (with_reducible exact Mem.ev_const _ _) | (with_reducible exact Mem.ev_zero _ _ _) | (with_reducible (apply Eq.trans (Mem.ev_tmp _ _ _)); simp only [List.getD_cons_succ, List.getD_cons_zero] <;> rfl)) (by rfl) (by omega) Tryd.underlying112 (by kernel_rfl) (by decide) ?_
  (simp only [Act.put, List.setIfInBounds_toArray, List.set_cons_zero, List.set_cons_succ])
  refine plan_cell 65 _ _ _ _ (by rfl) (by rfl) (by rfl) (by first | (with_reducible exact Mem.ev_const _ _) | (with_reducible exact Mem.ev_zero _ _ _) | (with_reducible (apply Eq.trans (Mem.ev_tmp _ _ _)); simp only [List.getD_cons_succ, List.getD_cons_zero] <;> rfl)) (fun w' hw' => ((A1.out.below hw' A1.out.lt).cell _).trans C0.out) Tryd.underlying65 (by rfl) ?_
  (simp only [Act.put, List.setIfInBounds_toArray, List.set_cons_zero, List.set_cons_succ])
  refine plan_index_arr 112 65 4 _ _ w.heap.size 0 1 1 (by rfl) (by rfl) (by rfl) (by first | (with_reducible exact Mem.ev_const _ _) | (with_reducible exact Mem.ev_zero _ _ _) | (with_reducible (apply Eq.trans (Mem.ev_tmp _ _ _)); simp only [List.getD_cons_succ, List.getD_cons_zero] <;> rfl)) (by rfl) (by omega) Tryd.underlying112 (by kernel_rfl) (by decide) ?_
  (simp only [Act.put, List.setIfInBounds_toArray, List.set_cons_zero, List.set_cons_succ])
  refine plan_cell 65 _ _ _ _ (by rfl) (by rfl) (by rfl) (by first | (with_reducible exact Mem.ev_const _ _) | (with_reducible exact Mem.ev_zero _ _ _) | (with_reducible (apply Eq.trans (Mem.ev_tmp _ _ _)); simp only [List.getD_cons_succ, List.getD_cons_zero] <;> rfl)) (fun w' hw' => ((A1.out.below hw' A1.out.lt).cell _).trans C1.out) Tryd.underlying65 (by rfl) ?_
  (simp only [Act.put, List.setIfInBounds_toArray, List.set_cons_zero, List.set_cons_succ])
  refine plan_index_arr 112 65 4 _ _ w.heap.size 0 1 2 (by rfl) (by rfl) (by rfl) (by first | (with_reducible exact Mem.ev_const _ _) | (with_reducible exact Mem.ev_zero _ _ _) | (with_reducible (apply Eq.trans (Mem.ev_tmp _ _ _)); simp only [List.getD_cons_succ, List.getD_cons_zero] <;> rfl)) (by rfl) (by omega) Tryd.underlying112 (by kernel_rfl) (by decide) ?_
  (simp only [Act.put, List.setIfInBounds_toArray, List.set_cons_zero, List.set_cons_succ])
  refine plan_cell 65 _ _ _ _ (by rfl) (by rfl) (by rfl) (by first | (with_reducible exact Mem.ev_const _ _) | (with_reducible exact Mem.ev_zero _ _ _) | (with_reducible (apply Eq.trans (Mem.ev_tmp _ _ _)); simp only [List.getD_cons_succ, List.getD_cons_zero] <;> rfl)) (fun w' hw' => ((A1.out.below hw' A1.out.lt).cell _).trans C2.out) Tryd.underlying65 (by rfl) ?_
  (simp only [Act.put, List.setIfInBounds_toArray, List.set_cons_zero, List.set_cons_succ])
  refine plan_index_arr 112 65 4 _ _ w.heap.size 0 1 3 (by rfl) (by rfl) (by rfl) (by first | (with_reducible exact Mem.ev_const _ _) | (with_reducible exact Mem.ev_zero _ _ _) | (with_reducible (apply Eq.trans (Mem.ev_tmp _ _ _)); simp only [List.getD_cons_succ, List.getD_cons_zero] <;> rfl)) (by rfl) (by omega) Tryd.underlying112 (by kernel_rfl) (by decide) ?_
  (simp only [Act.put, List.setIfInBounds_toArray, List.set_cons_zero, List.set_cons_succ])
  refine plan_cell 65 _ _ _ _ (by rfl) (by rfl) (by rfl) (by first | (with_reducible exact Mem.ev_const _ _) | (with_reducible exact Mem.ev_zero _ _ _) | (with_reducible (apply Eq.trans (Mem.ev_tmp _ _ _)); simp only [List.getD_cons_succ, List.getD_cons_zero] <;> rfl)) (fun w' hw' => ((A1.out.below hw' A1.out.lt).cell _).trans C3.out) Tryd.underlying65 (by rfl) ?_
  (simp only [Act.put, List.setIfInBounds_toArray, List.set_cons_zero, List.set_cons_succ])
  (first | (refine plan_move _ _ (by rfl) (by rfl) (.inl (by rfl)) (by first | (with_reducible exact Mem.ev_const _ _) | (with_reducible exact Mem.ev_zero _ _ _) | (with_reducible (apply Eq.trans (Mem.ev_tmp _ _ _)); simp only [List.getD_cons_succ, List.getD_cons_zero] <;> rfl)) ?_) | (refine plan_move _ _ (by rfl) (by rfl) (.inr (by rfl)) (by first | (with_reducible exact Mem.ev_const _ _) | (with_reducible exact Mem.ev_zero _ _ _) | (with_reducible (apply Eq.trans (Mem.ev_tmp _ _ _)); simp only [List.getD_cons_succ, List.getD_cons_zero] <;> rfl)) ?_) | (refine plan_pick_t _ _ _ _ (by rfl) (by rfl) (by rfl) (by first | (with_reducible exact Mem.ev_const _ _) | (with_reducible exact Mem.ev_zero _ _ _) | (with_reducible (apply Eq.trans (Mem.ev_tmp _ _ _)); simp only [List.getD_cons_succ, List.getD_cons_zero] <;> rfl)) (by first | (with_reducible exact Mem.ev_const _ _) | (with_reducible exact Mem.ev_zero _ _ _) | (with_reducible (apply Eq.trans (Mem.ev_tmp _ _ _)); simp only [List.getD_cons_succ, List.getD_cons_zero] <;> rfl)) ?_) | (refine plan_pick_f _ _ _ _ (by rfl) (by rfl) (by rfl) (by first | (with_reducible exact Mem.ev_const _ _) | (with_reducible exact Mem.ev_zero _ _ _) | (with_reducible (apply Eq.trans (Mem.ev_tmp _ _ _)); simp only [List.getD_cons_succ, List.getD_cons_zero] <;> rfl)) (by first | (with_reducible exact Mem.ev_const _ _) | (with_reducible exact Mem.ev_zero _ _ _) | (with_reducible (apply Eq.trans (Mem.ev_tmp _ _ _)); simp only [List.getD_cons_succ, List.getD_cons_zero] <;> rfl)) ?_))
  (simp only [Act.put, List.setIfInBounds_toArray, List.set_cons_zero, List.set_cons_succ])
  (first | (refine plan_move _ _ (by rfl) (by rfl) (.inl (by rfl)) (by first | (with_reducible exact Mem.ev_const _ _) | (with_reducible exact Mem.ev_zero _ _ _) | (with_reducible (apply Eq.trans (Mem.ev_tmp _ _ _)); simp only [List.getD_cons_succ, List.getD_cons_zero] <;> rfl)) ?_) | (refine plan_move _ _ (by rfl) (by rfl) (.inr (by rfl)) (by first | (with_reducible exact Mem.ev_const _ _) | (with_reducible exact Mem.ev_zero _ _ _) | (with_reducible (apply Eq.trans (Mem.ev_tmp _ _ _)); simp only [List.getD_cons_succ, List.getD_cons_zero] <;> rfl)) ?_) | (refine plan_pick_t _ _ _ _ (by rfl) (by rfl) (by rfl) (by first | (with_reducible exact Mem.ev_const _ _) | (with_reducible exact Mem.ev_zero _ _ _) | (with_reducible (apply Eq.trans (Mem.ev_tmp _ _ _)); simp only [List.getD_cons_succ, List.getD_cons_zero] <;> rfl)) (by first | (with_reducible exact Mem.ev_const _ _) | (with_reducible exact Mem.ev_zero _ _ _) | (with_reducible (apply Eq.trans (Mem.ev_tmp _ _ _)); simp only [List.getD_cons_succ, List.getD_cons_zero] <;> rfl)) ?_) | (refine plan_pick_f _ _ _ _ (by rfl) (by rfl) (by rfl) (by first | (with_reducible exact Mem.ev_const _ _) | (with_reducible exact Mem.ev_zero _ _ _) | (with_reducible (apply Eq.trans (Mem.ev_tmp _ _ _)); simp only [List.getD_cons_succ, List.getD_cons_zero] <;> rfl)) (by first | (with_reducible exact Mem.ev_const _ _) | (with_reducible exact Mem.ev_zero _ _ _) | (with_reducible (apply Eq.trans (Mem.ev_tmp _ _ _)); simp only [List.getD_cons_succ, List.getD_cons_zero] <;> rfl)) ?_))
  (simp only [Act.put, List.setIfInBounds_toArray, List.set_cons_zero, List.set_cons_succ])
  (first | (refine plan_move _ _ (by rfl) (by rfl) (.inl (by rfl)) (by first | (with_reducible exact Mem.ev_const _ _) | (with_reducible exact Mem.ev_zero _ _ _) | (with_reducible (apply Eq.trans (Mem.ev_tmp _ _ _)); simp only [List.getD_cons_succ, List.getD_cons_zero] <;> rfl)) ?_) | (refine plan_move _ _ (by rfl) (by rfl) (.inr (by rfl)) (by first | (with_reducible exact Mem.ev_const _ _) | (with_reducible exact Mem.ev_zero _ _ _) | (with_reducible (apply Eq.trans (Mem.ev_tmp _ _ _)); simp only [List.getD_cons_succ, List.getD_cons_zero] <;> rfl)) ?_) | (refine plan_pick_t _ _ _ _ (by rfl) (by rfl) (by rfl) (by first | (with_reducible exact Mem.ev_const _ _) | (with_reducible exact Mem.ev_zero _ _ _) | (with_reducible (apply Eq.trans (Mem.ev_tmp _ _ _)); simp only [List.getD_cons_succ, List.getD_cons_zero] <;> rfl)) (by first | (with_reducible exact Mem.ev_const _ _) | (with_reducible exact Mem.ev_zero _ _ _) | (with_reducible (apply Eq.trans (Mem.ev_tmp _ _ _)); simp only [List.getD_cons_succ, List.getD_cons_zero] <;> rfl)) ?_) | (refine plan_pick_f _ _ _ _ (by rfl) (by rfl) (by rfl) (by first | (with_reducible exact Mem.ev_const _ _) | (with_reducible exact Mem.ev_zero _ _ _) | (with_reducible (apply Eq.trans (Mem.ev_tmp _ _ _)); simp only [List.getD_cons_succ, List.getD_cons_zero] <;> rfl)) (by first | (with_reducible exact Mem.ev_const _ _) | (with_reducible exact Mem.ev_zero _ _ _) | (with_reducible (apply Eq.trans (Mem.ev_tmp _ _ _)); simp only [List.getD_cons_succ, List.getD_cons_zero] <;> rfl)) ?_))
  (simp only [Act.put, List.setIfInBounds_toArray, List.set_cons_zero, List.set_cons_succ])
  (first | (refine plan_move _ _ (by rfl) (by rfl) (.inl (by rfl)) (by first | (with_reducible exact Mem.ev_const _ _) | (with_reducible exact Mem.ev_zero _ _ _) | (with_reducible (apply Eq.trans (Mem.ev_tmp _ _ _)); simp only [List.getD_cons_succ, List.getD_cons_zero] <;> rfl)) ?_) | (refine plan_move _ _ (by rfl) (by rfl) (.inr (by rfl)) (by first | (with_reducible exact Mem.ev_const _ _) | (with_reducible exact Mem.ev_zero _ _ _) | (with_reducible (apply Eq.trans (Mem.ev_tmp _ _ _)); simp only [List.getD_cons_succ, List.getD_cons_zero] <;> rfl)) ?_) | (refine plan_pick_t _ _ _ _ (by rfl) (by rfl) (by rfl) (by first | (with_reducible exact Mem.ev_const _ _) | (with_reducible exact Mem.ev_zero _ _ _) | (with_reducible (apply Eq.trans (Mem.ev_tmp _ _ _)); simp only [List.getD_cons_succ, List.getD_cons_zero] <;> rfl)) (by first | (with_reducible exact Mem.ev_const _ _) | (with_reducible exact Mem.ev_zero _ _ _) | (with_reducible (apply Eq.trans (Mem.ev_tmp _ _ _)); simp only [List.getD_cons_succ, List.getD_cons_zero] <;> rfl)) ?_) | (refine plan_pick_f _ _ _ _ (by rfl) (by rfl) (by rfl) (by first | (with_reducible exact Mem.ev_const _ _) | (with_reducible exact Mem.ev_zero _ _ _) | (with_reducible (apply Eq.trans (Mem.ev_tmp _ _ _)); simp only [List.getD_cons_succ, List.getD_cons_zero] <;> rfl)) (by first | (with_reducible exact Mem.ev_const _ _) | (with_reducible exact Mem.ev_zero _ _ _) | (with_reducible (apply Eq.trans (Mem.ev_tmp _ _ _)); simp only [List.getD_cons_succ, List.getD_cons_zero] <;> rfl)) ?_))
  (simp only [Act.put, List.setIfInBounds_toArray, List.set_cons_zero, List.set_cons_succ])
  refine plan_nil ?_
  have R2 : Hid (At w1.drew (w.heap.size + 1) X 112) := R1.out
  have B2 : Hid (Below w.heap.size w w1.drew) := B1.out.drew
  clear R1 B1 A1 hx
  generalize w1.drew = W at *
  go_wp2_with fail
  obtain ⟨a1, ha1⟩ : ∃ x : BitVec 32, x = q.a + q.b := ⟨_, rfl⟩
  rw [r_add q.a q.b, ← ha1]
  have Ha1 := Lib.hid ha1
  clear ha1
  rw [r_xor]
  refine (left_any (q.d ^^^ a1) 16 _ (by decide)).mono ?_
  rintro e w' ⟨rfl, rfl⟩
  obtain ⟨d1, hd1⟩ : ∃ x : BitVec 32, x = (q.d ^^^ a1).rotateLeft 16 := ⟨_, rfl⟩
  rw [← hd1]
  have Hd1 := Lib.hid hd1
  clear hd1
  go_wp2_with fail
  obtain ⟨k1, hk1⟩ : ∃ x : BitVec 32, x = q.c + d1 := ⟨_, rfl⟩
  rw [r_add q.c d1, ← hk1]
  have Hk1 := Lib.hid hk1
  clear hk1
  rw [r_xor]
  refine (left_any (q.b ^^^ k1) 12 _ (by decide)).mono ?_
  rintro e w' ⟨rfl, rfl⟩
  obtain ⟨b1, hb1⟩ : ∃ x : BitVec 32, x = (q.b ^^^ k1).rotateLeft 12 := ⟨_, rfl⟩
  rw [← hb1]
  have Hb1 := Lib.hid hb1
  clear hb1
  go_wp2_with fail
  obtain ⟨a2, ha2⟩ : ∃ x : BitVec 32, x = a1 + b1 := ⟨_, rfl⟩
  rw [r_add a1 b1, ← ha2]
  have Ha2 := Lib.hid ha2
  clear ha2
  rw [r_xor]
  refine (left_any (d1 ^^^ a2) 8 _ (by decide)).mono ?_
  rintro e w' ⟨rfl, rfl⟩
  obtain ⟨d2, hd2⟩ : ∃ x : BitVec 32, x = (d1 ^^^ a2).rotateLeft 8 := ⟨_, rfl⟩
  rw [← hd2]
  have Hd2 := Lib.hid hd2
  clear hd2
  go_wp2_with fail
  obtain ⟨k2, hk2⟩ : ∃ x : BitVec 32, x = k1 + d2 := ⟨_, rfl⟩
  rw [r_add k1 d2, ← hk2]
  have Hk2 := Lib.hid hk2
  clear hk2
  rw [r_xor]
  refine (left_any (b1 ^^^ k2) 7 _ (by decide)).mono ?_
  rintro e w' ⟨rfl, rfl⟩
  obtain ⟨b2, hb2⟩ : ∃ x : BitVec 32, x = (b1 ^^^ k2).rotateLeft 7 := ⟨_, rfl⟩
  rw [← hb2]
  have Hb2 := Lib.hid hb2
  clear hb2
  have hres : qOf (qr q) = (#[.int .u32 (V a2), .int .u32 (V b2), .int .u32 (V k2), .int .u32 (V d2)] : Array Value) := by rw [Hb2.out, Hk2.out, Hd2.out, Ha2.out, Hb1.out, Hk1.out, Hd1.out, Ha1.out]; rfl
  have HRES := Lib.hid hres
  clear hres
  go_wp2_with (first | (refine wpList_store_all (by rfl) 112 _ _ (by rfl) (by rfl) (w.heap.size + 1) (#[.int .u32 (V a2), .int .u32 (V b2), .int .u32 (V k2), .int .u32 (V d2)] : Array Value) (by rfl) (by rfl) (by exact infoQ) _ _ R2.out (by exact XS.out.symm) (u32s_one [a2, b2, k2, d2]) ?_))
  try simp only [Exit.inBlock, Exit.then]
  refine ret_row (by rfl) (w.heap.size + 1) 112 (#[.int .u32 (V a2), .int .u32 (V b2), .int .u32 (V k2), .int .u32 (V d2)] : Array Value) _ (by rfl) (R2.out.row _) Tryd.underlying112 (by rfl) (by exact infoQ) ?_
  exact ⟨by rw [HRES.out], below_row B2.out (by omega) _⟩
end Sha
end Go.Proofs.YtjadjidjfkahpaaDoor
namespace Go.Proofs.YtjadjidjfkahpaaDoor
namespace Sha
open Go.RowKit Mem
theorem or_sum (a b k : Nat) (hb : b < 2 ^ k) : a * 2 ^ k ||| b = a * 2 ^ k + b := by
  rw [Nat.mul_comm, Nat.two_pow_add_eq_or_of_lt hb]
theorem lew_nat (a b c d : BitVec 8) : (d.setWidth 32 <<< 24 ||| c.setWidth 32 <<< 16 ||| b.setWidth 32 <<< 8 ||| a.setWidth 32 : BitVec 32).toNat = a.toNat + 256 * b.toNat + 65536 * c.toNat + 16777216 * d.toNat := by
  have ha := a.isLt; have hb := b.isLt; have hc := c.isLt; have hd := d.isLt
  have sh (x : BitVec 8) (k : Nat) (hk : k ≤ 24) : (x.setWidth 32 <<< k : BitVec 32).toNat = x.toNat * 2 ^ k := by
    have hx := x.isLt
    have h2 : x.toNat * 2 ^ k < 2 ^ 32 := by
      calc x.toNat * 2 ^ k < 2 ^ 8 * 2 ^ k := Nat.mul_lt_mul_of_pos_right hx (Nat.two_pow_pos k)
        _ = 2 ^ (8 + k) := (Nat.pow_add 2 8 k).symm
        _ ≤ 2 ^ 32 := Nat.pow_le_pow_right (by decide) (by omega)
    rw [BitVec.toNat_shiftLeft, BitVec.toNat_setWidth, Nat.shiftLeft_eq, Nat.mod_eq_of_lt (show x.toNat < 2 ^ 32 by omega), Nat.mod_eq_of_lt h2]
  have s0 : (a.setWidth 32 : BitVec 32).toNat = a.toNat := by rw [BitVec.toNat_setWidth, Nat.mod_eq_of_lt (by omega)]
  rw [BitVec.toNat_or, BitVec.toNat_or, BitVec.toNat_or, sh d 24 (by decide), sh c 16 (by decide), sh b 8 (by decide), s0]
  rw [or_sum d.toNat (c.toNat * 2 ^ 16) 24 (by omega)]
  rw [show d.toNat * 2 ^ 24 + c.toNat * 2 ^ 16 = (d.toNat * 2 ^ 8 + c.toNat) * 2 ^ 16 by omega, or_sum _ (b.toNat * 2 ^ 8) 16 (by omega)]
  rw [show (d.toNat * 2 ^ 8 + c.toNat) * 2 ^ 16 + b.toNat * 2 ^ 8 = (d.toNat * 2 ^ 16 + c.toNat * 2 ^ 8 + b.toNat) * 2 ^ 8 by omega, or_sum _ a.toNat 8 (by omega)]
  omega
theorem lew_val (l : List (BitVec 8)) (i : Nat) : B8 (l.getD (4 * i) 0) + 256 * B8 (l.getD (4 * i + 1) 0) + 65536 * B8 (l.getD (4 * i + 2) 0) + 16777216 * B8 (l.getD (4 * i + 3) 0) = V (lew l i) := by
  unfold V B8 lew
  rw [lew_nat]
  omega
theorem conv_b (x : BitVec 8) (w : World) : (convert 5 65 (.int .u8 (B8 x))).run Tryd.prog w = .ok (.int .u32 (B8 x)) w := by
  have h0 := B8_lo x; have h1 := B8_hi x
  have e : (convert 5 65 (.int .u8 (B8 x))).run Tryd.prog w = .ok (.int .u32 (IntKind.u32.wrap (B8 x))) w := by kernel_rfl
  rw [e, u32_id _ h0 (by omega)]
set_option maxRecDepth 100000 in
set_option maxHeartbeats 1000000 in
theorem rword_any (v : Value) (l : List (BitVec 8)) (w : World) (h : Sl w v l) (hl : l.length = 4) : Calls Tryd.prog 70 #[v] w fun e w' => e = .returned (.int .u32 (V (lew l 0))) ∧ Below w.heap.size w w' := by
  obtain ⟨a, cap, rfl, hcap, hr⟩ := h
  rw [hl] at hcap hr ⊢
  obtain ⟨bb, oo, rfl, hbb, hc⟩ := hr (by intro e; rw [e] at hl; simp at hl)
  obtain ⟨x0, h0⟩ : ∃ x, x = l.getD 0 0 := ⟨_, rfl⟩
  obtain ⟨x1, h1⟩ : ∃ x, x = l.getD 1 0 := ⟨_, rfl⟩
  obtain ⟨x2, h2⟩ : ∃ x, x = l.getD 2 0 := ⟨_, rfl⟩
  obtain ⟨x3, h3⟩ : ∃ x, x = l.getD 3 0 := ⟨_, rfl⟩
  have hv : B8 x0 + 256 * B8 x1 + 65536 * B8 x2 + 16777216 * B8 x3 = V (lew l 0) := by rw [h0, h1, h2, h3]; exact lew_val l 0
  have c0 : w.cell? ⟨bb, oo + 0, none⟩ = some (.int .u8 (B8 x0)) := by rw [h0]; exact hc 0 (by decide)
  have c1 : w.cell? ⟨bb, oo + 1, none⟩ = some (.int .u8 (B8 x1)) := by rw [h1]; exact hc 1 (by decide)
  have c2 : w.cell? ⟨bb, oo + 2, none⟩ = some (.int .u8 (B8 x2)) := by rw [h2]; exact hc 2 (by decide)
  have c3 : w.cell? ⟨bb, oo + 3, none⟩ = some (.int .u8 (B8 x3)) := by rw [h3]; exact hc 3 (by decide)
  have k0 (w' : World) (hw : Below w.heap.size w w') (k : Nat) : w'.cell? ⟨bb, oo + k, none⟩ = w.cell? ⟨bb, oo + k, none⟩ := hw.cell (p := ⟨bb, oo + k, none⟩) hbb
  have l0 := B8_lo x0; have l1 := B8_lo x1; have l2 := B8_lo x2; have l3 := B8_lo x3; have u0 := B8_hi x0; have u1 := B8_hi x1; have u2 := B8_hi x2; have u3 := B8_hi x3
  have HV := Lib.hid hv; have C0 := Lib.hid c0; have C1 := Lib.hid c1; have C2 := Lib.hid c2; have C3 := Lib.hid c3; have K0 := Lib.hid k0
  clear hv c0 c1 c2 c3 k0 hc hr h0 h1 h2 h3
  go_enter Tryd.func70, Tryd.ntmps70
  go_wp2_with fail
  refine wp_region_plan_in (fun w' => Below w.heap.size w w') (.take 0 (.take 1 (.take 2 (.take 3 (.take 4 (.take 5 (.take 6 (.take 7 (.take 8 (.take 9 (.take 10 (.take 11 (.take 12 (.take 13 (.take 14 (.take 15 (.take 16 (.take 17 (.take 18 (.take 19 (.take 20 (.take 21 (.take 22 .done))))))))))))))))))))))) (by kernel_rfl) (by kernel_rfl) (by kernel_rfl) (Below.refl _ _).drew ?_
  (first | (refine plan_move _ _ (by rfl) (by rfl) (.inl (by rfl)) (by first | (with_reducible exact Mem.ev_const _ _) | (with_reducible exact Mem.ev_zero _ _ _) | (with_reducible (apply Eq.trans (Mem.ev_tmp _ _ _)); simp only [List.getD_cons_succ, List.getD_cons_zero] <;> rfl)) ?_) | (refine plan_move _ _ (by rfl) (by rfl) (.inr (by rfl)) (by first | (with_reducible exact Mem.ev_const _ _) | (with_reducible exact Mem.ev_zero _ _ _) | (with_reducible (apply Eq.trans (Mem.ev_tmp _ _ _)); simp only [List.getD_cons_succ, List.getD_cons_zero] <;> rfl)) ?_) | (refine plan_pick_t _ _ _ _ (by rfl) (by rfl) (by rfl) (by first | (with_reducible exact Mem.ev_const _ _) | (with_reducible exact Mem.ev_zero _ _ _) | (with_reducible (apply Eq.trans (Mem.ev_tmp _ _ _)); simp only [List.getD_cons_succ, List.getD_cons_zero] <;> rfl)) (by first | (with_reducible exact Mem.ev_const _ _) | (with_reducible exact Mem.ev_zero _ _ _) | (with_reducible (apply Eq.trans (Mem.ev_tmp _ _ _)); simp only [List.getD_cons_succ, List.getD_cons_zero] <;> rfl)) ?_) | (refine plan_pick_f _ _ _ _ (by rfl) (by rfl) (by rfl) (by first | (with_reducible exact Mem.ev_const _ _) | (with_reducible exact Mem.ev_zero _ _ _) | (with_reducible (apply Eq.trans (Mem.ev_tmp _ _ _)); simp only [List.getD_cons_succ, List.getD_cons_zero] <;> rfl)) (by first | (with_reducible exact Mem.ev_const _ _) | (with_reducible exact Mem.ev_zero _ _ _) | (with_reducible (apply Eq.trans (Mem.ev_tmp _ _ _)); simp only [List.getD_cons_succ, List.getD_cons_zero] <;> rfl)) ?_))
  (simp only [Act.put, List.setIfInBounds_toArray, List.set_cons_zero, List.set_cons_succ])
  refine plan_index 22 5 _ _ bb oo 4 cap 0 (by rfl) (by rfl) (by rfl) (by first | (with_reducible exact Mem.ev_const _ _) | (with_reducible exact Mem.ev_zero _ _ _) | (with_reducible (apply Eq.trans (Mem.ev_tmp _ _ _)); simp only [List.getD_cons_succ, List.getD_cons_zero] <;> rfl)) (by rfl) (by omega) Tryd.underlying22 (by kernel_rfl) ?_
  (simp only [Act.put, List.setIfInBounds_toArray, List.set_cons_zero, List.set_cons_succ])
  refine plan_cell 5 _ _ _ _ (by rfl) (by rfl) (by rfl) (by first | (with_reducible exact Mem.ev_const _ _) | (with_reducible exact Mem.ev_zero _ _ _) | (with_reducible (apply Eq.trans (Mem.ev_tmp _ _ _)); simp only [List.getD_cons_succ, List.getD_cons_zero] <;> rfl)) (fun w' hw' => (K0.out w' hw' 0).trans C0.out) Tryd.underlying5 (by rfl) ?_
  (simp only [Act.put, List.setIfInBounds_toArray, List.set_cons_zero, List.set_cons_succ])
  refine plan_conv _ _ _ _ _ (by rfl) (by rfl) (by rfl) (by first | (with_reducible exact Mem.ev_const _ _) | (with_reducible exact Mem.ev_zero _ _ _) | (with_reducible (apply Eq.trans (Mem.ev_tmp _ _ _)); simp only [List.getD_cons_succ, List.getD_cons_zero] <;> rfl)) (fun wx => conv_b x0 wx) ?_
  (simp only [Act.put, List.setIfInBounds_toArray, List.set_cons_zero, List.set_cons_succ])
  (first | (refine plan_move _ _ (by rfl) (by rfl) (.inl (by rfl)) (by first | (with_reducible exact Mem.ev_const _ _) | (with_reducible exact Mem.ev_zero _ _ _) | (with_reducible (apply Eq.trans (Mem.ev_tmp _ _ _)); simp only [List.getD_cons_succ, List.getD_cons_zero] <;> rfl)) ?_) | (refine plan_move _ _ (by rfl) (by rfl) (.inr (by rfl)) (by first | (with_reducible exact Mem.ev_const _ _) | (with_reducible exact Mem.ev_zero _ _ _) | (with_reducible (apply Eq.trans (Mem.ev_tmp _ _ _)); simp only [List.getD_cons_succ, List.getD_cons_zero] <;> rfl)) ?_) | (refine plan_pick_t _ _ _ _ (by rfl) (by rfl) (by rfl) (by first | (with_reducible exact Mem.ev_const _ _) | (with_reducible exact Mem.ev_zero _ _ _) | (with_reducible (apply Eq.trans (Mem.ev_tmp _ _ _)); simp only [List.getD_cons_succ, List.getD_cons_zero] <;> rfl)) (by first | (with_reducible exact Mem.ev_const _ _) | (with_reducible exact Mem.ev_zero _ _ _) | (with_reducible (apply Eq.trans (Mem.ev_tmp _ _ _)); simp only [List.getD_cons_succ, List.getD_cons_zero] <;> rfl)) ?_) | (refine plan_pick_f _ _ _ _ (by rfl) (by rfl) (by rfl) (by first | (with_reducible exact Mem.ev_const _ _) | (with_reducible exact Mem.ev_zero _ _ _) | (with_reducible (apply Eq.trans (Mem.ev_tmp _ _ _)); simp only [List.getD_cons_succ, List.getD_cons_zero] <;> rfl)) (by first | (with_reducible exact Mem.ev_const _ _) | (with_reducible exact Mem.ev_zero _ _ _) | (with_reducible (apply Eq.trans (Mem.ev_tmp _ _ _)); simp only [List.getD_cons_succ, List.getD_cons_zero] <;> rfl)) ?_))
  (simp only [Act.put, List.setIfInBounds_toArray, List.set_cons_zero, List.set_cons_succ])
  refine plan_index 22 5 _ _ bb oo 4 cap 1 (by rfl) (by rfl) (by rfl) (by first | (with_reducible exact Mem.ev_const _ _) | (with_reducible exact Mem.ev_zero _ _ _) | (with_reducible (apply Eq.trans (Mem.ev_tmp _ _ _)); simp only [List.getD_cons_succ, List.getD_cons_zero] <;> rfl)) (by rfl) (by omega) Tryd.underlying22 (by kernel_rfl) ?_
  (simp only [Act.put, List.setIfInBounds_toArray, List.set_cons_zero, List.set_cons_succ])
  refine plan_cell 5 _ _ _ _ (by rfl) (by rfl) (by rfl) (by first | (with_reducible exact Mem.ev_const _ _) | (with_reducible exact Mem.ev_zero _ _ _) | (with_reducible (apply Eq.trans (Mem.ev_tmp _ _ _)); simp only [List.getD_cons_succ, List.getD_cons_zero] <;> rfl)) (fun w' hw' => (K0.out w' hw' 1).trans C1.out) Tryd.underlying5 (by rfl) ?_
  (simp only [Act.put, List.setIfInBounds_toArray, List.set_cons_zero, List.set_cons_succ])
  refine plan_conv _ _ _ _ _ (by rfl) (by rfl) (by rfl) (by first | (with_reducible exact Mem.ev_const _ _) | (with_reducible exact Mem.ev_zero _ _ _) | (with_reducible (apply Eq.trans (Mem.ev_tmp _ _ _)); simp only [List.getD_cons_succ, List.getD_cons_zero] <;> rfl)) (fun wx => conv_b x1 wx) ?_
  (simp only [Act.put, List.setIfInBounds_toArray, List.set_cons_zero, List.set_cons_succ])
  refine plan_bin _ _ _ _ _ _ _ _ (by rfl) (by rfl) (by rfl) (by first | (with_reducible exact Mem.ev_const _ _) | (with_reducible exact Mem.ev_zero _ _ _) | (with_reducible (apply Eq.trans (Mem.ev_tmp _ _ _)); simp only [List.getD_cons_succ, List.getD_cons_zero] <;> rfl)) (by first | (with_reducible exact Mem.ev_const _ _) | (with_reducible exact Mem.ev_zero _ _ _) | (with_reducible (apply Eq.trans (Mem.ev_tmp _ _ _)); simp only [List.getD_cons_succ, List.getD_cons_zero] <;> rfl)) (fun wx => o_umul _ _ _ _ (256) (B8 x1) (256 * B8 x1) rfl (by omega) (by omega) wx) ?_
  (simp only [Act.put, List.setIfInBounds_toArray, List.set_cons_zero, List.set_cons_succ])
  refine plan_bin _ _ _ _ _ _ _ _ (by rfl) (by rfl) (by rfl) (by first | (with_reducible exact Mem.ev_const _ _) | (with_reducible exact Mem.ev_zero _ _ _) | (with_reducible (apply Eq.trans (Mem.ev_tmp _ _ _)); simp only [List.getD_cons_succ, List.getD_cons_zero] <;> rfl)) (by first | (with_reducible exact Mem.ev_const _ _) | (with_reducible exact Mem.ev_zero _ _ _) | (with_reducible (apply Eq.trans (Mem.ev_tmp _ _ _)); simp only [List.getD_cons_succ, List.getD_cons_zero] <;> rfl)) (fun wx => o_uadd _ _ _ _ (B8 x0) (256 * B8 x1) (B8 x0 + 256 * B8 x1) rfl (by omega) (by omega) wx) ?_
  (simp only [Act.put, List.setIfInBounds_toArray, List.set_cons_zero, List.set_cons_succ])
  (first | (refine plan_move _ _ (by rfl) (by rfl) (.inl (by rfl)) (by first | (with_reducible exact Mem.ev_const _ _) | (with_reducible exact Mem.ev_zero _ _ _) | (with_reducible (apply Eq.trans (Mem.ev_tmp _ _ _)); simp only [List.getD_cons_succ, List.getD_cons_zero] <;> rfl)) ?_) | (refine plan_move _ _ (by rfl) (by rfl) (.inr (by rfl)) (by first | (with_reducible exact Mem.ev_const _ _) | (with_reducible exact Mem.ev_zero _ _ _) | (with_reducible (apply Eq.trans (Mem.ev_tmp _ _ _)); simp only [List.getD_cons_succ, List.getD_cons_zero] <;> rfl)) ?_) | (refine plan_pick_t _ _ _ _ (by rfl) (by rfl) (by rfl) (by first | (with_reducible exact Mem.ev_const _ _) | (with_reducible exact Mem.ev_zero _ _ _) | (with_reducible (apply Eq.trans (Mem.ev_tmp _ _ _)); simp only [List.getD_cons_succ, List.getD_cons_zero] <;> rfl)) (by first | (with_reducible exact Mem.ev_const _ _) | (with_reducible exact Mem.ev_zero _ _ _) | (with_reducible (apply Eq.trans (Mem.ev_tmp _ _ _)); simp only [List.getD_cons_succ, List.getD_cons_zero] <;> rfl)) ?_) | (refine plan_pick_f _ _ _ _ (by rfl) (by rfl) (by rfl) (by first | (with_reducible exact Mem.ev_const _ _) | (with_reducible exact Mem.ev_zero _ _ _) | (with_reducible (apply Eq.trans (Mem.ev_tmp _ _ _)); simp only [List.getD_cons_succ, List.getD_cons_zero] <;> rfl)) (by first | (with_reducible exact Mem.ev_const _ _) | (with_reducible exact Mem.ev_zero _ _ _) | (with_reducible (apply Eq.trans (Mem.ev_tmp _ _ _)); simp only [List.getD_cons_succ, List.getD_cons_zero] <;> rfl)) ?_))
  (simp only [Act.put, List.setIfInBounds_toArray, List.set_cons_zero, List.set_cons_succ])
  refine plan_index 22 5 _ _ bb oo 4 cap 2 (by rfl) (by rfl) (by rfl) (by first | (with_reducible exact Mem.ev_const _ _) | (with_reducible exact Mem.ev_zero _ _ _) | (with_reducible (apply Eq.trans (Mem.ev_tmp _ _ _)); simp only [List.getD_cons_succ, List.getD_cons_zero] <;> rfl)) (by rfl) (by omega) Tryd.underlying22 (by kernel_rfl) ?_
  (simp only [Act.put, List.setIfInBounds_toArray, List.set_cons_zero, List.set_cons_succ])
  refine plan_cell 5 _ _ _ _ (by rfl) (by rfl) (by rfl) (by first | (with_reducible exact Mem.ev_const _ _) | (with_reducible exact Mem.ev_zero _ _ _) | (with_reducible (apply Eq.trans (Mem.ev_tmp _ _ _)); simp only [List.getD_cons_succ, List.getD_cons_zero] <;> rfl)) (fun w' hw' => (K0.out w' hw' 2).trans C2.out) Tryd.underlying5 (by rfl) ?_
  (simp only [Act.put, List.setIfInBounds_toArray, List.set_cons_zero, List.set_cons_succ])
  refine plan_conv _ _ _ _ _ (by rfl) (by rfl) (by rfl) (by first | (with_reducible exact Mem.ev_const _ _) | (with_reducible exact Mem.ev_zero _ _ _) | (with_reducible (apply Eq.trans (Mem.ev_tmp _ _ _)); simp only [List.getD_cons_succ, List.getD_cons_zero] <;> rfl)) (fun wx => conv_b x2 wx) ?_
  (simp only [Act.put, List.setIfInBounds_toArray, List.set_cons_zero, List.set_cons_succ])
  refine plan_bin _ _ _ _ _ _ _ _ (by rfl) (by rfl) (by rfl) (by first | (with_reducible exact Mem.ev_const _ _) | (with_reducible exact Mem.ev_zero _ _ _) | (with_reducible (apply Eq.trans (Mem.ev_tmp _ _ _)); simp only [List.getD_cons_succ, List.getD_cons_zero] <;> rfl)) (by first | (with_reducible exact Mem.ev_const _ _) | (with_reducible exact Mem.ev_zero _ _ _) | (with_reducible (apply Eq.trans (Mem.ev_tmp _ _ _)); simp only [List.getD_cons_succ, List.getD_cons_zero] <;> rfl)) (fun wx => o_umul _ _ _ _ (65536) (B8 x2) (65536 * B8 x2) rfl (by omega) (by omega) wx) ?_
  (simp only [Act.put, List.setIfInBounds_toArray, List.set_cons_zero, List.set_cons_succ])
  refine plan_bin _ _ _ _ _ _ _ _ (by rfl) (by rfl) (by rfl) (by first | (with_reducible exact Mem.ev_const _ _) | (with_reducible exact Mem.ev_zero _ _ _) | (with_reducible (apply Eq.trans (Mem.ev_tmp _ _ _)); simp only [List.getD_cons_succ, List.getD_cons_zero] <;> rfl)) (by first | (with_reducible exact Mem.ev_const _ _) | (with_reducible exact Mem.ev_zero _ _ _) | (with_reducible (apply Eq.trans (Mem.ev_tmp _ _ _)); simp only [List.getD_cons_succ, List.getD_cons_zero] <;> rfl)) (fun wx => o_uadd _ _ _ _ (B8 x0 + 256 * B8 x1) (65536 * B8 x2) (B8 x0 + 256 * B8 x1 + 65536 * B8 x2) rfl (by omega) (by omega) wx) ?_
  (simp only [Act.put, List.setIfInBounds_toArray, List.set_cons_zero, List.set_cons_succ])
  (first | (refine plan_move _ _ (by rfl) (by rfl) (.inl (by rfl)) (by first | (with_reducible exact Mem.ev_const _ _) | (with_reducible exact Mem.ev_zero _ _ _) | (with_reducible (apply Eq.trans (Mem.ev_tmp _ _ _)); simp only [List.getD_cons_succ, List.getD_cons_zero] <;> rfl)) ?_) | (refine plan_move _ _ (by rfl) (by rfl) (.inr (by rfl)) (by first | (with_reducible exact Mem.ev_const _ _) | (with_reducible exact Mem.ev_zero _ _ _) | (with_reducible (apply Eq.trans (Mem.ev_tmp _ _ _)); simp only [List.getD_cons_succ, List.getD_cons_zero] <;> rfl)) ?_) | (refine plan_pick_t _ _ _ _ (by rfl) (by rfl) (by rfl) (by first | (with_reducible exact Mem.ev_const _ _) | (with_reducible exact Mem.ev_zero _ _ _) | (with_reducible (apply Eq.trans (Mem.ev_tmp _ _ _)); simp only [List.getD_cons_succ, List.getD_cons_zero] <;> rfl)) (by first | (with_reducible exact Mem.ev_const _ _) | (with_reducible exact Mem.ev_zero _ _ _) | (with_reducible (apply Eq.trans (Mem.ev_tmp _ _ _)); simp only [List.getD_cons_succ, List.getD_cons_zero] <;> rfl)) ?_) | (refine plan_pick_f _ _ _ _ (by rfl) (by rfl) (by rfl) (by first | (with_reducible exact Mem.ev_const _ _) | (with_reducible exact Mem.ev_zero _ _ _) | (with_reducible (apply Eq.trans (Mem.ev_tmp _ _ _)); simp only [List.getD_cons_succ, List.getD_cons_zero] <;> rfl)) (by first | (with_reducible exact Mem.ev_const _ _) | (with_reducible exact Mem.ev_zero _ _ _) | (with_reducible (apply Eq.trans (Mem.ev_tmp _ _ _)); simp only [List.getD_cons_succ, List.getD_cons_zero] <;> rfl)) ?_))
  (simp only [Act.put, List.setIfInBounds_toArray, List.set_cons_zero, List.set_cons_succ])
  refine plan_index 22 5 _ _ bb oo 4 cap 3 (by rfl) (by rfl) (by rfl) (by first | (with_reducible exact Mem.ev_const _ _) | (with_reducible exact Mem.ev_zero _ _ _) | (with_reducible (apply Eq.trans (Mem.ev_tmp _ _ _)); simp only [List.getD_cons_succ, List.getD_cons_zero] <;> rfl)) (by rfl) (by omega) Tryd.underlying22 (by kernel_rfl) ?_
  (simp only [Act.put, List.setIfInBounds_toArray, List.set_cons_zero, List.set_cons_succ])
  refine plan_cell 5 _ _ _ _ (by rfl) (by rfl) (by rfl) (by first | (with_reducible exact Mem.ev_const _ _) | (with_reducible exact Mem.ev_zero _ _ _) | (with_reducible (apply Eq.trans (Mem.ev_tmp _ _ _)); simp only [List.getD_cons_succ, List.getD_cons_zero] <;> rfl)) (fun w' hw' => (K0.out w' hw' 3).trans C3.out) Tryd.underlying5 (by rfl) ?_
  (simp only [Act.put, List.setIfInBounds_toArray, List.set_cons_zero, List.set_cons_succ])
  refine plan_conv _ _ _ _ _ (by rfl) (by rfl) (by rfl) (by first | (with_reducible exact Mem.ev_const _ _) | (with_reducible exact Mem.ev_zero _ _ _) | (with_reducible (apply Eq.trans (Mem.ev_tmp _ _ _)); simp only [List.getD_cons_succ, List.getD_cons_zero] <;> rfl)) (fun wx => conv_b x3 wx) ?_
  (simp only [Act.put, List.setIfInBounds_toArray, List.set_cons_zero, List.set_cons_succ])
  refine plan_bin _ _ _ _ _ _ _ _ (by rfl) (by rfl) (by rfl) (by first | (with_reducible exact Mem.ev_const _ _) | (with_reducible exact Mem.ev_zero _ _ _) | (with_reducible (apply Eq.trans (Mem.ev_tmp _ _ _)); simp only [List.getD_cons_succ, List.getD_cons_zero] <;> rfl)) (by first | (with_reducible exact Mem.ev_const _ _) | (with_reducible exact Mem.ev_zero _ _ _) | (with_reducible (apply Eq.trans (Mem.ev_tmp _ _ _)); simp only [List.getD_cons_succ, List.getD_cons_zero] <;> rfl)) (fun wx => o_umul _ _ _ _ (16777216) (B8 x3) (16777216 * B8 x3) rfl (by omega) (by omega) wx) ?_
  (simp only [Act.put, List.setIfInBounds_toArray, List.set_cons_zero, List.set_cons_succ])
  refine plan_bin _ _ _ _ _ _ _ _ (by rfl) (by rfl) (by rfl) (by first | (with_reducible exact Mem.ev_const _ _) | (with_reducible exact Mem.ev_zero _ _ _) | (with_reducible (apply Eq.trans (Mem.ev_tmp _ _ _)); simp only [List.getD_cons_succ, List.getD_cons_zero] <;> rfl)) (by first | (with_reducible exact Mem.ev_const _ _) | (with_reducible exact Mem.ev_zero _ _ _) | (with_reducible (apply Eq.trans (Mem.ev_tmp _ _ _)); simp only [List.getD_cons_succ, List.getD_cons_zero] <;> rfl)) (fun wx => o_uadd _ _ _ _ (B8 x0 + 256 * B8 x1 + 65536 * B8 x2) (16777216 * B8 x3) (B8 x0 + 256 * B8 x1 + 65536 * B8 x2 + 16777216 * B8 x3) rfl (by omega) (by omega) wx) ?_
  (simp only [Act.put, List.setIfInBounds_toArray, List.set_cons_zero, List.set_cons_succ])
  (first | (refine plan_move _ _ (by rfl) (by rfl) (.inl (by rfl)) (by first | (with_reducible exact Mem.ev_const _ _) | (with_reducible exact Mem.ev_zero _ _ _) | (with_reducible (apply Eq.trans (Mem.ev_tmp _ _ _)); simp only [List.getD_cons_succ, List.getD_cons_zero] <;> rfl)) ?_) | (refine plan_move _ _ (by rfl) (by rfl) (.inr (by rfl)) (by first | (with_reducible exact Mem.ev_const _ _) | (with_reducible exact Mem.ev_zero _ _ _) | (with_reducible (apply Eq.trans (Mem.ev_tmp _ _ _)); simp only [List.getD_cons_succ, List.getD_cons_zero] <;> rfl)) ?_) | (refine plan_pick_t _ _ _ _ (by rfl) (by rfl) (by rfl) (by first | (with_reducible exact Mem.ev_const _ _) | (with_reducible exact Mem.ev_zero _ _ _) | (with_reducible (apply Eq.trans (Mem.ev_tmp _ _ _)); simp only [List.getD_cons_succ, List.getD_cons_zero] <;> rfl)) (by first | (with_reducible exact Mem.ev_const _ _) | (with_reducible exact Mem.ev_zero _ _ _) | (with_reducible (apply Eq.trans (Mem.ev_tmp _ _ _)); simp only [List.getD_cons_succ, List.getD_cons_zero] <;> rfl)) ?_) | (refine plan_pick_f _ _ _ _ (by rfl) (by rfl) (by rfl) (by first | (with_reducible exact Mem.ev_const _ _) | (with_reducible exact Mem.ev_zero _ _ _) | (with_reducible (apply Eq.trans (Mem.ev_tmp _ _ _)); simp only [List.getD_cons_succ, List.getD_cons_zero] <;> rfl)) (by first | (with_reducible exact Mem.ev_const _ _) | (with_reducible exact Mem.ev_zero _ _ _) | (with_reducible (apply Eq.trans (Mem.ev_tmp _ _ _)); simp only [List.getD_cons_succ, List.getD_cons_zero] <;> rfl)) ?_))
  (simp only [Act.put, List.setIfInBounds_toArray, List.set_cons_zero, List.set_cons_succ])
  refine plan_nil ?_
  go_wp2_with fail
  go_ret
  exact ⟨by rw [← HV.out]; rfl, (Below.refl _ _).drew⟩
end Sha
end Go.Proofs.YtjadjidjfkahpaaDoor
namespace Go.Proofs.YtjadjidjfkahpaaDoor
namespace Sha
open Go.RowKit Mem
def ints (l : List Nat) : List Value := l.map fun (k : Nat) => .int .i64 (k : Int)
def plcRow (b : Nat) (i : Nat) : Value := .slice (some ⟨b + i, 0, none⟩) 4 4
/-- The places, in blocks from b on: eight rows, and the row of them. -/
def Plc (w : World) (b : Nat) : Prop :=
  At w (b + 8) ((List.range 8).map (plcRow b)).toArray 111 ∧ ∀ i, i < 8 → At w (b + i) (ints (plc.getD i [])).toArray 3
set_option maxRecDepth 100000 in
set_option maxHeartbeats 1000000 in
theorem places_any (w : World) : Calls Tryd.prog 71 #[] w fun e w' => e = .returned (.slice (some ⟨w.heap.size + 8, 0, none⟩) 8 8) ∧ Plc w' w.heap.size ∧ Below w.heap.size w w' := by
  go_enter Tryd.func71, Tryd.ntmps71
  go_wp2_with fail
  go_ret
  obtain ⟨w1, e1⟩ : ∃ x, x = w.alloc (.cells #[.int .i64 0, .int .i64 4, .int .i64 8, .int .i64 12] 3) := ⟨_, rfl⟩
  rw [← e1]
  obtain ⟨w2, e2⟩ : ∃ x, x = w1.alloc (.cells #[.int .i64 1, .int .i64 5, .int .i64 9, .int .i64 13] 3) := ⟨_, rfl⟩
  rw [← e2]
  obtain ⟨w3, e3⟩ : ∃ x, x = w2.alloc (.cells #[.int .i64 2, .int .i64 6, .int .i64 10, .int .i64 14] 3) := ⟨_, rfl⟩
  rw [← e3]
  obtain ⟨w4, e4⟩ : ∃ x, x = w3.alloc (.cells #[.int .i64 3, .int .i64 7, .int .i64 11, .int .i64 15] 3) := ⟨_, rfl⟩
  rw [← e4]
  obtain ⟨w5, e5⟩ : ∃ x, x = w4.alloc (.cells #[.int .i64 0, .int .i64 5, .int .i64 10, .int .i64 15] 3) := ⟨_, rfl⟩
  rw [← e5]
  obtain ⟨w6, e6⟩ : ∃ x, x = w5.alloc (.cells #[.int .i64 1, .int .i64 6, .int .i64 11, .int .i64 12] 3) := ⟨_, rfl⟩
  rw [← e6]
  obtain ⟨w7, e7⟩ : ∃ x, x = w6.alloc (.cells #[.int .i64 2, .int .i64 7, .int .i64 8, .int .i64 13] 3) := ⟨_, rfl⟩
  rw [← e7]
  obtain ⟨w8, e8⟩ : ∃ x, x = w7.alloc (.cells #[.int .i64 3, .int .i64 4, .int .i64 9, .int .i64 14] 3) := ⟨_, rfl⟩
  rw [← e8]
  have s0 : w.heap.size = w.heap.size := rfl
  have s1 : w1.heap.size = w.heap.size + 1 := by rw [e1]; simp
  have s2 : w2.heap.size = w.heap.size + 2 := by rw [e2]; simp [s1]
  have s3 : w3.heap.size = w.heap.size + 3 := by rw [e3]; simp [s2]
  have s4 : w4.heap.size = w.heap.size + 4 := by rw [e4]; simp [s3]
  have s5 : w5.heap.size = w.heap.size + 5 := by rw [e5]; simp [s4]
  have s6 : w6.heap.size = w.heap.size + 6 := by rw [e6]; simp [s5]
  have s7 : w7.heap.size = w.heap.size + 7 := by rw [e7]; simp [s6]
  have s8 : w8.heap.size = w.heap.size + 8 := by rw [e8]; simp [s7]
  obtain ⟨w9, e9⟩ : ∃ x, x = w8.alloc (.cells ((List.range 8).map (plcRow w.heap.size)).toArray 111) := ⟨_, rfl⟩
  have f9 : w9 = w8.alloc (.cells #[.slice (some ⟨w.heap.size, 0, none⟩) 4 4, .slice (some ⟨w.heap.size + 1, 0, none⟩) 4 4, .slice (some ⟨w.heap.size + 1 + 1, 0, none⟩) 4 4, .slice (some ⟨w.heap.size + 1 + 1 + 1, 0, none⟩) 4 4, .slice (some ⟨w.heap.size + 1 + 1 + 1 + 1, 0, none⟩) 4 4, .slice (some ⟨w.heap.size + 1 + 1 + 1 + 1 + 1, 0, none⟩) 4 4, .slice (some ⟨w.heap.size + 1 + 1 + 1 + 1 + 1 + 1, 0, none⟩) 4 4, .slice (some ⟨w.heap.size + 1 + 1 + 1 + 1 + 1 + 1 + 1, 0, none⟩) 4 4] 111) := e9
  rw [← f9]
  have a0 : At w9 (w.heap.size + 0) (ints (plc.getD 0 [])).toArray 3 := by
    have h : At w1 (w.heap.size + 0) (ints (plc.getD 0 [])).toArray 3 := by have h := at_new w (ints (plc.getD 0 [])).toArray 3; rw [s0] at h; rw [e1]; exact h
    replace h := h.alloc (.cells #[.int .i64 1, .int .i64 5, .int .i64 9, .int .i64 13] 3); rw [← e2] at h
    replace h := h.alloc (.cells #[.int .i64 2, .int .i64 6, .int .i64 10, .int .i64 14] 3); rw [← e3] at h
    replace h := h.alloc (.cells #[.int .i64 3, .int .i64 7, .int .i64 11, .int .i64 15] 3); rw [← e4] at h
    replace h := h.alloc (.cells #[.int .i64 0, .int .i64 5, .int .i64 10, .int .i64 15] 3); rw [← e5] at h
    replace h := h.alloc (.cells #[.int .i64 1, .int .i64 6, .int .i64 11, .int .i64 12] 3); rw [← e6] at h
    replace h := h.alloc (.cells #[.int .i64 2, .int .i64 7, .int .i64 8, .int .i64 13] 3); rw [← e7] at h
    replace h := h.alloc (.cells #[.int .i64 3, .int .i64 4, .int .i64 9, .int .i64 14] 3); rw [← e8] at h
    replace h := h.alloc (.cells ((List.range 8).map (plcRow w.heap.size)).toArray 111); rw [← e9] at h
    exact h
  have a1 : At w9 (w.heap.size + 1) (ints (plc.getD 1 [])).toArray 3 := by
    have h : At w2 (w.heap.size + 1) (ints (plc.getD 1 [])).toArray 3 := by have h := at_new w1 (ints (plc.getD 1 [])).toArray 3; rw [s1] at h; rw [e2]; exact h
    replace h := h.alloc (.cells #[.int .i64 2, .int .i64 6, .int .i64 10, .int .i64 14] 3); rw [← e3] at h
    replace h := h.alloc (.cells #[.int .i64 3, .int .i64 7, .int .i64 11, .int .i64 15] 3); rw [← e4] at h
    replace h := h.alloc (.cells #[.int .i64 0, .int .i64 5, .int .i64 10, .int .i64 15] 3); rw [← e5] at h
    replace h := h.alloc (.cells #[.int .i64 1, .int .i64 6, .int .i64 11, .int .i64 12] 3); rw [← e6] at h
    replace h := h.alloc (.cells #[.int .i64 2, .int .i64 7, .int .i64 8, .int .i64 13] 3); rw [← e7] at h
    replace h := h.alloc (.cells #[.int .i64 3, .int .i64 4, .int .i64 9, .int .i64 14] 3); rw [← e8] at h
    replace h := h.alloc (.cells ((List.range 8).map (plcRow w.heap.size)).toArray 111); rw [← e9] at h
    exact h
  have a2 : At w9 (w.heap.size + 2) (ints (plc.getD 2 [])).toArray 3 := by
    have h : At w3 (w.heap.size + 2) (ints (plc.getD 2 [])).toArray 3 := by have h := at_new w2 (ints (plc.getD 2 [])).toArray 3; rw [s2] at h; rw [e3]; exact h
    replace h := h.alloc (.cells #[.int .i64 3, .int .i64 7, .int .i64 11, .int .i64 15] 3); rw [← e4] at h
    replace h := h.alloc (.cells #[.int .i64 0, .int .i64 5, .int .i64 10, .int .i64 15] 3); rw [← e5] at h
    replace h := h.alloc (.cells #[.int .i64 1, .int .i64 6, .int .i64 11, .int .i64 12] 3); rw [← e6] at h
    replace h := h.alloc (.cells #[.int .i64 2, .int .i64 7, .int .i64 8, .int .i64 13] 3); rw [← e7] at h
    replace h := h.alloc (.cells #[.int .i64 3, .int .i64 4, .int .i64 9, .int .i64 14] 3); rw [← e8] at h
    replace h := h.alloc (.cells ((List.range 8).map (plcRow w.heap.size)).toArray 111); rw [← e9] at h
    exact h
  have a3 : At w9 (w.heap.size + 3) (ints (plc.getD 3 [])).toArray 3 := by
    have h : At w4 (w.heap.size + 3) (ints (plc.getD 3 [])).toArray 3 := by have h := at_new w3 (ints (plc.getD 3 [])).toArray 3; rw [s3] at h; rw [e4]; exact h
    replace h := h.alloc (.cells #[.int .i64 0, .int .i64 5, .int .i64 10, .int .i64 15] 3); rw [← e5] at h
    replace h := h.alloc (.cells #[.int .i64 1, .int .i64 6, .int .i64 11, .int .i64 12] 3); rw [← e6] at h
    replace h := h.alloc (.cells #[.int .i64 2, .int .i64 7, .int .i64 8, .int .i64 13] 3); rw [← e7] at h
    replace h := h.alloc (.cells #[.int .i64 3, .int .i64 4, .int .i64 9, .int .i64 14] 3); rw [← e8] at h
    replace h := h.alloc (.cells ((List.range 8).map (plcRow w.heap.size)).toArray 111); rw [← e9] at h
    exact h
  have a4 : At w9 (w.heap.size + 4) (ints (plc.getD 4 [])).toArray 3 := by
    have h : At w5 (w.heap.size + 4) (ints (plc.getD 4 [])).toArray 3 := by have h := at_new w4 (ints (plc.getD 4 [])).toArray 3; rw [s4] at h; rw [e5]; exact h
    replace h := h.alloc (.cells #[.int .i64 1, .int .i64 6, .int .i64 11, .int .i64 12] 3); rw [← e6] at h
    replace h := h.alloc (.cells #[.int .i64 2, .int .i64 7, .int .i64 8, .int .i64 13] 3); rw [← e7] at h
    replace h := h.alloc (.cells #[.int .i64 3, .int .i64 4, .int .i64 9, .int .i64 14] 3); rw [← e8] at h
    replace h := h.alloc (.cells ((List.range 8).map (plcRow w.heap.size)).toArray 111); rw [← e9] at h
    exact h
  have a5 : At w9 (w.heap.size + 5) (ints (plc.getD 5 [])).toArray 3 := by
    have h : At w6 (w.heap.size + 5) (ints (plc.getD 5 [])).toArray 3 := by have h := at_new w5 (ints (plc.getD 5 [])).toArray 3; rw [s5] at h; rw [e6]; exact h
    replace h := h.alloc (.cells #[.int .i64 2, .int .i64 7, .int .i64 8, .int .i64 13] 3); rw [← e7] at h
    replace h := h.alloc (.cells #[.int .i64 3, .int .i64 4, .int .i64 9, .int .i64 14] 3); rw [← e8] at h
    replace h := h.alloc (.cells ((List.range 8).map (plcRow w.heap.size)).toArray 111); rw [← e9] at h
    exact h
  have a6 : At w9 (w.heap.size + 6) (ints (plc.getD 6 [])).toArray 3 := by
    have h : At w7 (w.heap.size + 6) (ints (plc.getD 6 [])).toArray 3 := by have h := at_new w6 (ints (plc.getD 6 [])).toArray 3; rw [s6] at h; rw [e7]; exact h
    replace h := h.alloc (.cells #[.int .i64 3, .int .i64 4, .int .i64 9, .int .i64 14] 3); rw [← e8] at h
    replace h := h.alloc (.cells ((List.range 8).map (plcRow w.heap.size)).toArray 111); rw [← e9] at h
    exact h
  have a7 : At w9 (w.heap.size + 7) (ints (plc.getD 7 [])).toArray 3 := by
    have h : At w8 (w.heap.size + 7) (ints (plc.getD 7 [])).toArray 3 := by have h := at_new w7 (ints (plc.getD 7 [])).toArray 3; rw [s7] at h; rw [e8]; exact h
    replace h := h.alloc (.cells ((List.range 8).map (plcRow w.heap.size)).toArray 111); rw [← e9] at h
    exact h
  have t9 : At w9 (w.heap.size + 8) ((List.range 8).map (plcRow w.heap.size)).toArray 111 := by have h := at_new w8 ((List.range 8).map (plcRow w.heap.size)).toArray 111; rw [s8] at h; rw [e9]; exact h
  have b9 : Below w.heap.size w w9 := by
    have h := Below.refl w.heap.size w
    replace h := h.alloc (by omega) (.cells #[.int .i64 0, .int .i64 4, .int .i64 8, .int .i64 12] 3); rw [← e1] at h
    replace h := h.alloc (by omega) (.cells #[.int .i64 1, .int .i64 5, .int .i64 9, .int .i64 13] 3); rw [← e2] at h
    replace h := h.alloc (by omega) (.cells #[.int .i64 2, .int .i64 6, .int .i64 10, .int .i64 14] 3); rw [← e3] at h
    replace h := h.alloc (by omega) (.cells #[.int .i64 3, .int .i64 7, .int .i64 11, .int .i64 15] 3); rw [← e4] at h
    replace h := h.alloc (by omega) (.cells #[.int .i64 0, .int .i64 5, .int .i64 10, .int .i64 15] 3); rw [← e5] at h
    replace h := h.alloc (by omega) (.cells #[.int .i64 1, .int .i64 6, .int .i64 11, .int .i64 12] 3); rw [← e6] at h
    replace h := h.alloc (by omega) (.cells #[.int .i64 2, .int .i64 7, .int .i64 8, .int .i64 13] 3); rw [← e7] at h
    replace h := h.alloc (by omega) (.cells #[.int .i64 3, .int .i64 4, .int .i64 9, .int .i64 14] 3); rw [← e8] at h
    replace h := h.alloc (by omega) (.cells ((List.range 8).map (plcRow w.heap.size)).toArray 111); rw [← e9] at h
    exact h
  refine ⟨rfl, ⟨t9, fun i hi => ?_⟩, b9⟩
  match i, hi with
  | 0, _ => exact a0
  | 1, _ => exact a1
  | 2, _ => exact a2
  | 3, _ => exact a3
  | 4, _ => exact a4
  | 5, _ => exact a5
  | 6, _ => exact a6
  | 7, _ => exact a7
end Sha
end Go.Proofs.YtjadjidjfkahpaaDoor
namespace Go.Proofs.YtjadjidjfkahpaaDoor
namespace Sha
open Go.RowKit Mem
def Z12 : Array Value := (u8s (List.replicate 12 0)).toArray
theorem zero12 (w : World) : (zeroValue 63).run Tryd.prog w = .ok (.agg Z12) w := by kernel_rfl
theorem info12 : (Tryd.prog.info? 63).map (·.size) = some 12 := by kernel_rfl
/-- The first i bytes of a row of n, the others 0. -/
def rowZ (l : List (BitVec 8)) (n i : Nat) : List (BitVec 8) := l.take i ++ List.replicate (n - i) 0
theorem rowZ_length (l : List (BitVec 8)) (n i : Nat) (hl : l.length = n) (h : i ≤ n) : (rowZ l n i).length = n := by simp [rowZ, hl]; omega
theorem rowZ_set (l : List (BitVec 8)) (n i : Nat) (hl : l.length = n) (h : i < n) : (rowZ l n i).set i (l.getD i 0) = rowZ l n (i + 1) := by
  unfold rowZ
  have hi : i < l.length := by omega
  rw [List.set_append_right _ _ (by rw [List.length_take]; omega), List.length_take, Nat.min_eq_left (by omega), Nat.sub_self, show n - i = (n - (i + 1)) + 1 by omega, List.replicate_succ, List.set_cons_zero, List.take_succ_eq_append_getElem hi, List.append_assoc]
  simp [List.getD_eq_getElem?_getD, hi]
theorem rowZ_all (l : List (BitVec 8)) (n : Nat) (hl : l.length = n) : rowZ l n n = l := by
  unfold rowZ
  rw [List.take_of_length_le (by omega)]
  simp
theorem cnonce_low (e : BitVec 32) (b : BitVec 64) (j : Nat) (h : j < 4) : (cnonce e b).getD j 0 = wb e (8 * j) := by
  simp [cnonce, List.getD_eq_getElem?_getD, List.getElem?_append, h]
theorem cnonce_high (e : BitVec 32) (b : BitVec 64) (j : Nat) (h : j < 8) : (cnonce e b).getD (4 + j) 0 = wb64 b (8 * j) := by
  have h4 : ¬ 4 + j < 4 := by omega
  simp [cnonce, List.getD_eq_getElem?_getD, List.getElem?_append, h, h4]
theorem wb_pow' (x : BitVec 32) (k : Nat) : V x / 2 ^ k % 256 = ((wb x k).toNat : Int) := wb_val x k _ (by simp)
theorem wb64_pow (x : BitVec 64) (k : Nat) : (x.toNat : Int) / 2 ^ k % 256 = ((wb64 x k).toNat : Int) := by
  have h : (wb64 x k).toNat = x.toNat / 2 ^ k % 256 := by
    rw [wb64, BitVec.toNat_setWidth, BitVec.toNat_ushiftRight, Nat.shiftRight_eq_div_pow]
  rw [h]; simp
structure NInv (L : List (BitVec 8)) (B : Nat) (X : Array Value) (w wr : World) : Prop where
  r : At wr B X 63
  k : At wr (B + 1) (u8s L).toArray 63
  b : Below w.heap.size w wr
def ncOf (e : BitVec 32) (b : BitVec 64) : Array Value := (u8s (cnonce e b)).toArray
set_option maxRecDepth 100000 in
set_option maxHeartbeats 1000000 in
theorem rnonce_any (e : BitVec 32) (b : BitVec 64) (w : World) :
    Calls Tryd.prog 34 #[.int .u32 (V e), .int .u64 (b.toNat : Int)] w fun o w' => o = .returned (.agg (ncOf e b)) ∧ Below w.heap.size w w' := by
  obtain ⟨X, hX⟩ : ∃ X, X = Z12 := ⟨_, rfl⟩
  have hx := zero12
  rw [← hX] at hx
  have hXs : X.size = 12 := by rw [hX]; simp [Z12, u8s]
  obtain ⟨l, hl⟩ : ∃ l, l = cnonce e b := ⟨_, rfl⟩
  have ll : l.length = 12 := by rw [hl]; exact cnonce_length e b
  have hlo : ∀ j, j < 4 → l.getD j 0 = wb e (8 * j) := by rw [hl]; exact cnonce_low e b
  have hhi : ∀ j, j < 8 → l.getD (4 + j) 0 = wb64 b (8 * j) := by rw [hl]; exact cnonce_high e b
  have hI : NInv (rowZ l 12 0) w.heap.size X w ((w.alloc (.cells X 63)).alloc (.cells X 63)) := by
    refine ⟨(at_new w X _).alloc _, ?_, ((Below.refl _ _).alloc (Nat.le_refl _) _).alloc (by simp) _⟩
    have h := at_new (w.alloc (.cells X 63)) X 63
    have e : (u8s (rowZ l 12 0)).toArray = X := by rw [hX]; simp [rowZ, Z12]
    rw [e]
    simpa using h
  have HI := Lib.hid hI; have HL := Lib.hid hl; have XS := Lib.hid hXs; have LL := Lib.hid ll; have LO := Lib.hid hlo; have HH := Lib.hid hhi
  clear hI hl hX hXs ll hlo hhi
  have ve0 := V_lo e; have ve1 := V_hi e
  have vb0 : 0 ≤ (b.toNat : Int) := Int.natCast_nonneg _
  go_enter Tryd.func34, Tryd.ntmps34
  go_wp2_with fail
  generalize (w.alloc (.cells X 63)).alloc (.cells X 63) = w4 at *
  clear hx
  go_loopw [6] (fun i wr => ∃ j : Nat, j ≤ 4 ∧ i = .int .i64 j ∧ NInv (rowZ l 12 j) w.heap.size X w wr) (fun i _ => 4 - (intOf i).toNat)
  case atStart => exact ⟨0, by omega, rfl, HI.out⟩
  case round =>
    clear HI
    obtain ⟨j, hj, rfl, hI⟩ := hrel
    by_cases hlt : j < 4
    · have hset : (u8s (rowZ l 12 j)).toArray.setIfInBounds j (.int .u8 ((wb e (8 * j)).toNat : Int)) = (u8s (rowZ l 12 (j + 1))).toArray := by
        rw [← rowZ_set l 12 j LL.out (by omega), LO.out j hlt]; exact u8s_set _ _ _
      have hEs : j < (u8s (rowZ l 12 j)).toArray.size := by simp [u8s, rowZ_length l 12 j LL.out (by omega)]; omega
      have hR := hI.r; have hB := hI.b; have hk := hI.k
      obtain ⟨E, hE⟩ : ∃ E, E = (u8s (rowZ l 12 j)).toArray := ⟨_, rfl⟩
      rw [← hE] at hk hset hEs
      have KK := Lib.hid hk; have ST := Lib.hid hset; have ES := Lib.hid hEs; have RR := Lib.hid hR; have BB := Lib.hid hB
      have hlt' : (j : Int) < 4 := by omega
      clear hk hset hEs hI hE hR hB
      go_wp2_with (refine Mem.wpList_store_one (by rfl) 5 _ _ (by rfl) (by rfl) (w.heap.size + 1) j (.int .u8 ((wb e (8 * j)).toNat : Int)) (by rfl) (by exact congrArg (Value.int .u8) (wb_pow' e _)) (by rfl) infoB _ _ KK.out ES.out ?_; intro w' hat' ho' hb'; have KK' := Lib.hid hat'; have RR' := Lib.hid (at_keep RR.out ho' (by omega)); have BB' := Lib.hid (hb' _ _ BB.out (by omega)); clear hat' ho' hb')
      go_roundw
      case rel => exact ⟨j + 1, by omega, by go_num, RR'.out, by rw [← ST.out]; exact KK'.out, BB'.out⟩
      case measure => simp [intOf]; omega
    · have hj4 : j = 4 := by omega
      have hge : ¬ (j : Int) < 4 := by omega
      rw [hj4] at hI
      have hI2 := Lib.hid hI
      clear hI hj4 hlt hj
      go_wp2_with fail
      go_loopw [7] (fun i wr => ∃ j : Nat, j ≤ 8 ∧ i = .int .i64 j ∧ NInv (rowZ l 12 (4 + j)) w.heap.size X w wr) (fun i _ => 8 - (intOf i).toNat)
      case atStart => exact ⟨0, by omega, rfl, hI2.out⟩
      case round =>
        clear hI2
        obtain ⟨k, hk8, rfl, hI⟩ := hrel
        by_cases hlt : k < 8
        · have hset : (u8s (rowZ l 12 (4 + k))).toArray.setIfInBounds (4 + k) (.int .u8 ((wb64 b (8 * k)).toNat : Int)) = (u8s (rowZ l 12 (4 + (k + 1)))).toArray := by
            rw [show 4 + (k + 1) = (4 + k) + 1 by omega, ← rowZ_set l 12 (4 + k) LL.out (by omega), HH.out k hlt]; exact u8s_set _ _ _
          have hEs : 4 + k < (u8s (rowZ l 12 (4 + k))).toArray.size := by simp [u8s, rowZ_length l 12 (4 + k) LL.out (by omega)]; omega
          have hR := hI.r; have hB := hI.b; have hk := hI.k
          obtain ⟨E, hE⟩ : ∃ E, E = (u8s (rowZ l 12 (4 + k))).toArray := ⟨_, rfl⟩
          rw [← hE] at hk hset hEs
          have KK := Lib.hid hk; have ST := Lib.hid hset; have ES := Lib.hid hEs; have RR := Lib.hid hR; have BB := Lib.hid hB
          have hlt' : (k : Int) < 8 := by omega
          clear hk hset hEs hI hE hR hB
          go_wp2_with (refine Mem.wpList_store_one (by rfl) 5 _ _ (by rfl) (by rfl) (w.heap.size + 1) (4 + k) (.int .u8 ((wb64 b (8 * k)).toNat : Int)) (by rfl) (by exact congrArg (Value.int .u8) (wb64_pow b _)) (by rfl) infoB _ _ KK.out ES.out ?_; intro w' hat' ho' hb'; have KK' := Lib.hid hat'; have RR' := Lib.hid (at_keep RR.out ho' (by omega)); have BB' := Lib.hid (hb' _ _ BB.out (by omega)); clear hat' ho' hb')
          go_roundw
          case rel => exact ⟨k + 1, by omega, by go_num, RR'.out, by rw [← ST.out]; exact KK'.out, BB'.out⟩
          case measure => simp [intOf]; omega
        · have hk8' : 4 + k = 12 := by omega
          have hge2 : ¬ (k : Int) < 8 := by omega
          have hall : rowZ l 12 (4 + k) = l := by rw [hk8']; exact rowZ_all l 12 LL.out
          rw [hall] at hI
          obtain ⟨M, hM⟩ : ∃ M, M = ncOf e b := ⟨_, rfl⟩
          have hk := hI.k
          rw [show (u8s l).toArray = M by rw [hM, HL.out]; rfl] at hk
          have hMs : M.size = 12 := by rw [hM]; simp [ncOf, u8s, cnonce_length]
          have hMo : M.all (·.oneCell') = true := by rw [hM]; exact u8s_one _
          have HM := Lib.hid hM; have MS := Lib.hid hMs; have MO := Lib.hid hMo; have KK := Lib.hid hk; have RR := Lib.hid hI.r; have BB := Lib.hid hI.b
          clear hM hMs hMo hk hI hall hk8' hlt hk8
          go_wp2_with (first | (refine wpList_load_all (by rfl) 63 _ (by rfl) (w.heap.size + 1) (by rfl) _ Tryd.underlying63 (by rfl) M _ KK.out (by rw [MS.out]; exact info12) ?_) | (refine wpList_store_all (by rfl) 63 _ _ (by rfl) (by rfl) w.heap.size M (by rfl) (by rfl) (by rw [MS.out]; exact info12) _ _ RR.out (by rw [MS.out, XS.out]) MO.out ?_))
          try simp only [Exit.inBlock, Exit.then]
          refine ret_row (by rfl) w.heap.size 63 M _ (by rfl) (RR.out.row M) Tryd.underlying63 (by rfl) (by rw [MS.out]; exact info12) ?_
          exact ⟨by rw [HM.out], below_row BB.out (by omega) M⟩
end Sha
end Go.Proofs.YtjadjidjfkahpaaDoor
namespace Go.Proofs.YtjadjidjfkahpaaDoor
namespace Sha
open Go.RowKit Mem
theorem crotl_val (x : BitVec 32) (k : Nat) (hk : k < 32) :
    bits BinOp.or IntKind.u32 (V x * 2 ^ k % 4294967296) (V x / 2 ^ (32 - k)) = V (x.rotateLeft k) := by
  have e1 : V x * 2 ^ k % 4294967296 = V (x <<< k) := by
    unfold V
    rw [BitVec.toNat_shiftLeft, Nat.shiftLeft_eq]
    show _ = ((x.toNat * 2 ^ k % 4294967296 : Nat) : Int)
    rw [Int.natCast_emod, Int.natCast_mul, Int.natCast_pow]; rfl
  have e2 : V x / 2 ^ (32 - k) = V (x >>> (32 - k)) := by
    unfold V
    rw [BitVec.toNat_ushiftRight, Nat.shiftRight_eq_div_pow, Int.natCast_ediv, Int.natCast_pow]; rfl
  rw [e1, e2, r_or, BitVec.rotateLeft_def, Nat.mod_eq_of_lt hk]
set_option maxHeartbeats 400000 in
theorem crotl_any (x : BitVec 32) (n : Int) (k : Nat) (w : World) (hk : bits BinOp.and IntKind.u64 (IntKind.u64.wrap n) 31 = (k : Int)) (hk' : k < 32) :
    Calls Tryd.prog 80 #[.int .u32 (V x), .int .i64 n] w fun e w' => e = .returned (.int .u32 (V (x.rotateLeft k))) ∧ w = w' := by
  have hv0 := V_lo x
  have hv1 := V_hi x
  go_enter Tryd.func80, Tryd.ntmps80
  go_wp2
  go_ret
  exact ⟨congrArg (fun q => Ending.returned (.int .u32 q)) (crotl_val x k hk'), rfl⟩
theorem rot_any (x : BitVec 32) (n : Nat) (w : World) (hn : n < 32) :
    Calls Tryd.prog 80 #[.int .u32 (V x), .int .i64 (n : Int)] w fun e w' => e = .returned (.int .u32 (V (x.rotateLeft n))) ∧ w = w' :=
  crotl_any x n n w (by rw [and31]; omega) hn
set_option maxRecDepth 100000 in
set_option maxHeartbeats 1000000 in
theorem quarter_any (q : Q4) (w : World) : Calls Tryd.prog 79 #[.agg (qOf q)] w fun e w' => e = .returned (.agg (qOf (qr q))) ∧ Below w.heap.size w w' := by
  obtain ⟨X, hX⟩ : ∃ X, X = Z4 := ⟨_, rfl⟩
  have hx := zero4
  rw [← hX] at hx
  have hXs : X.size = 4 := by rw [hX]; rfl
  obtain ⟨C, hC⟩ : ∃ C, C = qOf q := ⟨_, rfl⟩
  have c0 : C[0]? = some (.int .u32 (V q.a)) := by rw [hC]; rfl
  have c1 : C[1]? = some (.int .u32 (V q.b)) := by rw [hC]; rfl
  have c2 : C[2]? = some (.int .u32 (V q.c)) := by rw [hC]; rfl
  have c3 : C[3]? = some (.int .u32 (V q.d)) := by rw [hC]; rfl
  rw [← hC]
  have a1 : At ((w.alloc (.cells C 112)).alloc (.cells X 112)) w.heap.size C 112 := (at_new w C _).alloc _
  have r1 : At ((w.alloc (.cells C 112)).alloc (.cells X 112)) (w.heap.size + 1) X 112 := by
    have h := at_new (w.alloc (.cells C 112)) X 112
    simpa using h
  have b1 : Below w.heap.size w ((w.alloc (.cells C 112)).alloc (.cells X 112)) := ((Below.refl _ _).alloc (Nat.le_refl _) _).alloc (by simp) _
  have XS := Lib.hid hXs; have C0 := Lib.hid c0; have C1 := Lib.hid c1; have C2 := Lib.hid c2; have C3 := Lib.hid c3; have A1 := Lib.hid a1; have R1 := Lib.hid r1; have B1 := Lib.hid b1
  clear hXs c0 c1 c2 c3 a1 r1 b1 hX hC
  go_enter Tryd.func79, Tryd.ntmps79
  go_wp2_with fail
  generalize (w.alloc (.cells C 112)).alloc (.cells X 112) = w1 at *
  refine wp_region_plan_in (fun w' => Below w1.heap.size w1 w') (.take 0 (.take 1 (.take 2 (.take 3 (.take 4 (.take 5 (.take 6 (.take 7 (.take 8 (.take 9 (.take 10 (.take 11 .done)))))))))))) (by kernel_rfl) (by kernel_rfl) (by kernel_rfl) (Below.refl _ _).drew ?_
  refine plan_index_arr 112 65 4 _ _ w.heap.size 0 1 0 (by rfl) (by rfl) (by rfl) (by first | (with_reducible exact Mem.ev_const _ _) | (with_reducible exact Mem.ev_zero _ _ _) | (with_reducible (apply Eq.trans (Mem.ev_tmp _ _ _)); simp only [List.getD_cons_succ, List.getD_cons_zero] <;> rfl)) (by rfl) (by omega) Tryd.underlying112 (by kernel_rfl) (by decide) ?_
  (simp only [Act.put, List.setIfInBounds_toArray, List.set_cons_zero, List.set_cons_succ])
  refine plan_cell 65 _ _ _ _ (by rfl) (by rfl) (by rfl) (by first | (with_reducible exact Mem.ev_const _ _) | (with_reducible exact Mem.ev_zero _ _ _) | (with_reducible (apply Eq.trans (Mem.ev_tmp _ _ _)); simp only [List.getD_cons_succ, List.getD_cons_zero] <;> rfl)) (fun w' hw' => ((A1.out.below hw' A1.out.lt).cell _).trans C0.out) Tryd.underlying65 (by rfl) ?_
  (simp only [Act.put, List.setIfInBounds_toArray, List.set_cons_zero, List.set_cons_succ])
  refine plan_index_arr 112 65 4 _ _ w.heap.size 0 1 1 (by rfl) (by rfl) (by rfl) (by first | (with_reducible exact Mem.ev_const _ _) | (with_reducible exact Mem.ev_zero _ _ _) | (with_reducible (apply Eq.trans (Mem.ev_tmp _ _ _)); simp only [List.getD_cons_succ, List.getD_cons_zero] <;> rfl)) (by rfl) (by omega) Tryd.underlying112 (by kernel_rfl) (by decide) ?_
  (simp only [Act.put, List.setIfInBounds_toArray, List.set_cons_zero, List.set_cons_succ])
  refine plan_cell 65 _ _ _ _ (by rfl) (by rfl) (by rfl) (by first | (with_reducible exact Mem.ev_const _ _) | (with_reducible exact Mem.ev_zero _ _ _) | (with_reducible (apply Eq.trans (Mem.ev_tmp _ _ _)); simp only [List.getD_cons_succ, List.getD_cons_zero] <;> rfl)) (fun w' hw' => ((A1.out.below hw' A1.out.lt).cell _).trans C1.out) Tryd.underlying65 (by rfl) ?_
  (simp only [Act.put, List.setIfInBounds_toArray, List.set_cons_zero, List.set_cons_succ])
  refine plan_index_arr 112 65 4 _ _ w.heap.size 0 1 2 (by rfl) (by rfl) (by rfl) (by first | (with_reducible exact Mem.ev_const _ _) | (with_reducible exact Mem.ev_zero _ _ _) | (with_reducible (apply Eq.trans (Mem.ev_tmp _ _ _)); simp only [List.getD_cons_succ, List.getD_cons_zero] <;> rfl)) (by rfl) (by omega) Tryd.underlying112 (by kernel_rfl) (by decide) ?_
  (simp only [Act.put, List.setIfInBounds_toArray, List.set_cons_zero, List.set_cons_succ])
  refine plan_cell 65 _ _ _ _ (by rfl) (by rfl) (by rfl) (by first | (with_reducible exact Mem.ev_const _ _) | (with_reducible exact Mem.ev_zero _ _ _) | (with_reducible (apply Eq.trans (Mem.ev_tmp _ _ _)); simp only [List.getD_cons_succ, List.getD_cons_zero] <;> rfl)) (fun w' hw' => ((A1.out.below hw' A1.out.lt).cell _).trans C2.out) Tryd.underlying65 (by rfl) ?_
  (simp only [Act.put, List.setIfInBounds_toArray, List.set_cons_zero, List.set_cons_succ])
  refine plan_index_arr 112 65 4 _ _ w.heap.size 0 1 3 (by rfl) (by rfl) (by rfl) (by first | (with_reducible exact Mem.ev_const _ _) | (with_reducible exact Mem.ev_zero _ _ _) | (with_reducible (apply Eq.trans (Mem.ev_tmp _ _ _)); simp only [List.getD_cons_succ, List.getD_cons_zero] <;> rfl)) (by rfl) (by omega) Tryd.underlying112 (by kernel_rfl) (by decide) ?_
  (simp only [Act.put, List.setIfInBounds_toArray, List.set_cons_zero, List.set_cons_succ])
  refine plan_cell 65 _ _ _ _ (by rfl) (by rfl) (by rfl) (by first | (with_reducible exact Mem.ev_const _ _) | (with_reducible exact Mem.ev_zero _ _ _) | (with_reducible (apply Eq.trans (Mem.ev_tmp _ _ _)); simp only [List.getD_cons_succ, List.getD_cons_zero] <;> rfl)) (fun w' hw' => ((A1.out.below hw' A1.out.lt).cell _).trans C3.out) Tryd.underlying65 (by rfl) ?_
  (simp only [Act.put, List.setIfInBounds_toArray, List.set_cons_zero, List.set_cons_succ])
  (first | (refine plan_move _ _ (by rfl) (by rfl) (.inl (by rfl)) (by first | (with_reducible exact Mem.ev_const _ _) | (with_reducible exact Mem.ev_zero _ _ _) | (with_reducible (apply Eq.trans (Mem.ev_tmp _ _ _)); simp only [List.getD_cons_succ, List.getD_cons_zero] <;> rfl)) ?_) | (refine plan_move _ _ (by rfl) (by rfl) (.inr (by rfl)) (by first | (with_reducible exact Mem.ev_const _ _) | (with_reducible exact Mem.ev_zero _ _ _) | (with_reducible (apply Eq.trans (Mem.ev_tmp _ _ _)); simp only [List.getD_cons_succ, List.getD_cons_zero] <;> rfl)) ?_) | (refine plan_pick_t _ _ _ _ (by rfl) (by rfl) (by rfl) (by first | (with_reducible exact Mem.ev_const _ _) | (with_reducible exact Mem.ev_zero _ _ _) | (with_reducible (apply Eq.trans (Mem.ev_tmp _ _ _)); simp only [List.getD_cons_succ, List.getD_cons_zero] <;> rfl)) (by first | (with_reducible exact Mem.ev_const _ _) | (with_reducible exact Mem.ev_zero _ _ _) | (with_reducible (apply Eq.trans (Mem.ev_tmp _ _ _)); simp only [List.getD_cons_succ, List.getD_cons_zero] <;> rfl)) ?_) | (refine plan_pick_f _ _ _ _ (by rfl) (by rfl) (by rfl) (by first | (with_reducible exact Mem.ev_const _ _) | (with_reducible exact Mem.ev_zero _ _ _) | (with_reducible (apply Eq.trans (Mem.ev_tmp _ _ _)); simp only [List.getD_cons_succ, List.getD_cons_zero] <;> rfl)) (by first | (with_reducible exact Mem.ev_const _ _) | (with_reducible exact Mem.ev_zero _ _ _) | (with_reducible (apply Eq.trans (Mem.ev_tmp _ _ _)); simp only [List.getD_cons_succ, List.getD_cons_zero] <;> rfl)) ?_))
  (simp only [Act.put, List.setIfInBounds_toArray, List.set_cons_zero, List.set_cons_succ])
  (first | (refine plan_move _ _ (by rfl) (by rfl) (.inl (by rfl)) (by first | (with_reducible exact Mem.ev_const _ _) | (with_reducible exact Mem.ev_zero _ _ _) | (with_reducible (apply Eq.trans (Mem.ev_tmp _ _ _)); simp only [List.getD_cons_succ, List.getD_cons_zero] <;> rfl)) ?_) | (refine plan_move _ _ (by rfl) (by rfl) (.inr (by rfl)) (by first | (with_reducible exact Mem.ev_const _ _) | (with_reducible exact Mem.ev_zero _ _ _) | (with_reducible (apply Eq.trans (Mem.ev_tmp _ _ _)); simp only [List.getD_cons_succ, List.getD_cons_zero] <;> rfl)) ?_) | (refine plan_pick_t _ _ _ _ (by rfl) (by rfl) (by rfl) (by first | (with_reducible exact Mem.ev_const _ _) | (with_reducible exact Mem.ev_zero _ _ _) | (with_reducible (apply Eq.trans (Mem.ev_tmp _ _ _)); simp only [List.getD_cons_succ, List.getD_cons_zero] <;> rfl)) (by first | (with_reducible exact Mem.ev_const _ _) | (with_reducible exact Mem.ev_zero _ _ _) | (with_reducible (apply Eq.trans (Mem.ev_tmp _ _ _)); simp only [List.getD_cons_succ, List.getD_cons_zero] <;> rfl)) ?_) | (refine plan_pick_f _ _ _ _ (by rfl) (by rfl) (by rfl) (by first | (with_reducible exact Mem.ev_const _ _) | (with_reducible exact Mem.ev_zero _ _ _) | (with_reducible (apply Eq.trans (Mem.ev_tmp _ _ _)); simp only [List.getD_cons_succ, List.getD_cons_zero] <;> rfl)) (by first | (with_reducible exact Mem.ev_const _ _) | (with_reducible exact Mem.ev_zero _ _ _) | (with_reducible (apply Eq.trans (Mem.ev_tmp _ _ _)); simp only [List.getD_cons_succ, List.getD_cons_zero] <;> rfl)) ?_))
  (simp only [Act.put, List.setIfInBounds_toArray, List.set_cons_zero, List.set_cons_succ])
  (first | (refine plan_move _ _ (by rfl) (by rfl) (.inl (by rfl)) (by first | (with_reducible exact Mem.ev_const _ _) | (with_reducible exact Mem.ev_zero _ _ _) | (with_reducible (apply Eq.trans (Mem.ev_tmp _ _ _)); simp only [List.getD_cons_succ, List.getD_cons_zero] <;> rfl)) ?_) | (refine plan_move _ _ (by rfl) (by rfl) (.inr (by rfl)) (by first | (with_reducible exact Mem.ev_const _ _) | (with_reducible exact Mem.ev_zero _ _ _) | (with_reducible (apply Eq.trans (Mem.ev_tmp _ _ _)); simp only [List.getD_cons_succ, List.getD_cons_zero] <;> rfl)) ?_) | (refine plan_pick_t _ _ _ _ (by rfl) (by rfl) (by rfl) (by first | (with_reducible exact Mem.ev_const _ _) | (with_reducible exact Mem.ev_zero _ _ _) | (with_reducible (apply Eq.trans (Mem.ev_tmp _ _ _)); simp only [List.getD_cons_succ, List.getD_cons_zero] <;> rfl)) (by first | (with_reducible exact Mem.ev_const _ _) | (with_reducible exact Mem.ev_zero _ _ _) | (with_reducible (apply Eq.trans (Mem.ev_tmp _ _ _)); simp only [List.getD_cons_succ, List.getD_cons_zero] <;> rfl)) ?_) | (refine plan_pick_f _ _ _ _ (by rfl) (by rfl) (by rfl) (by first | (with_reducible exact Mem.ev_const _ _) | (with_reducible exact Mem.ev_zero _ _ _) | (with_reducible (apply Eq.trans (Mem.ev_tmp _ _ _)); simp only [List.getD_cons_succ, List.getD_cons_zero] <;> rfl)) (by first | (with_reducible exact Mem.ev_const _ _) | (with_reducible exact Mem.ev_zero _ _ _) | (with_reducible (apply Eq.trans (Mem.ev_tmp _ _ _)); simp only [List.getD_cons_succ, List.getD_cons_zero] <;> rfl)) ?_))
  (simp only [Act.put, List.setIfInBounds_toArray, List.set_cons_zero, List.set_cons_succ])
  (first | (refine plan_move _ _ (by rfl) (by rfl) (.inl (by rfl)) (by first | (with_reducible exact Mem.ev_const _ _) | (with_reducible exact Mem.ev_zero _ _ _) | (with_reducible (apply Eq.trans (Mem.ev_tmp _ _ _)); simp only [List.getD_cons_succ, List.getD_cons_zero] <;> rfl)) ?_) | (refine plan_move _ _ (by rfl) (by rfl) (.inr (by rfl)) (by first | (with_reducible exact Mem.ev_const _ _) | (with_reducible exact Mem.ev_zero _ _ _) | (with_reducible (apply Eq.trans (Mem.ev_tmp _ _ _)); simp only [List.getD_cons_succ, List.getD_cons_zero] <;> rfl)) ?_) | (refine plan_pick_t _ _ _ _ (by rfl) (by rfl) (by rfl) (by first | (with_reducible exact Mem.ev_const _ _) | (with_reducible exact Mem.ev_zero _ _ _) | (with_reducible (apply Eq.trans (Mem.ev_tmp _ _ _)); simp only [List.getD_cons_succ, List.getD_cons_zero] <;> rfl)) (by first | (with_reducible exact Mem.ev_const _ _) | (with_reducible exact Mem.ev_zero _ _ _) | (with_reducible (apply Eq.trans (Mem.ev_tmp _ _ _)); simp only [List.getD_cons_succ, List.getD_cons_zero] <;> rfl)) ?_) | (refine plan_pick_f _ _ _ _ (by rfl) (by rfl) (by rfl) (by first | (with_reducible exact Mem.ev_const _ _) | (with_reducible exact Mem.ev_zero _ _ _) | (with_reducible (apply Eq.trans (Mem.ev_tmp _ _ _)); simp only [List.getD_cons_succ, List.getD_cons_zero] <;> rfl)) (by first | (with_reducible exact Mem.ev_const _ _) | (with_reducible exact Mem.ev_zero _ _ _) | (with_reducible (apply Eq.trans (Mem.ev_tmp _ _ _)); simp only [List.getD_cons_succ, List.getD_cons_zero] <;> rfl)) ?_))
  (simp only [Act.put, List.setIfInBounds_toArray, List.set_cons_zero, List.set_cons_succ])
  refine plan_nil ?_
  have R2 : Hid (At w1.drew (w.heap.size + 1) X 112) := R1.out
  have B2 : Hid (Below w.heap.size w w1.drew) := B1.out.drew
  clear R1 B1 A1 hx
  generalize w1.drew = W at *
  go_wp2_with fail
  obtain ⟨a1, ha1⟩ : ∃ x : BitVec 32, x = q.a + q.b := ⟨_, rfl⟩
  rw [r_add q.a q.b, ← ha1]
  have Ha1 := Lib.hid ha1
  clear ha1
  rw [r_xor]
  refine (rot_any (q.d ^^^ a1) 16 _ (by decide)).mono ?_
  rintro e w' ⟨rfl, rfl⟩
  obtain ⟨d1, hd1⟩ : ∃ x : BitVec 32, x = (q.d ^^^ a1).rotateLeft 16 := ⟨_, rfl⟩
  rw [← hd1]
  have Hd1 := Lib.hid hd1
  clear hd1
  go_wp2_with fail
  obtain ⟨k1, hk1⟩ : ∃ x : BitVec 32, x = q.c + d1 := ⟨_, rfl⟩
  rw [r_add q.c d1, ← hk1]
  have Hk1 := Lib.hid hk1
  clear hk1
  rw [r_xor]
  refine (rot_any (q.b ^^^ k1) 12 _ (by decide)).mono ?_
  rintro e w' ⟨rfl, rfl⟩
  obtain ⟨b1, hb1⟩ : ∃ x : BitVec 32, x = (q.b ^^^ k1).rotateLeft 12 := ⟨_, rfl⟩
  rw [← hb1]
  have Hb1 := Lib.hid hb1
  clear hb1
  go_wp2_with fail
  obtain ⟨a2, ha2⟩ : ∃ x : BitVec 32, x = a1 + b1 := ⟨_, rfl⟩
  rw [r_add a1 b1, ← ha2]
  have Ha2 := Lib.hid ha2
  clear ha2
  rw [r_xor]
  refine (rot_any (d1 ^^^ a2) 8 _ (by decide)).mono ?_
  rintro e w' ⟨rfl, rfl⟩
  obtain ⟨d2, hd2⟩ : ∃ x : BitVec 32, x = (d1 ^^^ a2).rotateLeft 8 := ⟨_, rfl⟩
  rw [← hd2]
  have Hd2 := Lib.hid hd2
  clear hd2
  go_wp2_with fail
  obtain ⟨k2, hk2⟩ : ∃ x : BitVec 32, x = k1 + d2 := ⟨_, rfl⟩
  rw [r_add k1 d2, ← hk2]
  have Hk2 := Lib.hid hk2
  clear hk2
  rw [r_xor]
  refine (rot_any (b1 ^^^ k2) 7 _ (by decide)).mono ?_
  rintro e w' ⟨rfl, rfl⟩
  obtain ⟨b2, hb2⟩ : ∃ x : BitVec 32, x = (b1 ^^^ k2).rotateLeft 7 := ⟨_, rfl⟩
  rw [← hb2]
  have Hb2 := Lib.hid hb2
  clear hb2
  have hres : qOf (qr q) = (#[.int .u32 (V a2), .int .u32 (V b2), .int .u32 (V k2), .int .u32 (V d2)] : Array Value) := by rw [Hb2.out, Hk2.out, Hd2.out, Ha2.out, Hb1.out, Hk1.out, Hd1.out, Ha1.out]; rfl
  have HRES := Lib.hid hres
  clear hres
  go_wp2_with (first | (refine wpList_store_all (by rfl) 112 _ _ (by rfl) (by rfl) (w.heap.size + 1) (#[.int .u32 (V a2), .int .u32 (V b2), .int .u32 (V k2), .int .u32 (V d2)] : Array Value) (by rfl) (by rfl) (by exact infoQ) _ _ R2.out (by exact XS.out.symm) (u32s_one [a2, b2, k2, d2]) ?_))
  try simp only [Exit.inBlock, Exit.then]
  refine ret_row (by rfl) (w.heap.size + 1) 112 (#[.int .u32 (V a2), .int .u32 (V b2), .int .u32 (V k2), .int .u32 (V d2)] : Array Value) _ (by rfl) (R2.out.row _) Tryd.underlying112 (by rfl) (by exact infoQ) ?_
  exact ⟨by rw [HRES.out], below_row B2.out (by omega) _⟩
theorem o_or (t t2 : TypeId) (x y : Operand) (a b : BitVec 32) (w : World) : (do eqGuard .or t x y (.int .u32 (V a)) (.int .u32 (V b)); binOp .or t2 (.int .u32 (V a)) (.int .u32 (V b)) : Sem Value).run Tryd.prog w = .ok (.int .u32 (V (a ||| b))) w := by
  rw [← r_or]
  go_simp
theorem shl_val (a : BitVec 32) (k : Nat) : V a * 2 ^ k % 4294967296 = V (a <<< k) := by
  unfold V
  rw [BitVec.toNat_shiftLeft, Nat.shiftLeft_eq]
  show _ = ((a.toNat * 2 ^ k % 4294967296 : Nat) : Int)
  rw [Int.natCast_emod, Int.natCast_mul, Int.natCast_pow]; rfl
theorem o_shl (t t2 : TypeId) (x y : Operand) (a : BitVec 32) (k : Nat) (K : Int) (hK : K = (k : Int)) (hk : k < 32) (w : World) : (do eqGuard .shl t x y (.int .u32 (V a)) (.int .u64 K); binOp .shl t2 (.int .u32 (V a)) (.int .u64 K) : Sem Value).run Tryd.prog w = .ok (.int .u32 (V (a <<< k))) w := by
  subst hK
  have h0 := V_lo a
  rw [← shl_val]
  go_simp
  simp [IntKind.wrap, IntKind.bits, IntKind.signed]
theorem conv_w (x : BitVec 8) (w : World) : (convert 5 65 (.int .u8 (B8 x))).run Tryd.prog w = .ok (.int .u32 (V (x.setWidth 32))) w := by
  rw [conv_b]
  have e : B8 x = V (x.setWidth 32) := by
    unfold B8 V
    rw [BitVec.toNat_setWidth, Nat.mod_eq_of_lt (by have := x.isLt; omega)]
  rw [e]
theorem lew_or (x0 x1 x2 x3 : BitVec 8) : (x0.setWidth 32 ||| x1.setWidth 32 <<< 8 ||| x2.setWidth 32 <<< 16 ||| x3.setWidth 32 <<< 24 : BitVec 32) = x3.setWidth 32 <<< 24 ||| x2.setWidth 32 <<< 16 ||| x1.setWidth 32 <<< 8 ||| x0.setWidth 32 := by
  generalize x3.setWidth 32 <<< 24 = d; generalize x2.setWidth 32 <<< 16 = c; generalize x1.setWidth 32 <<< 8 = b; generalize x0.setWidth 32 = a
  rw [BitVec.or_comm _ d, BitVec.or_comm _ c, BitVec.or_comm a b, ← BitVec.or_assoc, ← BitVec.or_assoc]
set_option maxRecDepth 100000 in
set_option maxHeartbeats 1000000 in
theorem word_any (v : Value) (l : List (BitVec 8)) (w : World) (h : Sl w v l) (hl : 4 ≤ l.length) : Calls Tryd.prog 77 #[v] w fun e w' => e = .returned (.int .u32 (V (lew l 0))) ∧ Below w.heap.size w w' := by
  obtain ⟨a, cap, rfl, hcap, hr⟩ := h
  obtain ⟨bb, oo, rfl, hbb, hc⟩ := hr (by intro e; rw [e] at hl; simp at hl)
  obtain ⟨n, hn⟩ : ∃ n, n = l.length := ⟨_, rfl⟩
  obtain ⟨x0, h0⟩ : ∃ x, x = l.getD 0 0 := ⟨_, rfl⟩
  obtain ⟨x1, h1⟩ : ∃ x, x = l.getD 1 0 := ⟨_, rfl⟩
  obtain ⟨x2, h2⟩ : ∃ x, x = l.getD 2 0 := ⟨_, rfl⟩
  obtain ⟨x3, h3⟩ : ∃ x, x = l.getD 3 0 := ⟨_, rfl⟩
  have hv : (x0.setWidth 32 ||| x1.setWidth 32 <<< 8 ||| x2.setWidth 32 <<< 16 ||| x3.setWidth 32 <<< 24 : BitVec 32) = lew l 0 := by rw [h0, h1, h2, h3]; exact lew_or _ _ _ _
  have c0 : w.cell? ⟨bb, oo + 0, none⟩ = some (.int .u8 (B8 x0)) := by rw [h0]; exact hc 0 (by omega)
  have c1 : w.cell? ⟨bb, oo + 1, none⟩ = some (.int .u8 (B8 x1)) := by rw [h1]; exact hc 1 (by omega)
  have c2 : w.cell? ⟨bb, oo + 2, none⟩ = some (.int .u8 (B8 x2)) := by rw [h2]; exact hc 2 (by omega)
  have c3 : w.cell? ⟨bb, oo + 3, none⟩ = some (.int .u8 (B8 x3)) := by rw [h3]; exact hc 3 (by omega)
  have k0 (w' : World) (hw : Below w.heap.size w w') (k : Nat) : w'.cell? ⟨bb, oo + k, none⟩ = w.cell? ⟨bb, oo + k, none⟩ := hw.cell (p := ⟨bb, oo + k, none⟩) hbb
  rw [← hn] at hl ⊢
  have HV := Lib.hid hv; have C0 := Lib.hid c0; have C1 := Lib.hid c1; have C2 := Lib.hid c2; have C3 := Lib.hid c3; have K0 := Lib.hid k0
  clear hv c0 c1 c2 c3 k0 hc hr h0 h1 h2 h3 hn hcap
  go_enter Tryd.func77, Tryd.ntmps77
  go_wp2_with fail
  refine wp_region_plan_in (fun w' => Below w.heap.size w w') (.take 0 (.take 1 (.take 2 (.take 3 (.take 4 (.take 5 (.take 6 (.take 7 (.take 8 (.take 9 (.take 10 (.take 11 (.take 12 (.take 13 (.take 14 (.take 15 (.take 16 (.take 17 (.take 18 (.take 19 (.take 20 (.take 21 (.take 22 .done))))))))))))))))))))))) (by kernel_rfl) (by kernel_rfl) (by kernel_rfl) (Below.refl _ _).drew ?_
  (first | (refine plan_move _ _ (by rfl) (by rfl) (.inl (by rfl)) (by first | (with_reducible exact Mem.ev_const _ _) | (with_reducible exact Mem.ev_zero _ _ _) | (with_reducible (apply Eq.trans (Mem.ev_tmp _ _ _)); simp only [List.getD_cons_succ, List.getD_cons_zero] <;> rfl)) ?_) | (refine plan_move _ _ (by rfl) (by rfl) (.inr (by rfl)) (by first | (with_reducible exact Mem.ev_const _ _) | (with_reducible exact Mem.ev_zero _ _ _) | (with_reducible (apply Eq.trans (Mem.ev_tmp _ _ _)); simp only [List.getD_cons_succ, List.getD_cons_zero] <;> rfl)) ?_) | (refine plan_pick_t _ _ _ _ (by rfl) (by rfl) (by rfl) (by first | (with_reducible exact Mem.ev_const _ _) | (with_reducible exact Mem.ev_zero _ _ _) | (with_reducible (apply Eq.trans (Mem.ev_tmp _ _ _)); simp only [List.getD_cons_succ, List.getD_cons_zero] <;> rfl)) (by first | (with_reducible exact Mem.ev_const _ _) | (with_reducible exact Mem.ev_zero _ _ _) | (with_reducible (apply Eq.trans (Mem.ev_tmp _ _ _)); simp only [List.getD_cons_succ, List.getD_cons_zero] <;> rfl)) ?_) | (refine plan_pick_f _ _ _ _ (by rfl) (by rfl) (by rfl) (by first | (with_reducible exact Mem.ev_const _ _) | (with_reducible exact Mem.ev_zero _ _ _) | (with_reducible (apply Eq.trans (Mem.ev_tmp _ _ _)); simp only [List.getD_cons_succ, List.getD_cons_zero] <;> rfl)) (by first | (with_reducible exact Mem.ev_const _ _) | (with_reducible exact Mem.ev_zero _ _ _) | (with_reducible (apply Eq.trans (Mem.ev_tmp _ _ _)); simp only [List.getD_cons_succ, List.getD_cons_zero] <;> rfl)) ?_))
  (simp only [Act.put, List.setIfInBounds_toArray, List.set_cons_zero, List.set_cons_succ])
  refine plan_index 22 5 _ _ bb oo n cap 0 (by rfl) (by rfl) (by rfl) (by first | (with_reducible exact Mem.ev_const _ _) | (with_reducible exact Mem.ev_zero _ _ _) | (with_reducible (apply Eq.trans (Mem.ev_tmp _ _ _)); simp only [List.getD_cons_succ, List.getD_cons_zero] <;> rfl)) (by rfl) (by omega) Tryd.underlying22 (by kernel_rfl) ?_
  (simp only [Act.put, List.setIfInBounds_toArray, List.set_cons_zero, List.set_cons_succ])
  refine plan_cell 5 _ _ _ _ (by rfl) (by rfl) (by rfl) (by first | (with_reducible exact Mem.ev_const _ _) | (with_reducible exact Mem.ev_zero _ _ _) | (with_reducible (apply Eq.trans (Mem.ev_tmp _ _ _)); simp only [List.getD_cons_succ, List.getD_cons_zero] <;> rfl)) (fun w' hw' => (K0.out w' hw' 0).trans C0.out) Tryd.underlying5 (by rfl) ?_
  (simp only [Act.put, List.setIfInBounds_toArray, List.set_cons_zero, List.set_cons_succ])
  refine plan_conv _ _ _ _ _ (by rfl) (by rfl) (by rfl) (by first | (with_reducible exact Mem.ev_const _ _) | (with_reducible exact Mem.ev_zero _ _ _) | (with_reducible (apply Eq.trans (Mem.ev_tmp _ _ _)); simp only [List.getD_cons_succ, List.getD_cons_zero] <;> rfl)) (fun wx => conv_w x0 wx) ?_
  (simp only [Act.put, List.setIfInBounds_toArray, List.set_cons_zero, List.set_cons_succ])
  (first | (refine plan_move _ _ (by rfl) (by rfl) (.inl (by rfl)) (by first | (with_reducible exact Mem.ev_const _ _) | (with_reducible exact Mem.ev_zero _ _ _) | (with_reducible (apply Eq.trans (Mem.ev_tmp _ _ _)); simp only [List.getD_cons_succ, List.getD_cons_zero] <;> rfl)) ?_) | (refine plan_move _ _ (by rfl) (by rfl) (.inr (by rfl)) (by first | (with_reducible exact Mem.ev_const _ _) | (with_reducible exact Mem.ev_zero _ _ _) | (with_reducible (apply Eq.trans (Mem.ev_tmp _ _ _)); simp only [List.getD_cons_succ, List.getD_cons_zero] <;> rfl)) ?_) | (refine plan_pick_t _ _ _ _ (by rfl) (by rfl) (by rfl) (by first | (with_reducible exact Mem.ev_const _ _) | (with_reducible exact Mem.ev_zero _ _ _) | (with_reducible (apply Eq.trans (Mem.ev_tmp _ _ _)); simp only [List.getD_cons_succ, List.getD_cons_zero] <;> rfl)) (by first | (with_reducible exact Mem.ev_const _ _) | (with_reducible exact Mem.ev_zero _ _ _) | (with_reducible (apply Eq.trans (Mem.ev_tmp _ _ _)); simp only [List.getD_cons_succ, List.getD_cons_zero] <;> rfl)) ?_) | (refine plan_pick_f _ _ _ _ (by rfl) (by rfl) (by rfl) (by first | (with_reducible exact Mem.ev_const _ _) | (with_reducible exact Mem.ev_zero _ _ _) | (with_reducible (apply Eq.trans (Mem.ev_tmp _ _ _)); simp only [List.getD_cons_succ, List.getD_cons_zero] <;> rfl)) (by first | (with_reducible exact Mem.ev_const _ _) | (with_reducible exact Mem.ev_zero _ _ _) | (with_reducible (apply Eq.trans (Mem.ev_tmp _ _ _)); simp only [List.getD_cons_succ, List.getD_cons_zero] <;> rfl)) ?_))
  (simp only [Act.put, List.setIfInBounds_toArray, List.set_cons_zero, List.set_cons_succ])
  refine plan_index 22 5 _ _ bb oo n cap 1 (by rfl) (by rfl) (by rfl) (by first | (with_reducible exact Mem.ev_const _ _) | (with_reducible exact Mem.ev_zero _ _ _) | (with_reducible (apply Eq.trans (Mem.ev_tmp _ _ _)); simp only [List.getD_cons_succ, List.getD_cons_zero] <;> rfl)) (by rfl) (by omega) Tryd.underlying22 (by kernel_rfl) ?_
  (simp only [Act.put, List.setIfInBounds_toArray, List.set_cons_zero, List.set_cons_succ])
  refine plan_cell 5 _ _ _ _ (by rfl) (by rfl) (by rfl) (by first | (with_reducible exact Mem.ev_const _ _) | (with_reducible exact Mem.ev_zero _ _ _) | (with_reducible (apply Eq.trans (Mem.ev_tmp _ _ _)); simp only [List.getD_cons_succ, List.getD_cons_zero] <;> rfl)) (fun w' hw' => (K0.out w' hw' 1).trans C1.out) Tryd.underlying5 (by rfl) ?_
  (simp only [Act.put, List.setIfInBounds_toArray, List.set_cons_zero, List.set_cons_succ])
  refine plan_conv _ _ _ _ _ (by rfl) (by rfl) (by rfl) (by first | (with_reducible exact Mem.ev_const _ _) | (with_reducible exact Mem.ev_zero _ _ _) | (with_reducible (apply Eq.trans (Mem.ev_tmp _ _ _)); simp only [List.getD_cons_succ, List.getD_cons_zero] <;> rfl)) (fun wx => conv_w x1 wx) ?_
  (simp only [Act.put, List.setIfInBounds_toArray, List.set_cons_zero, List.set_cons_succ])
  refine plan_bin _ _ _ _ _ _ _ _ (by rfl) (by rfl) (by rfl) (by first | (with_reducible exact Mem.ev_const _ _) | (with_reducible exact Mem.ev_zero _ _ _) | (with_reducible (apply Eq.trans (Mem.ev_tmp _ _ _)); simp only [List.getD_cons_succ, List.getD_cons_zero] <;> rfl)) (by first | (with_reducible exact Mem.ev_const _ _) | (with_reducible exact Mem.ev_zero _ _ _) | (with_reducible (apply Eq.trans (Mem.ev_tmp _ _ _)); simp only [List.getD_cons_succ, List.getD_cons_zero] <;> rfl)) (fun wx => o_shl _ _ _ _ _ 8 8 (by rfl) (by decide) wx) ?_
  (simp only [Act.put, List.setIfInBounds_toArray, List.set_cons_zero, List.set_cons_succ])
  refine plan_bin _ _ _ _ _ _ _ _ (by rfl) (by rfl) (by rfl) (by first | (with_reducible exact Mem.ev_const _ _) | (with_reducible exact Mem.ev_zero _ _ _) | (with_reducible (apply Eq.trans (Mem.ev_tmp _ _ _)); simp only [List.getD_cons_succ, List.getD_cons_zero] <;> rfl)) (by first | (with_reducible exact Mem.ev_const _ _) | (with_reducible exact Mem.ev_zero _ _ _) | (with_reducible (apply Eq.trans (Mem.ev_tmp _ _ _)); simp only [List.getD_cons_succ, List.getD_cons_zero] <;> rfl)) (fun wx => o_or _ _ _ _ _ _ wx) ?_
  (simp only [Act.put, List.setIfInBounds_toArray, List.set_cons_zero, List.set_cons_succ])
  (first | (refine plan_move _ _ (by rfl) (by rfl) (.inl (by rfl)) (by first | (with_reducible exact Mem.ev_const _ _) | (with_reducible exact Mem.ev_zero _ _ _) | (with_reducible (apply Eq.trans (Mem.ev_tmp _ _ _)); simp only [List.getD_cons_succ, List.getD_cons_zero] <;> rfl)) ?_) | (refine plan_move _ _ (by rfl) (by rfl) (.inr (by rfl)) (by first | (with_reducible exact Mem.ev_const _ _) | (with_reducible exact Mem.ev_zero _ _ _) | (with_reducible (apply Eq.trans (Mem.ev_tmp _ _ _)); simp only [List.getD_cons_succ, List.getD_cons_zero] <;> rfl)) ?_) | (refine plan_pick_t _ _ _ _ (by rfl) (by rfl) (by rfl) (by first | (with_reducible exact Mem.ev_const _ _) | (with_reducible exact Mem.ev_zero _ _ _) | (with_reducible (apply Eq.trans (Mem.ev_tmp _ _ _)); simp only [List.getD_cons_succ, List.getD_cons_zero] <;> rfl)) (by first | (with_reducible exact Mem.ev_const _ _) | (with_reducible exact Mem.ev_zero _ _ _) | (with_reducible (apply Eq.trans (Mem.ev_tmp _ _ _)); simp only [List.getD_cons_succ, List.getD_cons_zero] <;> rfl)) ?_) | (refine plan_pick_f _ _ _ _ (by rfl) (by rfl) (by rfl) (by first | (with_reducible exact Mem.ev_const _ _) | (with_reducible exact Mem.ev_zero _ _ _) | (with_reducible (apply Eq.trans (Mem.ev_tmp _ _ _)); simp only [List.getD_cons_succ, List.getD_cons_zero] <;> rfl)) (by first | (with_reducible exact Mem.ev_const _ _) | (with_reducible exact Mem.ev_zero _ _ _) | (with_reducible (apply Eq.trans (Mem.ev_tmp _ _ _)); simp only [List.getD_cons_succ, List.getD_cons_zero] <;> rfl)) ?_))
  (simp only [Act.put, List.setIfInBounds_toArray, List.set_cons_zero, List.set_cons_succ])
  refine plan_index 22 5 _ _ bb oo n cap 2 (by rfl) (by rfl) (by rfl) (by first | (with_reducible exact Mem.ev_const _ _) | (with_reducible exact Mem.ev_zero _ _ _) | (with_reducible (apply Eq.trans (Mem.ev_tmp _ _ _)); simp only [List.getD_cons_succ, List.getD_cons_zero] <;> rfl)) (by rfl) (by omega) Tryd.underlying22 (by kernel_rfl) ?_
  (simp only [Act.put, List.setIfInBounds_toArray, List.set_cons_zero, List.set_cons_succ])
  refine plan_cell 5 _ _ _ _ (by rfl) (by rfl) (by rfl) (by first | (with_reducible exact Mem.ev_const _ _) | (with_reducible exact Mem.ev_zero _ _ _) | (with_reducible (apply Eq.trans (Mem.ev_tmp _ _ _)); simp only [List.getD_cons_succ, List.getD_cons_zero] <;> rfl)) (fun w' hw' => (K0.out w' hw' 2).trans C2.out) Tryd.underlying5 (by rfl) ?_
  (simp only [Act.put, List.setIfInBounds_toArray, List.set_cons_zero, List.set_cons_succ])
  refine plan_conv _ _ _ _ _ (by rfl) (by rfl) (by rfl) (by first | (with_reducible exact Mem.ev_const _ _) | (with_reducible exact Mem.ev_zero _ _ _) | (with_reducible (apply Eq.trans (Mem.ev_tmp _ _ _)); simp only [List.getD_cons_succ, List.getD_cons_zero] <;> rfl)) (fun wx => conv_w x2 wx) ?_
  (simp only [Act.put, List.setIfInBounds_toArray, List.set_cons_zero, List.set_cons_succ])
  refine plan_bin _ _ _ _ _ _ _ _ (by rfl) (by rfl) (by rfl) (by first | (with_reducible exact Mem.ev_const _ _) | (with_reducible exact Mem.ev_zero _ _ _) | (with_reducible (apply Eq.trans (Mem.ev_tmp _ _ _)); simp only [List.getD_cons_succ, List.getD_cons_zero] <;> rfl)) (by first | (with_reducible exact Mem.ev_const _ _) | (with_reducible exact Mem.ev_zero _ _ _) | (with_reducible (apply Eq.trans (Mem.ev_tmp _ _ _)); simp only [List.getD_cons_succ, List.getD_cons_zero] <;> rfl)) (fun wx => o_shl _ _ _ _ _ 16 16 (by rfl) (by decide) wx) ?_
  (simp only [Act.put, List.setIfInBounds_toArray, List.set_cons_zero, List.set_cons_succ])
  refine plan_bin _ _ _ _ _ _ _ _ (by rfl) (by rfl) (by rfl) (by first | (with_reducible exact Mem.ev_const _ _) | (with_reducible exact Mem.ev_zero _ _ _) | (with_reducible (apply Eq.trans (Mem.ev_tmp _ _ _)); simp only [List.getD_cons_succ, List.getD_cons_zero] <;> rfl)) (by first | (with_reducible exact Mem.ev_const _ _) | (with_reducible exact Mem.ev_zero _ _ _) | (with_reducible (apply Eq.trans (Mem.ev_tmp _ _ _)); simp only [List.getD_cons_succ, List.getD_cons_zero] <;> rfl)) (fun wx => o_or _ _ _ _ _ _ wx) ?_
  (simp only [Act.put, List.setIfInBounds_toArray, List.set_cons_zero, List.set_cons_succ])
  (first | (refine plan_move _ _ (by rfl) (by rfl) (.inl (by rfl)) (by first | (with_reducible exact Mem.ev_const _ _) | (with_reducible exact Mem.ev_zero _ _ _) | (with_reducible (apply Eq.trans (Mem.ev_tmp _ _ _)); simp only [List.getD_cons_succ, List.getD_cons_zero] <;> rfl)) ?_) | (refine plan_move _ _ (by rfl) (by rfl) (.inr (by rfl)) (by first | (with_reducible exact Mem.ev_const _ _) | (with_reducible exact Mem.ev_zero _ _ _) | (with_reducible (apply Eq.trans (Mem.ev_tmp _ _ _)); simp only [List.getD_cons_succ, List.getD_cons_zero] <;> rfl)) ?_) | (refine plan_pick_t _ _ _ _ (by rfl) (by rfl) (by rfl) (by first | (with_reducible exact Mem.ev_const _ _) | (with_reducible exact Mem.ev_zero _ _ _) | (with_reducible (apply Eq.trans (Mem.ev_tmp _ _ _)); simp only [List.getD_cons_succ, List.getD_cons_zero] <;> rfl)) (by first | (with_reducible exact Mem.ev_const _ _) | (with_reducible exact Mem.ev_zero _ _ _) | (with_reducible (apply Eq.trans (Mem.ev_tmp _ _ _)); simp only [List.getD_cons_succ, List.getD_cons_zero] <;> rfl)) ?_) | (refine plan_pick_f _ _ _ _ (by rfl) (by rfl) (by rfl) (by first | (with_reducible exact Mem.ev_const _ _) | (with_reducible exact Mem.ev_zero _ _ _) | (with_reducible (apply Eq.trans (Mem.ev_tmp _ _ _)); simp only [List.getD_cons_succ, List.getD_cons_zero] <;> rfl)) (by first | (with_reducible exact Mem.ev_const _ _) | (with_reducible exact Mem.ev_zero _ _ _) | (with_reducible (apply Eq.trans (Mem.ev_tmp _ _ _)); simp only [List.getD_cons_succ, List.getD_cons_zero] <;> rfl)) ?_))
  (simp only [Act.put, List.setIfInBounds_toArray, List.set_cons_zero, List.set_cons_succ])
  refine plan_index 22 5 _ _ bb oo n cap 3 (by rfl) (by rfl) (by rfl) (by first | (with_reducible exact Mem.ev_const _ _) | (with_reducible exact Mem.ev_zero _ _ _) | (with_reducible (apply Eq.trans (Mem.ev_tmp _ _ _)); simp only [List.getD_cons_succ, List.getD_cons_zero] <;> rfl)) (by rfl) (by omega) Tryd.underlying22 (by kernel_rfl) ?_
  (simp only [Act.put, List.setIfInBounds_toArray, List.set_cons_zero, List.set_cons_succ])
  refine plan_cell 5 _ _ _ _ (by rfl) (by rfl) (by rfl) (by first | (with_reducible exact Mem.ev_const _ _) | (with_reducible exact Mem.ev_zero _ _ _) | (with_reducible (apply Eq.trans (Mem.ev_tmp _ _ _)); simp only [List.getD_cons_succ, List.getD_cons_zero] <;> rfl)) (fun w' hw' => (K0.out w' hw' 3).trans C3.out) Tryd.underlying5 (by rfl) ?_
  (simp only [Act.put, List.setIfInBounds_toArray, List.set_cons_zero, List.set_cons_succ])
  refine plan_conv _ _ _ _ _ (by rfl) (by rfl) (by rfl) (by first | (with_reducible exact Mem.ev_const _ _) | (with_reducible exact Mem.ev_zero _ _ _) | (with_reducible (apply Eq.trans (Mem.ev_tmp _ _ _)); simp only [List.getD_cons_succ, List.getD_cons_zero] <;> rfl)) (fun wx => conv_w x3 wx) ?_
  (simp only [Act.put, List.setIfInBounds_toArray, List.set_cons_zero, List.set_cons_succ])
  refine plan_bin _ _ _ _ _ _ _ _ (by rfl) (by rfl) (by rfl) (by first | (with_reducible exact Mem.ev_const _ _) | (with_reducible exact Mem.ev_zero _ _ _) | (with_reducible (apply Eq.trans (Mem.ev_tmp _ _ _)); simp only [List.getD_cons_succ, List.getD_cons_zero] <;> rfl)) (by first | (with_reducible exact Mem.ev_const _ _) | (with_reducible exact Mem.ev_zero _ _ _) | (with_reducible (apply Eq.trans (Mem.ev_tmp _ _ _)); simp only [List.getD_cons_succ, List.getD_cons_zero] <;> rfl)) (fun wx => o_shl _ _ _ _ _ 24 24 (by rfl) (by decide) wx) ?_
  (simp only [Act.put, List.setIfInBounds_toArray, List.set_cons_zero, List.set_cons_succ])
  refine plan_bin _ _ _ _ _ _ _ _ (by rfl) (by rfl) (by rfl) (by first | (with_reducible exact Mem.ev_const _ _) | (with_reducible exact Mem.ev_zero _ _ _) | (with_reducible (apply Eq.trans (Mem.ev_tmp _ _ _)); simp only [List.getD_cons_succ, List.getD_cons_zero] <;> rfl)) (by first | (with_reducible exact Mem.ev_const _ _) | (with_reducible exact Mem.ev_zero _ _ _) | (with_reducible (apply Eq.trans (Mem.ev_tmp _ _ _)); simp only [List.getD_cons_succ, List.getD_cons_zero] <;> rfl)) (fun wx => o_or _ _ _ _ _ _ wx) ?_
  (simp only [Act.put, List.setIfInBounds_toArray, List.set_cons_zero, List.set_cons_succ])
  (first | (refine plan_move _ _ (by rfl) (by rfl) (.inl (by rfl)) (by first | (with_reducible exact Mem.ev_const _ _) | (with_reducible exact Mem.ev_zero _ _ _) | (with_reducible (apply Eq.trans (Mem.ev_tmp _ _ _)); simp only [List.getD_cons_succ, List.getD_cons_zero] <;> rfl)) ?_) | (refine plan_move _ _ (by rfl) (by rfl) (.inr (by rfl)) (by first | (with_reducible exact Mem.ev_const _ _) | (with_reducible exact Mem.ev_zero _ _ _) | (with_reducible (apply Eq.trans (Mem.ev_tmp _ _ _)); simp only [List.getD_cons_succ, List.getD_cons_zero] <;> rfl)) ?_) | (refine plan_pick_t _ _ _ _ (by rfl) (by rfl) (by rfl) (by first | (with_reducible exact Mem.ev_const _ _) | (with_reducible exact Mem.ev_zero _ _ _) | (with_reducible (apply Eq.trans (Mem.ev_tmp _ _ _)); simp only [List.getD_cons_succ, List.getD_cons_zero] <;> rfl)) (by first | (with_reducible exact Mem.ev_const _ _) | (with_reducible exact Mem.ev_zero _ _ _) | (with_reducible (apply Eq.trans (Mem.ev_tmp _ _ _)); simp only [List.getD_cons_succ, List.getD_cons_zero] <;> rfl)) ?_) | (refine plan_pick_f _ _ _ _ (by rfl) (by rfl) (by rfl) (by first | (with_reducible exact Mem.ev_const _ _) | (with_reducible exact Mem.ev_zero _ _ _) | (with_reducible (apply Eq.trans (Mem.ev_tmp _ _ _)); simp only [List.getD_cons_succ, List.getD_cons_zero] <;> rfl)) (by first | (with_reducible exact Mem.ev_const _ _) | (with_reducible exact Mem.ev_zero _ _ _) | (with_reducible (apply Eq.trans (Mem.ev_tmp _ _ _)); simp only [List.getD_cons_succ, List.getD_cons_zero] <;> rfl)) ?_))
  (simp only [Act.put, List.setIfInBounds_toArray, List.set_cons_zero, List.set_cons_succ])
  refine plan_nil ?_
  go_wp2_with fail
  go_ret
  exact ⟨by rw [← HV.out]; rfl, (Below.refl _ _).drew⟩
end Sha
end Go.Proofs.YtjadjidjfkahpaaDoor
namespace Go.Proofs.YtjadjidjfkahpaaDoor
namespace Sha
open Go.RowKit Mem
/-- The first j bytes of a word laid from place o on. -/
def put4 (l : List (BitVec 8)) (o : Nat) (x : BitVec 32) : Nat → List (BitVec 8)
  | 0 => l
  | j + 1 => (put4 l o x j).set (o + j) (wb x (8 * j))
theorem put4_length (l : List (BitVec 8)) (o : Nat) (x : BitVec 32) : ∀ j, (put4 l o x j).length = l.length
  | 0 => rfl
  | j + 1 => by rw [put4, List.length_set, put4_length l o x j]
/-- Four bytes more of a row that is filled from the left. -/
theorem put4_row (L : List (BitVec 8)) (n i : Nat) (x : BitVec 32) (hl : L.length = n) (h : i + 4 ≤ n) (hx : ∀ j, j < 4 → L.getD (i + j) 0 = wb x (8 * j)) : ∀ j, j ≤ 4 → put4 (rowZ L n i) i x j = rowZ L n (i + j)
  | 0, _ => rfl
  | j + 1, hj => by rw [put4, put4_row L n i x hl h hx j (by omega), ← hx j (by omega), rowZ_set L n (i + j) hl (by omega)]; rfl
structure CPInv (C : Array Value) (b : Nat) (t : TypeId) (w wr : World) : Prop where
  a : At wr b C t
  o : But b w wr
  k : ∀ B x, Below B x w → B ≤ b → Below B x wr
set_option maxRecDepth 100000 in
set_option maxHeartbeats 1000000 in
theorem putWord_any (x : BitVec 32) (l : List (BitVec 8)) (b o n c : Nat) (t : TypeId) (w : World) (ha : At w b (u8s l).toArray t) (hn : 4 ≤ n) (ho : o + 4 ≤ l.length) :
    Calls Tryd.prog 41 #[.slice (some ⟨b, o, none⟩) n c, .int .u32 (V x)] w fun e w' => e = .returned (.tuple #[]) ∧ CPInv (u8s (put4 l o x 4)).toArray b t w w' := by
  have vx := V_lo x
  have hI : CPInv (u8s (put4 l o x 0)).toArray b t w w := ⟨ha, But.refl _ _, fun _ _ h _ => h⟩
  have HI := Lib.hid hI; have HO := Lib.hid ho
  clear ha hI ho
  go_enter Tryd.func41, Tryd.ntmps41
  go_wp2_with fail
  go_loopw [4, 5] (fun _ i wr => ∃ j : Nat, j ≤ 4 ∧ i = .int .i64 j ∧ CPInv (u8s (put4 l o x j)).toArray b t w wr) (fun _ i _ => 4 - (intOf i).toNat)
  case atStart => exact ⟨0, by omega, rfl, HI.out⟩
  case round =>
    clear HI
    obtain ⟨j, hj, rfl, hI⟩ := hrel
    by_cases hlt : j < 4
    · have hset : (u8s (put4 l o x j)).toArray.setIfInBounds (o + j) (.int .u8 ((wb x (8 * j)).toNat : Int)) = (u8s (put4 l o x (j + 1))).toArray := u8s_set _ _ _
      have hEs : o + j < (u8s (put4 l o x j)).toArray.size := by have := HO.out; simp [u8s, put4_length]; omega
      have hk := hI.a; have hO := hI.o; have hK := hI.k
      obtain ⟨E, hE⟩ : ∃ E, E = (u8s (put4 l o x j)).toArray := ⟨_, rfl⟩
      rw [← hE] at hk hset hEs
      have KK := Lib.hid hk; have ST := Lib.hid hset; have ES := Lib.hid hEs; have OO := Lib.hid hO; have BB := Lib.hid hK
      have hlt' : (j : Int) < 4 := by omega
      have hjn : (j : Int) < (n : Int) := by omega
      clear hk hset hEs hI hE hO hK
      go_wp2_with (refine Mem.wpList_store_one (by rfl) 5 _ _ (by rfl) (by rfl) b (o + j) (.int .u8 ((wb x (8 * j)).toNat : Int)) (by rfl) (by exact congrArg (Value.int .u8) (wb_pow' x _)) (by rfl) infoB _ _ KK.out ES.out ?_; intro w' hat' ho' hb'; have KK' := Lib.hid hat'; have OO' := Lib.hid (OO.out.row (hb' b _ (Below.refl _ _) (Nat.le_refl _)).size ho'); have BB' := Lib.hid (fun B y (h : Below B y w) (hB : B ≤ b) => hb' B y (BB.out B y h hB) hB); clear hat' ho' hb')
      go_roundw
      case rel => exact ⟨j + 1, by omega, by go_num, by rw [← ST.out]; exact KK'.out, OO'.out, BB'.out⟩
      case measure => simp [intOf]; omega
    · have hj4 : j = 4 := by omega
      have hge : ¬ (j : Int) < 4 := by omega
      rw [hj4] at hI
      have II := Lib.hid hI
      clear hI hj4 hlt hj
      go_wp2_with fail
      go_end0
      exact ⟨rfl, II.out⟩
end Sha
end Go.Proofs.YtjadjidjfkahpaaDoor
namespace Go.Proofs.YtjadjidjfkahpaaDoor
namespace Sha
open Go.RowKit Mem
def fwl : List (BitVec 32) := [1634760805, 857760878, 2036477234, 1797285236]
/-- The two tables of package cipher. -/
structure CTabs (w : World) : Prop where
  f : TabV w 2 (u32s fwl)
  p : TabV w 3 (ints plc.flatten)
theorem CTabs.below {w w' : World} {B : Nat} (h : CTabs w) (hb : Below B w w') (hB : w.heap.size ≤ B) : CTabs w' :=
  ⟨h.f.below hb (Nat.lt_of_lt_of_le h.f.lt hB), h.p.below hb (Nat.lt_of_lt_of_le h.p.lt hB)⟩
theorem cfirst_known (key nonce : List (BitVec 8)) (n : BitVec 32) (j : Nat) (h : j < 4) : (cfirst key nonce n).getD j 0 = fwl.getD j 0 := by
  have : j = 0 ∨ j = 1 ∨ j = 2 ∨ j = 3 := by omega
  rcases this with rfl | rfl | rfl | rfl <;> rfl
theorem cfirst_key (key nonce : List (BitVec 8)) (n : BitVec 32) (j : Nat) (h : j < 8) : (cfirst key nonce n).getD (4 + j) 0 = lew key j := by
  have : j = 0 ∨ j = 1 ∨ j = 2 ∨ j = 3 ∨ j = 4 ∨ j = 5 ∨ j = 6 ∨ j = 7 := by omega
  rcases this with rfl | rfl | rfl | rfl | rfl | rfl | rfl | rfl <;> rfl
theorem cfirst_count (key nonce : List (BitVec 8)) (n : BitVec 32) : (cfirst key nonce n).getD 12 0 = n := rfl
theorem cfirst_nonce (key nonce : List (BitVec 8)) (n : BitVec 32) (j : Nat) (h : j < 3) : (cfirst key nonce n).getD (13 + j) 0 = lew nonce j := by
  have : j = 0 ∨ j = 1 ∨ j = 2 := by omega
  rcases this with rfl | rfl | rfl <;> rfl
theorem at_low {w : World} {b n i : Nat} {l : List (BitVec 8)} {t : TypeId} (h : At w b (u8s l).toArray t) (hl : l.length = n) (hi : 4 * i + 4 ≤ n) :
    Sl w (.slice (some ⟨b, 4 * i, none⟩) (n - 4 * i) (n - 4 * i)) (l.drop (4 * i)) := by
  have hlen : (l.drop (4 * i)).length = n - 4 * i := by rw [List.length_drop, hl]
  refine ⟨_, _, by rw [hlen], by rw [hlen]; exact Nat.le_refl _, fun _ => ⟨b, 4 * i, rfl, h.lt, fun k hk => ?_⟩⟩
  rw [hlen] at hk
  rw [h.cell, List.getElem?_toArray, u8s_get l (4 * i + k) (by omega)]
  simp [List.getD_eq_getElem?_getD]
theorem lew_low (l : List (BitVec 8)) (i : Nat) : lew (l.drop (4 * i)) 0 = lew l i := by
  simp [lew, List.getD_eq_getElem?_getD]
def Z16 : Array Value := (u32s (List.replicate 16 0)).toArray
theorem zero16 (w : World) : (zeroValue 101).run Tryd.prog w = .ok (.agg Z16) w := by kernel_rfl
theorem info16 : (Tryd.prog.info? 101).map (·.size) = some 16 := by kernel_rfl
theorem info4w : (Tryd.prog.info? 112).map (·.size) = some 4 := by kernel_rfl
structure LInv (C D X : Array Value) (W : List (BitVec 32)) (w wr : World) : Prop where
  c : At wr w.heap.size C 24
  d : At wr (w.heap.size + 1) D 63
  r : At wr (w.heap.size + 1 + 1) X 101
  k : At wr (w.heap.size + 1 + 1 + 1) (u32s W).toArray 101
  b : Below w.heap.size w wr
def cfOf (key nonce : List (BitVec 8)) (n : BitVec 32) : Array Value := (u32s (cfirst key nonce n)).toArray
theorem cfOf_size (key nonce : List (BitVec 8)) (n : BitVec 32) : (cfOf key nonce n).size = 16 := by simp [cfOf, u32s, cfirst_length]
set_option maxRecDepth 100000 in
set_option maxHeartbeats 2000000 in
theorem layWords_any (key nonce : List (BitVec 8)) (n : BitVec 32) (lk : key.length = 32) (ln : nonce.length = 12) (w : World) (hL : CTabs w) :
    Calls Tryd.prog 66 #[.agg (u8s key).toArray, .agg (u8s nonce).toArray, .int .u32 (V n)] w fun o w' => o = .returned (.agg (cfOf key nonce n)) ∧ Below w.heap.size w w' := by
  obtain ⟨X, hX⟩ : ∃ X, X = Z16 := ⟨_, rfl⟩
  have hx := zero16
  rw [← hX] at hx
  have hXs : X.size = 16 := by rw [hX]; simp [Z16, u32s]
  obtain ⟨C, hC⟩ : ∃ C, C = (u8s key).toArray := ⟨_, rfl⟩
  obtain ⟨D, hD⟩ : ∃ D, D = (u8s nonce).toArray := ⟨_, rfl⟩
  obtain ⟨cf, hcf⟩ : ∃ cf, cf = cfirst key nonce n := ⟨_, rfl⟩
  have lcf : cf.length = 16 := by rw [hcf]; exact cfirst_length _ _ _
  have k1 : ∀ j, j < 4 → cf.getD j 0 = fwl.getD j 0 := by rw [hcf]; exact cfirst_known key nonce n
  have k2 : ∀ j, j < 8 → cf.getD (4 + j) 0 = lew key j := by rw [hcf]; exact cfirst_key key nonce n
  have k3 : cf.getD 12 0 = n := by rw [hcf]; exact cfirst_count key nonce n
  have k4 : ∀ j, j < 3 → cf.getD (13 + j) 0 = lew nonce j := by rw [hcf]; exact cfirst_nonce key nonce n
  rw [← hC, ← hD]
  have hI : LInv C D X (rowY cf 16 0) w ((((w.alloc (.cells C 24)).alloc (.cells D 63)).alloc (.cells X 101)).alloc (.cells X 101)) := by
    refine ⟨((at_new w C _).alloc _).alloc _ |>.alloc _, ?_, ?_, ?_, ((((Below.refl _ _).alloc (Nat.le_refl _) _).alloc (by simp) _).alloc (by simp; omega) _).alloc (by simp; omega) _⟩
    · have h := ((at_new (w.alloc (.cells C 24)) D 63).alloc (.cells X 101)).alloc (.cells X 101)
      simpa using h
    · have h := (at_new ((w.alloc (.cells C 24)).alloc (.cells D 63)) X 101).alloc (.cells X 101)
      simpa using h
    · have h := at_new (((w.alloc (.cells C 24)).alloc (.cells D 63)).alloc (.cells X 101)) X 101
      have e : (u32s (rowY cf 16 0)).toArray = X := by rw [hX]; simp [rowY, Z16]
      rw [e]
      simpa using h
  obtain ⟨F, hF⟩ : ∃ F, F = u32s fwl := ⟨_, rfl⟩
  have hft := (hL.f.below hI.b hL.f.lt).c
  have hfj : ∀ j, j < 4 → F.toArray[j]? = some (.int .u32 (V (fwl.getD j 0))) := fun j hj => by rw [hF, List.getElem?_toArray]; exact u32s_get fwl j hj
  have hFs : (Tryd.prog.info? 112).map (·.size) = some F.length := by rw [hF]; exact info4w
  rw [← hF] at hft
  have KEY := Lib.hid lk; have NON := Lib.hid ln; have HI := Lib.hid hI; have HC := Lib.hid hC; have HD := Lib.hid hD; have XS := Lib.hid hXs; have HCF := Lib.hid hcf; have LCF := Lib.hid lcf
  have K1 := Lib.hid k1; have K2 := Lib.hid k2; have K3 := Lib.hid k3; have K4 := Lib.hid k4; have FT := Lib.hid hft; have FJ := Lib.hid hfj; have FS := Lib.hid hFs
  have WORD := Lib.hid word_any
  clear lk ln hI hC hD hXs hX hcf lcf k1 k2 k3 k4 hft hfj hFs hF hL
  go_enter Tryd.func66, Tryd.ntmps66
  go_wp2_with (refine wpList_load_mid (by rfl) 112 _ (by rfl) 2 0 (by rfl) F _ FT.out Tryd.underlying112 (by rfl) FS.out ?_)
  clear FT FS hx
  generalize (((w.alloc (.cells C 24)).alloc (.cells D 63)).alloc (.cells X 101)).alloc (.cells X 101) = w4 at *
  go_loopw [8, 9, 13] (fun _ _ i wr => ∃ j : Nat, j ≤ 4 ∧ i = .int .i64 j ∧ LInv C D X (rowY cf 16 j) w wr) (fun _ _ i _ => 4 - (intOf i).toNat)
  case atStart => exact ⟨0, by omega, rfl, HI.out⟩
  case round =>
    clear HI
    obtain ⟨j, hj, rfl, hI⟩ := hrel
    by_cases hlt : j < 4
    · obtain ⟨x, hxx⟩ : ∃ x, x = fwl.getD j 0 := ⟨_, rfl⟩
      have hset : (u32s (rowY cf 16 j)).toArray.setIfInBounds j (.int .u32 (V x)) = (u32s (rowY cf 16 (j + 1))).toArray := by
        rw [← rowY_set cf 16 j LCF.out (by omega), K1.out j hlt, ← hxx]; exact u32s_set _ _ _
      have hEs : j < (u32s (rowY cf 16 j)).toArray.size := by simp [u32s, rowY_length cf 16 j LCF.out (by omega)]; omega
      have fj := FJ.out j hlt
      rw [← hxx] at fj
      have hk := hI.k
      obtain ⟨E, hE⟩ : ∃ E, E = (u32s (rowY cf 16 j)).toArray := ⟨_, rfl⟩
      rw [← hE] at hk hset hEs
      have KK := Lib.hid hk; have ST := Lib.hid hset; have ES := Lib.hid hEs; have CC := Lib.hid hI.c; have DD := Lib.hid hI.d; have RR := Lib.hid hI.r; have BB := Lib.hid hI.b; have FX := Lib.hid fj
      have hlt' : (j : Int) < 4 := by omega
      clear hk hset hEs hI hE fj hxx
      go_wp2_with (first
        | (refine wpList_index_row (by rfl) 112 _ _ (by rfl) 4 65 Tryd.underlying112 _ Tryd.underlying65 (by rfl) infoU32 F.toArray j (by rfl) (by rfl) hlt _ FX.out ?_)
        | (refine Mem.wpList_store_one (by rfl) 65 _ _ (by rfl) (by rfl) (w.heap.size + 1 + 1 + 1) j (.int .u32 (V x)) (by rfl) (by rfl) (by rfl) infoU32 _ _ KK.out ES.out ?_; intro w' hat' ho' hb'; have KK' := Lib.hid hat'; have CC' := Lib.hid (at_keep CC.out ho' (by omega)); have DD' := Lib.hid (at_keep DD.out ho' (by omega)); have RR' := Lib.hid (at_keep RR.out ho' (by omega)); have BB' := Lib.hid (hb' _ _ BB.out (by omega)); clear hat' ho' hb'))
      go_roundw
      case rel => exact ⟨j + 1, by omega, by go_num, CC'.out, DD'.out, RR'.out, by rw [← ST.out]; exact KK'.out, BB'.out⟩
      case measure => simp [intOf]; omega
    · have hj4 : j = 4 := by omega
      have hge : ¬ (j : Int) < 4 := by omega
      rw [hj4] at hI
      have II := Lib.hid hI
      clear hI hj4 hlt hj FJ
      go_wp2_with fail
      go_loopw [10, 21] (fun _ i wr => ∃ j : Nat, j ≤ 8 ∧ i = .int .i64 j ∧ LInv C D X (rowY cf 16 (4 + j)) w wr) (fun _ i _ => 8 - (intOf i).toNat)
      case atStart => exact ⟨0, by omega, rfl, II.out⟩
      case round =>
        clear II
        obtain ⟨j, hj, rfl, hI⟩ := hrel
        by_cases hlt : j < 8
        · obtain ⟨x, hxx⟩ : ∃ x, x = lew key j := ⟨_, rfl⟩
          have hset : (u32s (rowY cf 16 (4 + j))).toArray.setIfInBounds (4 + j) (.int .u32 (V x)) = (u32s (rowY cf 16 (4 + (j + 1)))).toArray := by
            rw [show 4 + (j + 1) = (4 + j) + 1 by omega, ← rowY_set cf 16 (4 + j) LCF.out (by omega), K2.out j hlt, ← hxx]; exact u32s_set _ _ _
          have hEs : 4 + j < (u32s (rowY cf 16 (4 + j))).toArray.size := by simp [u32s, rowY_length cf 16 (4 + j) LCF.out (by omega)]; omega
          have hsl := at_low (i := j) (by rw [← HC.out]; exact hI.c) KEY.out (by omega)
          have hw := fun wx (hb : Below wr.heap.size wr wx) => WORD.out _ _ wx (hsl.below hb) (by rw [List.length_drop, KEY.out]; omega)
          rw [lew_low key j, ← hxx] at hw
          have hk := hI.k
          obtain ⟨E, hE⟩ : ∃ E, E = (u32s (rowY cf 16 (4 + j))).toArray := ⟨_, rfl⟩
          rw [← hE] at hk hset hEs
          have KK := Lib.hid hk; have ST := Lib.hid hset; have ES := Lib.hid hEs; have CC := Lib.hid hI.c; have DD := Lib.hid hI.d; have RR := Lib.hid hI.r; have BB := Lib.hid hI.b; have HW := Lib.hid hw
          have hlt' : (j : Int) < 8 := by omega
          clear hk hset hEs hI hE hsl hw hxx
          go_wp2_with (first | (refine wpList_slice_arr (by rfl) 24 _ _ (by rfl) 32 5 Tryd.underlying24 infoB w.heap.size 0 (4 * j) (by rfl) (by exact congrArg (Value.int .i64) (by omega)) (by omega) ?_; rw [Nat.zero_add]))
          refine (HW.out _ (Below.refl _ _)).mono ?_
          rintro e w' ⟨rfl, hb⟩
          have KK2 := Lib.hid (KK.out.below hb KK.out.lt); have CC2 := Lib.hid (CC.out.below hb CC.out.lt); have DD2 := Lib.hid (DD.out.below hb DD.out.lt); have RR2 := Lib.hid (RR.out.below hb RR.out.lt); have BB2 := Lib.hid (BB.out.trans (hb.mono BB.out.size))
          clear hb HW KK CC DD RR BB
          go_wp2_with (refine Mem.wpList_store_one (by rfl) 65 _ _ (by rfl) (by rfl) (w.heap.size + 1 + 1 + 1) (4 + j) (.int .u32 (V x)) (by rfl) (by rfl) (by rfl) infoU32 _ _ KK2.out ES.out ?_; intro w' hat' ho' hb'; have KK' := Lib.hid hat'; have CC' := Lib.hid (at_keep CC2.out ho' (by omega)); have DD' := Lib.hid (at_keep DD2.out ho' (by omega)); have RR' := Lib.hid (at_keep RR2.out ho' (by omega)); have BB' := Lib.hid (hb' _ _ BB2.out (by omega)); clear hat' ho' hb')
          go_roundw
          case rel => exact ⟨j + 1, by omega, by go_num, CC'.out, DD'.out, RR'.out, by rw [← ST.out]; exact KK'.out, BB'.out⟩
          case measure => simp [intOf]; omega
        · have hj8 : j = 8 := by omega
          have hge : ¬ (j : Int) < 8 := by omega
          rw [hj8] at hI
          have hset : (u32s (rowY cf 16 12)).toArray.setIfInBounds 12 (.int .u32 (V n)) = (u32s (rowY cf 16 (13 + 0))).toArray := by
            rw [← rowY_set cf 16 12 LCF.out (by omega), K3.out]; exact u32s_set _ _ _
          have hEs : 12 < (u32s (rowY cf 16 12)).toArray.size := by simp [u32s, rowY_length cf 16 12 LCF.out (by omega)]
          have hk := hI.k
          obtain ⟨E, hE⟩ : ∃ E, E = (u32s (rowY cf 16 12)).toArray := ⟨_, rfl⟩
          rw [show 4 + 8 = 12 from rfl, ← hE] at hk
          rw [← hE] at hset hEs
          have KK := Lib.hid hk; have ST := Lib.hid hset; have ES := Lib.hid hEs; have CC := Lib.hid hI.c; have DD := Lib.hid hI.d; have RR := Lib.hid hI.r; have BB := Lib.hid hI.b
          clear hk hset hEs hI hE hj8 hlt hj
          go_wp2_with (refine Mem.wpList_store_one (by rfl) 65 _ _ (by rfl) (by rfl) (w.heap.size + 1 + 1 + 1) 12 (.int .u32 (V n)) (by rfl) (by rfl) (by rfl) infoU32 _ _ KK.out ES.out ?_; intro w' hat' ho' hb'; have KK' := Lib.hid hat'; have CC' := Lib.hid (at_keep CC.out ho' (by omega)); have DD' := Lib.hid (at_keep DD.out ho' (by omega)); have RR' := Lib.hid (at_keep RR.out ho' (by omega)); have BB' := Lib.hid (hb' _ _ BB.out (by omega)); clear hat' ho' hb')
          clear KK CC DD RR BB
          go_loopw [11, 34] (fun _ i wr => ∃ j : Nat, j ≤ 3 ∧ i = .int .i64 j ∧ LInv C D X (rowY cf 16 (13 + j)) w wr) (fun _ i _ => 3 - (intOf i).toNat)
          case atStart => exact ⟨0, by omega, rfl, CC'.out, DD'.out, RR'.out, by rw [← ST.out]; exact KK'.out, BB'.out⟩
          case round =>
            clear KK' CC' DD' RR' BB' ST ES
            obtain ⟨j, hj, rfl, hI⟩ := hrel
            by_cases hlt : j < 3
            · obtain ⟨x, hxx⟩ : ∃ x, x = lew nonce j := ⟨_, rfl⟩
              have hset : (u32s (rowY cf 16 (13 + j))).toArray.setIfInBounds (13 + j) (.int .u32 (V x)) = (u32s (rowY cf 16 (13 + (j + 1)))).toArray := by
                rw [show 13 + (j + 1) = (13 + j) + 1 by omega, ← rowY_set cf 16 (13 + j) LCF.out (by omega), K4.out j hlt, ← hxx]; exact u32s_set _ _ _
              have hEs : 13 + j < (u32s (rowY cf 16 (13 + j))).toArray.size := by simp [u32s, rowY_length cf 16 (13 + j) LCF.out (by omega)]; omega
              have hsl := at_low (i := j) (by rw [← HD.out]; exact hI.d) NON.out (by omega)
              have hw := fun wx (hb : Below wr.heap.size wr wx) => WORD.out _ _ wx (hsl.below hb) (by rw [List.length_drop, NON.out]; omega)
              rw [lew_low nonce j, ← hxx] at hw
              have hk := hI.k
              obtain ⟨E, hE⟩ : ∃ E, E = (u32s (rowY cf 16 (13 + j))).toArray := ⟨_, rfl⟩
              rw [← hE] at hk hset hEs
              have KK := Lib.hid hk; have ST := Lib.hid hset; have ES := Lib.hid hEs; have CC := Lib.hid hI.c; have DD := Lib.hid hI.d; have RR := Lib.hid hI.r; have BB := Lib.hid hI.b; have HW := Lib.hid hw
              have hlt' : (j : Int) < 3 := by omega
              clear hk hset hEs hI hE hsl hw hxx
              go_wp2_with (first | (refine wpList_slice_arr (by rfl) 63 _ _ (by rfl) 12 5 Tryd.underlying63 infoB (w.heap.size + 1) 0 (4 * j) (by rfl) (by exact congrArg (Value.int .i64) (by omega)) (by omega) ?_; rw [Nat.zero_add]))
              refine (HW.out _ (Below.refl _ _)).mono ?_
              rintro e w' ⟨rfl, hb⟩
              have KK2 := Lib.hid (KK.out.below hb KK.out.lt); have CC2 := Lib.hid (CC.out.below hb CC.out.lt); have DD2 := Lib.hid (DD.out.below hb DD.out.lt); have RR2 := Lib.hid (RR.out.below hb RR.out.lt); have BB2 := Lib.hid (BB.out.trans (hb.mono BB.out.size))
              clear hb HW KK CC DD RR BB
              go_wp2_with (refine Mem.wpList_store_one (by rfl) 65 _ _ (by rfl) (by rfl) (w.heap.size + 1 + 1 + 1) (13 + j) (.int .u32 (V x)) (by rfl) (by rfl) (by rfl) infoU32 _ _ KK2.out ES.out ?_; intro w' hat' ho' hb'; have KK' := Lib.hid hat'; have CC' := Lib.hid (at_keep CC2.out ho' (by omega)); have DD' := Lib.hid (at_keep DD2.out ho' (by omega)); have RR' := Lib.hid (at_keep RR2.out ho' (by omega)); have BB' := Lib.hid (hb' _ _ BB2.out (by omega)); clear hat' ho' hb')
              go_roundw
              case rel => exact ⟨j + 1, by omega, by go_num, CC'.out, DD'.out, RR'.out, by rw [← ST.out]; exact KK'.out, BB'.out⟩
              case measure => simp [intOf]; omega
            · have hj3 : j = 3 := by omega
              have hge : ¬ (j : Int) < 3 := by omega
              rw [hj3, rowY_all cf 16 LCF.out] at hI
              obtain ⟨M, hM⟩ : ∃ M, M = cfOf key nonce n := ⟨_, rfl⟩
              have hk := hI.k
              rw [show (u32s cf).toArray = M by rw [hM, HCF.out]; rfl] at hk
              have hMs : M.size = 16 := by rw [hM]; exact cfOf_size _ _ _
              have hMo : M.all (·.oneCell') = true := by rw [hM]; exact u32s_one _
              have HM := Lib.hid hM; have MS := Lib.hid hMs; have MO := Lib.hid hMo; have KK := Lib.hid hk; have RR := Lib.hid hI.r; have BB := Lib.hid hI.b
              clear hM hMs hMo hk hI hlt hj hj3
              go_wp2_with (first | (refine wpList_load_all (by rfl) 101 _ (by rfl) (w.heap.size + 1 + 1 + 1) (by rfl) _ Tryd.underlying101 (by rfl) M _ KK.out (by rw [MS.out]; exact info16) ?_) | (refine wpList_store_all (by rfl) 101 _ _ (by rfl) (by rfl) (w.heap.size + 1 + 1) M (by rfl) (by rfl) (by rw [MS.out]; exact info16) _ _ RR.out (by rw [MS.out, XS.out]) MO.out ?_))
              try simp only [Exit.inBlock, Exit.then]
              refine ret_row (by rfl) (w.heap.size + 1 + 1) 101 M _ (by rfl) (RR.out.row M) Tryd.underlying101 (by rfl) (by rw [MS.out]; exact info16) ?_
              exact ⟨by rw [HM.out], below_row BB.out (by omega) M⟩
end Sha
end Go.Proofs.YtjadjidjfkahpaaDoor
namespace Go.Proofs.YtjadjidjfkahpaaDoor
namespace Mem
open Go.RowKit
/-- A row out of a row of rows, by value. -/
theorem wpList_index_rows {P : Program} {ops : Array Oper} {rest : List Oper} {op : Oper} {a : Act} {w : World} {Q : Exit → Act → World → Prop} (hgd : op.guard = none) (ty : TypeId) (x i : Operand) (ho : op.op = .index ty x i)
    (n : Nat) (e : TypeId) (hu : P.underlying ty = some (.array n e)) (de : TypeDesc) (he : P.underlying e = some de) (hde : de.isRow = true) (z : Nat) (hs : (P.info? e).map (·.size) = some z)
    (C : Array Value) (k : Nat) (hx : a.eval x = .agg C) (hi : a.eval i = .int .i64 (k : Int)) (hk : k < n) (R : Array Value) (hR : C.extract (k * z) (k * z + z) = R)
    (h : wpList P ops Q rest (a.put op.dst (.agg R)) w) : wpList P ops Q (op :: rest) a w := by
  refine wpList_plain hgd fun K hK => ?_
  have hagg : (isAgg e).run P w = .ok true w := by
    unfold isAgg
    rw [Sem.run_bind, run_underlying he w]
    cases de <;> simp_all
  cases hq : P.info? e with
  | none => simp [hq] at hs
  | some q =>
    have hs1 : q.size = z := by simpa [hq] using hs
    have hrun : (Instr.index ty (.agg C) (.int .i64 (k : Int))).run P w = .ok (.agg R) w := by
      simp [Instr.index, asIntOf, Sem.run_bind, run_underlying hu, sizeOf, typeInfo, hq, hs1, hk, part, hagg, hR]
    unfold Oper.wp execOp
    simp only [ho, hx, hi, Sem.run_bind, hrun, Result.andThen_ok, Sem.run_pure]
    exact hK _ _ h
end Mem
namespace Sha
open Go.RowKit Mem
theorem ints_get (l : List Nat) (i : Nat) (h : i < l.length) : (ints l)[i]? = some (.int .i64 ((l.getD i 0 : Nat) : Int)) := by simp [ints, h]
theorem ints_one (l : List Nat) : (ints l).toArray.all (·.oneCell') = true := by simp [ints, Value.oneCell']
theorem ints_length (l : List Nat) : (ints l).length = l.length := by simp [ints]
/-- Some words laid at some places, in order. -/
def qset (W : List (BitVec 32)) (p : List Nat) (L : List (BitVec 32)) : Nat → List (BitVec 32)
  | 0 => W
  | j + 1 => (qset W p L j).set (p.getD j 0) (L.getD j 0)
theorem qset_length (W : List (BitVec 32)) (p : List Nat) (L : List (BitVec 32)) : ∀ j, (qset W p L j).length = W.length
  | 0 => rfl
  | j + 1 => by rw [qset, List.length_set, qset_length W p L j]
def qin (W : List (BitVec 32)) (p : List Nat) : Q4 := ⟨W.getD (p.getD 0 0) 0, W.getD (p.getD 1 0) 0, W.getD (p.getD 2 0) 0, W.getD (p.getD 3 0) 0⟩
theorem qin_get (W : List (BitVec 32)) (p : List Nat) (j : Nat) (h : j < 4) : (qin W p).list.getD j 0 = W.getD (p.getD j 0) 0 := by
  have : j = 0 ∨ j = 1 ∨ j = 2 ∨ j = 3 := by omega
  rcases this with rfl | rfl | rfl | rfl <;> rfl
theorem qset_all (W : List (BitVec 32)) (p : List Nat) : qset W p (qr (qin W p)).list 4 = qpl W p := rfl
theorem qOf_get (q : Q4) (j : Nat) (h : j < 4) : (qOf q)[j]? = some (.int .u32 (V (q.list.getD j 0))) := by
  rw [qOf, List.getElem?_toArray]; exact u32s_get q.list j h
structure T1Inv (G : Array Value) (L : List (BitVec 32)) (w wr : World) : Prop where
  g : At wr w.heap.size G 117
  k : At wr (w.heap.size + 1) (u32s L).toArray 112
  b : Below w.heap.size w wr
structure T2Inv (G : Array Value) (W : List (BitVec 32)) (bw : Nat) (w wr : World) : Prop where
  g : At wr w.heap.size G 117
  a : At wr bw (u32s W).toArray 101
  o : But bw w wr
  k : ∀ B x, Below B x w → B ≤ bw → B ≤ w.heap.size → Below B x wr
set_option maxRecDepth 100000 in
set_option maxHeartbeats 2000000 in
/-- The literal: the words that it holds on to are turned at four places. -/
theorem clit_any (W : List (BitVec 32)) (p : List Nat) (bw : Nat) (w : World) (lW : W.length = 16) (lp : p.length = 4) (hp : ∀ j, j < 4 → p.getD j 0 < 16) (ha : At w bw (u32s W).toArray 101) :
    Calls Tryd.prog 78 #[.agg (ints p).toArray, .pointer (some ⟨bw, 0, none⟩)] w fun e w' => e = .returned (.tuple #[]) ∧ At w' bw (u32s (qpl W p)).toArray 101 ∧ But bw w w' ∧ (∀ B x, Below B x w → B ≤ bw → B ≤ w.heap.size → Below B x w') := by
  obtain ⟨X, hX⟩ : ∃ X, X = Z4 := ⟨_, rfl⟩
  have hx := zero4
  rw [← hX] at hx
  obtain ⟨G, hG⟩ : ∃ G, G = (ints p).toArray := ⟨_, rfl⟩
  have gj : ∀ j, j < 4 → G[j]? = some (.int .i64 ((p.getD j 0 : Nat) : Int)) := fun j hj => by rw [hG, List.getElem?_toArray]; exact ints_get p j (by omega)
  obtain ⟨F, hF⟩ : ∃ F, F = (qin W p).list := ⟨_, rfl⟩
  have lF : F.length = 4 := by rw [hF]; rfl
  have fj : ∀ j, j < 4 → F.getD j 0 = W.getD (p.getD j 0) 0 := by rw [hF]; exact qin_get W p
  rw [← hG]
  have hI : T1Inv G (rowY F 4 0) w ((w.alloc (.cells G 117)).alloc (.cells X 112)) := by
    refine ⟨(at_new w G _).alloc _, ?_, ((Below.refl _ _).alloc (Nat.le_refl _) _).alloc (by simp) _⟩
    have h := at_new (w.alloc (.cells G 117)) X 112
    have e : (u32s (rowY F 4 0)).toArray = X := by rw [hX]; simp [rowY, Z4, u32s]
    rw [e]
    simpa using h
  have hbw : bw < w.heap.size := ha.lt
  have HI := Lib.hid hI; have GJ := Lib.hid gj; have LF := Lib.hid lF; have FJ := Lib.hid fj; have HF := Lib.hid hF; have LW := Lib.hid lW; have HP := Lib.hid hp; have HA := Lib.hid ha; have BW := Lib.hid hbw
  have HGS : Hid (G.size = 4) := by show G.size = 4; rw [hG]; simp [ints, lp]
  clear hI gj lF fj hF lW hp ha hG hX lp hbw
  go_enter Tryd.func78, Tryd.ntmps78
  go_wp2_with (refine wpList_load_all (by rfl) 117 _ (by rfl) w.heap.size (by rfl) _ Tryd.underlying117 (by rfl) G _ HI.out.g (by rw [HGS.out]; kernel_rfl) ?_)
  clear hx
  generalize (w.alloc (.cells G 117)).alloc (.cells X 112) = w4 at *
  go_loopw [4, 5, 9] (fun _ _ i wr => ∃ j : Nat, j ≤ 4 ∧ i = .int .i64 j ∧ T1Inv G (rowY F 4 j) w wr) (fun _ _ i _ => 4 - (intOf i).toNat)
  case atStart => exact ⟨0, by omega, rfl, HI.out⟩
  case round =>
    clear HI
    obtain ⟨j, hj, rfl, hI⟩ := hrel
    by_cases hlt : j < 4
    · obtain ⟨q, hq⟩ : ∃ q, q = p.getD j 0 := ⟨_, rfl⟩
      have gq := GJ.out j hlt
      have q16 := HP.out j hlt
      have fx := FJ.out j hlt
      rw [← hq] at gq q16 fx
      obtain ⟨x, hxx⟩ : ∃ x, x = W.getD q 0 := ⟨_, rfl⟩
      rw [← hxx] at fx
      have cq : wr.cell? ⟨bw, q, none⟩ = some (.int .u32 (V x)) := by
        rw [(HA.out.below hI.b HA.out.lt).cell, List.getElem?_toArray, u32s_get W q (by rw [LW.out]; exact q16), hxx]
      have hset : (u32s (rowY F 4 j)).toArray.setIfInBounds j (.int .u32 (V x)) = (u32s (rowY F 4 (j + 1))).toArray := by
        rw [← rowY_set F 4 j LF.out (by omega), fx]; exact u32s_set _ _ _
      have hEs : j < (u32s (rowY F 4 j)).toArray.size := by simp [u32s, rowY_length F 4 j LF.out (by omega)]; omega
      have hk := hI.k
      obtain ⟨E, hE⟩ : ∃ E, E = (u32s (rowY F 4 j)).toArray := ⟨_, rfl⟩
      rw [← hE] at hk hset hEs
      have KK := Lib.hid hk; have ST := Lib.hid hset; have ES := Lib.hid hEs; have GG := Lib.hid hI.g; have BB := Lib.hid hI.b; have GQ := Lib.hid gq
      have hlt' : (j : Int) < 4 := by omega
      have q16' : (q : Int) < 16 := by omega
      clear hk hset hEs hI hE hq hxx fx gq
      go_wp2_with (first
        | (refine wpList_index_row (by rfl) 117 _ _ (by rfl) 4 3 Tryd.underlying117 _ Tryd.underlying3 (by rfl) (by kernel_rfl) G j (by rfl) (by rfl) hlt _ GQ.out ?_)
        | (refine Mem.wpList_store_one (by rfl) 65 _ _ (by rfl) (by rfl) (w.heap.size + 1) j (.int .u32 (V x)) (by rfl) (by rfl) (by rfl) infoU32 _ _ KK.out ES.out ?_; intro w' hat' ho' hb'; have KK' := Lib.hid hat'; have GG' := Lib.hid (at_keep GG.out ho' (by omega)); have BB' := Lib.hid (hb' _ _ BB.out (by omega)); clear hat' ho' hb'))
      go_roundw
      case rel => exact ⟨j + 1, by omega, by go_num, GG'.out, by rw [← ST.out]; exact KK'.out, BB'.out⟩
      case measure => simp [intOf]; omega
    · have hj4 : j = 4 := by omega
      have hge : ¬ (j : Int) < 4 := by omega
      rw [hj4, rowY_all F 4 LF.out] at hI
      have hk := hI.k
      rw [show (u32s F).toArray = qOf (qin W p) by rw [HF.out]; rfl] at hk
      obtain ⟨K, hK⟩ : ∃ K, K = qOf (qin W p) := ⟨_, rfl⟩
      obtain ⟨R, hR⟩ : ∃ R, R = qOf (qr (qin W p)) := ⟨_, rfl⟩
      obtain ⟨L, hLL⟩ : ∃ L, L = (qr (qin W p)).list := ⟨_, rfl⟩
      have hq := fun wx => quarter_any (qin W p) wx
      rw [← hK, ← hR] at hq
      rw [← hK] at hk
      have hKs : K.size = 4 := by rw [hK]; rfl
      have rj : ∀ j, j < 4 → R[j]? = some (.int .u32 (V (L.getD j 0))) := by rw [hR, hLL]; exact qOf_get _
      have hend : qset W p L 4 = qpl W p := by rw [hLL]; exact qset_all W p
      have KK := Lib.hid hk; have QU := Lib.hid hq; have KS := Lib.hid hKs; have RJ := Lib.hid rj; have EN := Lib.hid hend; have GG := Lib.hid hI.g; have BB := Lib.hid hI.b
      clear hI hj4 hlt hj hk hq hKs rj hend hK hR hLL HF LF FJ
      go_wp2_with (refine wpList_load_all (by rfl) 112 _ (by rfl) (w.heap.size + 1) (by rfl) _ Tryd.underlying112 (by rfl) K _ KK.out (by rw [KS.out]; exact infoQ) ?_)
      refine (QU.out _).mono ?_
      rintro e w' ⟨rfl, hb⟩
      have hI2 : T2Inv G (qset W p L 0) bw w w' := by
        have hbb := BB.out.trans (hb.mono BB.out.size)
        exact ⟨GG.out.below hb GG.out.lt, HA.out.below hbb HA.out.lt, (But.refl _ _).below hbb, fun B x h _ h2 => h.trans (hbb.mono h2)⟩
      have II := Lib.hid hI2
      clear hb hI2 QU KK GG BB KS
      go_wp2_with fail
      go_loopw [6, 7, 21] (fun _ _ i wr => ∃ j : Nat, j ≤ 4 ∧ i = .int .i64 j ∧ T2Inv G (qset W p L j) bw w wr) (fun _ _ i _ => 4 - (intOf i).toNat)
      case atStart => exact ⟨0, by omega, rfl, II.out⟩
      case round =>
        clear II
        obtain ⟨j, hj, rfl, hI⟩ := hrel
        by_cases hlt : j < 4
        · obtain ⟨q, hq⟩ : ∃ q, q = p.getD j 0 := ⟨_, rfl⟩
          have gq := GJ.out j hlt
          have q16 := HP.out j hlt
          have rx := RJ.out j hlt
          rw [← hq] at gq q16
          obtain ⟨x, hxx⟩ : ∃ x, x = L.getD j 0 := ⟨_, rfl⟩
          rw [← hxx] at rx
          have cg : wr.cell? ⟨w.heap.size, j, none⟩ = some (.int .i64 (q : Int)) := by rw [hI.g.cell, gq]
          have hset : (u32s (qset W p L j)).toArray.setIfInBounds q (.int .u32 (V x)) = (u32s (qset W p L (j + 1))).toArray := by
            rw [qset, ← hq, ← hxx]; exact u32s_set _ _ _
          have hEs : q < (u32s (qset W p L j)).toArray.size := by have := LW.out; simp [u32s, qset_length]; omega
          have hk := hI.a
          obtain ⟨E, hE⟩ : ∃ E, E = (u32s (qset W p L j)).toArray := ⟨_, rfl⟩
          rw [← hE] at hk hset hEs
          have KK := Lib.hid hk; have ST := Lib.hid hset; have ES := Lib.hid hEs; have GG := Lib.hid hI.g; have OO := Lib.hid hI.o; have BB := Lib.hid hI.k; have RX := Lib.hid rx
          have hlt' : (j : Int) < 4 := by omega
          have q16' : (q : Int) < 16 := by omega
          clear hk hset hEs hI hE hq hxx rx gq
          go_wp2_with (first
            | (refine wpList_index_row (by rfl) 112 _ _ (by rfl) 4 65 Tryd.underlying112 _ Tryd.underlying65 (by rfl) infoU32 R j (by rfl) (by rfl) hlt _ RX.out ?_)
            | (refine Mem.wpList_store_one (by rfl) 65 _ _ (by rfl) (by rfl) bw q (.int .u32 (V x)) (by rfl) (by rfl) (by rfl) infoU32 _ _ KK.out ES.out ?_; intro w' hat' ho' hb'; have KK' := Lib.hid hat'; have GG' := Lib.hid (at_keep GG.out ho' (by have := BW.out; omega)); have OO' := Lib.hid (OO.out.row (hb' bw _ (Below.refl _ _) (Nat.le_refl _)).size ho'); have BB' := Lib.hid (fun B y (h : Below B y w) (hB : B ≤ bw) (h2 : B ≤ w.heap.size) => hb' B y (BB.out B y h hB h2) hB); clear hat' ho' hb'))
          go_roundw
          case rel => exact ⟨j + 1, by omega, by go_num, GG'.out, by rw [← ST.out]; exact KK'.out, OO'.out, BB'.out⟩
          case measure => simp [intOf]; omega
        · have hj4 : j = 4 := by omega
          have hge : ¬ (j : Int) < 4 := by omega
          rw [hj4, EN.out] at hI
          have II := Lib.hid hI
          clear hI hj4 hlt hj
          go_wp2_with fail
          go_end0
          exact ⟨rfl, II.out.a, II.out.o, II.out.k⟩
end Sha
end Go.Proofs.YtjadjidjfkahpaaDoor
namespace Go.Proofs.YtjadjidjfkahpaaDoor
namespace Sha
open Go.RowKit Mem
theorem plc_row (m : Nat) (h : m < 8) : (ints plc.flatten).toArray.extract (m * 4) (m * 4 + 4) = (ints (plc.getD m [])).toArray ∧ (plc.getD m []).length = 4 ∧ ∀ j, j < 4 → (plc.getD m []).getD j 0 < 16 := by
  have : m = 0 ∨ m = 1 ∨ m = 2 ∨ m = 3 ∨ m = 4 ∨ m = 5 ∨ m = 6 ∨ m = 7 := by omega
  rcases this with rfl | rfl | rfl | rfl | rfl | rfl | rfl | rfl <;> exact ⟨rfl, rfl, by decide⟩
def Zi4 : Array Value := #[.int .i64 0, .int .i64 0, .int .i64 0, .int .i64 0]
theorem zeroI4 (w : World) : (zeroValue 117).run Tryd.prog w = .ok (.agg Zi4) w := by kernel_rfl
theorem infoI4 : (Tryd.prog.info? 117).map (·.size) = some 4 := by kernel_rfl
theorem infoI32 : (Tryd.prog.info? 119).map (·.size) = some 32 := by kernel_rfl
structure RInv (X : Array Value) (L : List (BitVec 32)) (w wr : World) : Prop where
  a : At wr w.heap.size (u32s L).toArray 101
  r : At wr (w.heap.size + 1) X 101
  b : Below w.heap.size w wr
def rdOf (W : List (BitVec 32)) : Array Value := (u32s (all8 W 10)).toArray
theorem rdOf_size (W : List (BitVec 32)) (h : W.length = 16) : (rdOf W).size = 16 := by simp [rdOf, u32s, all8_length, h]
set_option maxRecDepth 100000 in
set_option maxHeartbeats 2000000 in
theorem turnWords_any (W : List (BitVec 32)) (lW : W.length = 16) (w : World) (hL : CTabs w) :
    Calls Tryd.prog 67 #[.agg (u32s W).toArray] w fun e w' => e = .returned (.agg (rdOf W)) ∧ Below w.heap.size w w' := by
  have hmf : ∀ (fn : Fn) (first cap : Array Value) (w : World), (Instr.makeFunc fn first cap).run Tryd.prog w = .ok (.func fn first cap) w := fun _ _ _ _ => rfl
  obtain ⟨X, hX⟩ : ∃ X, X = Z16 := ⟨_, rfl⟩
  have hx := zero16
  rw [← hX] at hx
  have hXs : X.size = 16 := by rw [hX]; simp [Z16, u32s]
  obtain ⟨Y, hY⟩ : ∃ Y, Y = Zi4 := ⟨_, rfl⟩
  have hy := zeroI4
  rw [← hY] at hy
  have hYs : Y.size = 4 := by rw [hY]; rfl
  obtain ⟨C, hC⟩ : ∃ C, C = (u32s W).toArray := ⟨_, rfl⟩
  rw [← hC]
  have hI : RInv X (all8 W 0) w ((w.alloc (.cells C 101)).alloc (.cells X 101)) := by
    refine ⟨by rw [all8, ← hC]; exact (at_new w C _).alloc _, ?_, ((Below.refl _ _).alloc (Nat.le_refl _) _).alloc (by simp) _⟩
    have h := at_new (w.alloc (.cells C 101)) X 101
    simpa using h
  obtain ⟨PL, hPL⟩ : ∃ PL, PL = ints plc.flatten := ⟨_, rfl⟩
  have pt := fun wx (hb : Below w.heap.size w wx) => (hL.p.below hb hL.p.lt).c
  have pr := fun m (h : m < 8) => (plc_row m h).1
  have ps : (Tryd.prog.info? 119).map (·.size) = some PL.length := by rw [hPL]; exact infoI32
  rw [← hPL] at pt pr
  have HI := Lib.hid hI; have XS := Lib.hid hXs; have YS := Lib.hid hYs; have PT := Lib.hid pt; have PR := Lib.hid pr; have PS := Lib.hid ps; have LW := Lib.hid lW
  clear hI hXs hYs hX hY hC hPL pt pr ps lW hL
  go_enter Tryd.func67, Tryd.ntmps67
  go_wp2_with fail
  generalize (w.alloc (.cells C 101)).alloc (.cells X 101) = w4 at *
  go_loopw [5, 7] (fun _ i wr => ∃ r : Nat, r ≤ 10 ∧ i = .int .i64 r ∧ RInv X (all8 W r) w wr) (fun _ i _ => 10 - (intOf i).toNat)
  case atStart => exact ⟨0, by omega, rfl, HI.out⟩
  case round =>
    clear HI
    obtain ⟨r, hr, rfl, hI⟩ := hrel
    by_cases hlt : r < 10
    · obtain ⟨L, hLL⟩ : ∃ L, L = all8 W r := ⟨_, rfl⟩
      have hnext : some8 L 8 = all8 W (r + 1) := by rw [hLL]; rfl
      have lL : L.length = 16 := by rw [hLL, all8_length]; exact LW.out
      rw [← hLL] at hI
      have II := Lib.hid hI; have NX := Lib.hid hnext; have LL := Lib.hid lL
      have hlt' : (r : Int) < 10 := by omega
      clear hI hnext lL hLL
      go_wp2_with (refine wpList_load_mid (by rfl) 119 _ (by rfl) 3 0 (by rfl) PL _ (PT.out _ II.out.b) Tryd.underlying119 (by rfl) PS.out ?_)
      obtain ⟨wo, rfl⟩ : ∃ wo : World, wo = wr := ⟨_, rfl⟩
      go_loopw [5, 10] (fun _ i wr => ∃ m : Nat, m ≤ 8 ∧ i = .int .i64 m ∧ RInv X (some8 L m) w wr) (fun _ i _ => 8 - (intOf i).toNat)
      case atStart => exact ⟨0, by omega, rfl, II.out⟩
      case round =>
        clear II
        obtain ⟨m, hm, rfl, hI⟩ := hrel
        by_cases hlt2 : m < 8
        · obtain ⟨_, p2, p3⟩ := plc_row m hlt2
          have p1 := PR.out m hlt2
          have hnx : some8 L (m + 1) = qpl (some8 L m) (plc.getD m []) := some8_next L m hlt2
          have l8 : (some8 L m).length = 16 := by rw [some8_length L m (by omega)]; exact LL.out
          have hli := fun wx (h : At wx w.heap.size (u32s (some8 L m)).toArray 101) => clit_any (some8 L m) (plc.getD m []) w.heap.size wx l8 p2 p3 h
          rw [← hnx] at hli
          obtain ⟨G, hG⟩ : ∃ G, G = (ints (plc.getD m [])).toArray := ⟨_, rfl⟩
          have gs : G.size = 4 := by rw [hG, List.size_toArray, ints_length]; exact p2
          have go : G.all (·.oneCell') = true := by rw [hG]; exact ints_one _
          rw [← hG] at p1 hli
          have LIT := Lib.hid hli; have P1 := Lib.hid p1; have GS := Lib.hid gs; have GO := Lib.hid go; have II := Lib.hid hI
          have hlt3 : (m : Int) < 8 := by omega
          clear hli p1 p2 p3 gs go hG hI hnx l8
          go_wp2_with (first
            | (refine wpList_index_rows (by rfl) 119 _ _ (by rfl) 8 117 Tryd.underlying119 _ Tryd.underlying117 (by rfl) 4 infoI4 PL.toArray m (by rfl) (by rfl) hlt2 G P1.out ?_)
            | (refine wpList_store_new (by rfl) 117 _ _ (by rfl) (by rfl) G _ _ (by rfl) (by rfl) (by rw [GS.out]; exact infoI4) (by rw [GS.out, YS.out]) GO.out ?_)
            | (refine wpList_load_all (by rfl) 117 _ (by rfl) wr.heap.size (by rfl) _ Tryd.underlying117 (by rfl) G _ (at_new wr G _) (by rw [GS.out]; exact infoI4) ?_))
          refine (LIT.out _ (II.out.a.alloc _)).mono ?_
          rintro e w' ⟨rfl, ha2, hb2, hk2⟩
          have A2 := Lib.hid ha2; have R2 := Lib.hid ((II.out.r.alloc (.cells G 117)).but hb2 (by omega)); have B2 := Lib.hid (hk2 _ _ (II.out.b.alloc II.out.b.size (.cells G 117)) (Nat.le_refl _) (by have := II.out.b.size; simp; omega))
          clear ha2 hb2 hk2 LIT II
          go_wp2_with fail
          go_roundw
          case rel => exact ⟨m + 1, by omega, by go_num, A2.out, R2.out, B2.out⟩
          case measure => simp [intOf]; omega
        · have hm8 : m = 8 := by omega
          have hge : ¬ (m : Int) < 8 := by omega
          rw [hm8, NX.out] at hI
          have II := Lib.hid hI
          clear hI hm8 hlt2 hm
          go_wp2_with fail
          go_roundw
          case rel => exact ⟨r + 1, by omega, by go_num, II.out⟩
          case measure => simp [intOf]; omega
    · have hr10 : r = 10 := by omega
      have hge : ¬ (r : Int) < 10 := by omega
      rw [hr10] at hI
      obtain ⟨M, hM⟩ : ∃ M, M = rdOf W := ⟨_, rfl⟩
      have hk := hI.a
      rw [show (u32s (all8 W 10)).toArray = M by rw [hM]; rfl] at hk
      have hMs : M.size = 16 := by rw [hM]; exact rdOf_size _ LW.out
      have hMo : M.all (·.oneCell') = true := by rw [hM]; exact u32s_one _
      have HM := Lib.hid hM; have MS := Lib.hid hMs; have MO := Lib.hid hMo; have KK := Lib.hid hk; have RR := Lib.hid hI.r; have BB := Lib.hid hI.b
      clear hM hMs hMo hk hI hlt hr hr10
      go_wp2_with (first | (refine wpList_load_all (by rfl) 101 _ (by rfl) w.heap.size (by rfl) _ Tryd.underlying101 (by rfl) M _ KK.out (by rw [MS.out]; exact info16) ?_) | (refine wpList_store_all (by rfl) 101 _ _ (by rfl) (by rfl) (w.heap.size + 1) M (by rfl) (by rfl) (by rw [MS.out]; exact info16) _ _ RR.out (by rw [MS.out, XS.out]) MO.out ?_))
      try simp only [Exit.inBlock, Exit.then]
      refine ret_row (by rfl) (w.heap.size + 1) 101 M _ (by rfl) (RR.out.row M) Tryd.underlying101 (by rfl) (by rw [MS.out]; exact info16) ?_
      exact ⟨by rw [HM.out], below_row BB.out (by omega) M⟩
end Sha
end Go.Proofs.YtjadjidjfkahpaaDoor
namespace Go.Proofs.YtjadjidjfkahpaaDoor
namespace Mem
open Go.RowKit
/-- An array in memory cut from a low bound on, in a plan. -/
theorem plan_slice_arr {P : Program} {ops : Array Oper} {Q : Exit → Act → World → Prop} {S : World → Prop} {w : World} {a : Act} {o : Oper} {i : Nat} {r : Plan} (ty : TypeId) (x ix : Operand) (n : Nat) (elem : TypeId) (b c k : Nat) (ho : ops.toList[i]? = some o) (hw : Region.wanted o (yielded ops a.tmps) = true) (hop : o.op = .slice ty x (some ix) none none) (hx : a.eval x = .pointer (some ⟨b, c, none⟩))
    (hi : a.eval ix = .int .i64 (k : Int)) (hk : k < n) (hu : P.underlying ty = some (.array n elem)) (hs : (P.info? elem).map (·.size) = some 1) (h : wpPlan P ops Q S r (a.put o.dst (.slice (some ⟨b, c + k, none⟩) (n - k) (n - k))) w) : wpPlan P ops Q S (.take i r) a w :=
  plan_take _ ho hw (fun w' _ => by
    cases hq : P.info? elem with
    | none => simp [hq] at hs
    | some q =>
      have hs1 : q.size = 1 := by simpa [hq] using hs
      have hne : ¬ n = k := by omega
      have hle : (k : Int) ≤ (n : Int) := by omega
      have hat : (Instr.sliceAt ty (.pointer (some ⟨b, c, none⟩)) (some (.int .i64 (k : Int))) none none).run P w' = .ok (.slice (some ⟨b, c + k, none⟩) (n - k) (n - k)) w' := by
        simp [Instr.sliceAt, Instr.sureAddr, Instr.sliceBounds, Instr.sliceBound, asIntOf, Sem.run_bind, run_underlying hu, sizeOf, typeInfo, hq, hs1, hne, Addr.add_mid]
        omega
      unfold execOp
      simp only [hop, hx, hi, Option.map_some, Option.map_none, Sem.run_bind, hat, Result.andThen_ok, Sem.run_pure]) h
end Mem
namespace Sha
open Go.RowKit Mem
def CZ64 : Array Value := (u8s (List.replicate 64 0)).toArray
theorem czero64 (w : World) : (zeroValue 67).run Tryd.prog w = .ok (.agg CZ64) w := by kernel_rfl
theorem cinfo64 : (Tryd.prog.info? 67).map (·.size) = some 64 := by kernel_rfl
theorem info32b : (Tryd.prog.info? 24).map (·.size) = some 32 := by kernel_rfl
def cbOf (key nonce : List (BitVec 8)) (n : BitVec 32) : Array Value := (u8s (cblk key nonce n)).toArray
theorem cbOf_size (key nonce : List (BitVec 8)) (n : BitVec 32) : (cbOf key nonce n).size = 64 := by simp [cbOf, u8s, cblk_length]
theorem cbOf_one (key nonce : List (BitVec 8)) (n : BitVec 32) : (cbOf key nonce n).all (·.oneCell') = true := u8s_one _
theorem cblk_word (key nonce : List (BitVec 8)) (n : BitVec 32) (i : Nat) (h : i < 16) (j : Nat) (hj : j < 4) : (cblk key nonce n).getD (4 * i + j) 0 = wb ((all8 (cfirst key nonce n) 10).getD i 0 + (cfirst key nonce n).getD i 0) (8 * j) := by
  have e1 : (cblk key nonce n).getD (4 * i + j) 0 = cByte (cwords key nonce n) (4 * i + j) := by
    unfold cblk
    simp [List.getD_eq_getElem?_getD, show 4 * i + j < 64 by omega]
  rw [e1, cByte, show (4 * i + j) / 4 = i by omega, show (4 * i + j) % 4 = j by omega, cwords, adds_getD _ _ (by rw [all8_length]) i (by rw [all8_length, cfirst_length]; exact h)]
structure BInv (X CF : Array Value) (L : List (BitVec 8)) (b7 : Nat) (w wr : World) : Prop where
  r : At wr (w.heap.size + 1 + 1) X 67
  f : At wr b7 CF 101
  k : At wr (b7 + 1) (u8s L).toArray 67
  b : Below w.heap.size w wr
set_option maxRecDepth 100000 in
set_option maxHeartbeats 2000000 in
theorem blk_any (key nonce : List (BitVec 8)) (n : BitVec 32) (lk : key.length = 32) (ln : nonce.length = 12) (w : World) (hL : CTabs w) :
    Calls Tryd.prog 57 #[.agg (u8s key).toArray, .agg (u8s nonce).toArray, .int .u32 (V n)] w fun o w' => o = .returned (.agg (cbOf key nonce n)) ∧ Below w.heap.size w w' := by
  obtain ⟨X, hX⟩ : ∃ X, X = CZ64 := ⟨_, rfl⟩
  have hx := czero64
  rw [← hX] at hx
  have hXs : X.size = 64 := by rw [hX]; simp [CZ64, u8s]
  obtain ⟨Y, hY⟩ : ∃ Y, Y = Z16 := ⟨_, rfl⟩
  have hy := zero16
  rw [← hY] at hy
  have hYs : Y.size = 16 := by rw [hY]; simp [Z16, u32s]
  have hla := fun wx (h : Below w.heap.size w wx) => layWords_any key nonce n lk ln wx (hL.below h (Nat.le_refl _))
  have hro := fun wx (h : Below w.heap.size w wx) => turnWords_any (cfirst key nonce n) (cfirst_length key nonce n) wx (hL.below h (Nat.le_refl _))
  have hcb := cblk_word key nonce n
  have lcb := cblk_length key nonce n
  obtain ⟨C, hC⟩ : ∃ C, C = (u8s key).toArray := ⟨_, rfl⟩
  obtain ⟨D, hD⟩ : ∃ D, D = (u8s nonce).toArray := ⟨_, rfl⟩
  obtain ⟨CF, hCF⟩ : ∃ CF, CF = cfOf key nonce n := ⟨_, rfl⟩
  obtain ⟨R, hR⟩ : ∃ R, R = rdOf (cfirst key nonce n) := ⟨_, rfl⟩
  obtain ⟨cb, hcbb⟩ : ∃ cb, cb = cblk key nonce n := ⟨_, rfl⟩
  have hCs : C.size = 32 := by rw [hC]; simp [u8s, lk]
  have hDs : D.size = 12 := by rw [hD]; simp [u8s, ln]
  have hCFs : CF.size = 16 := by rw [hCF]; exact cfOf_size _ _ _
  have hCFo : CF.all (·.oneCell') = true := by rw [hCF]; exact u32s_one _
  have fj : ∀ j, j < 16 → CF[j]? = some (.int .u32 (V ((cfirst key nonce n).getD j 0))) := fun j hj => by rw [hCF, cfOf, List.getElem?_toArray]; exact u32s_get _ j (by rw [cfirst_length]; exact hj)
  have rj : ∀ j, j < 16 → R[j]? = some (.int .u32 (V ((all8 (cfirst key nonce n) 10).getD j 0))) := fun j hj => by rw [hR, rdOf, List.getElem?_toArray]; exact u32s_get _ j (by rw [all8_length, cfirst_length]; exact hj)
  rw [show (u32s (cfirst key nonce n)).toArray = CF from hCF.symm, ← hR] at hro
  rw [← hC, ← hD, ← hCF] at hla
  rw [← hcbb] at hcb lcb
  rw [← hC, ← hD]
  generalize cfirst key nonce n = cf at *
  generalize all8 cf 10 = rd at *
  have cC : At (((w.alloc (.cells C 24)).alloc (.cells D 63)).alloc (.cells X 67)) w.heap.size C 24 := ((at_new w C _).alloc _).alloc _
  have cD : At (((w.alloc (.cells C 24)).alloc (.cells D 63)).alloc (.cells X 67)) (w.heap.size + 1) D 63 := by
    have h := (at_new (w.alloc (.cells C 24)) D 63).alloc (.cells X 67)
    simpa using h
  have cX : At (((w.alloc (.cells C 24)).alloc (.cells D 63)).alloc (.cells X 67)) (w.heap.size + 1 + 1) X 67 := by
    have h := at_new ((w.alloc (.cells C 24)).alloc (.cells D 63)) X 67
    simpa using h
  have cB : Below w.heap.size w (((w.alloc (.cells C 24)).alloc (.cells D 63)).alloc (.cells X 67)) := (((Below.refl _ _).alloc (Nat.le_refl _) _).alloc (by simp) _).alloc (by simp; omega) _
  have hX0 : (u8s (rowZ cb 64 0)).toArray = X := by rw [hX]; simp [rowZ, CZ64]
  have LA := Lib.hid hla; have RO := Lib.hid hro; have CB := Lib.hid hcb; have LCB := Lib.hid lcb; have CS := Lib.hid hCs; have DS := Lib.hid hDs; have FS := Lib.hid hCFs; have FO := Lib.hid hCFo; have XS := Lib.hid hXs; have YS := Lib.hid hYs
  have FJ := Lib.hid fj; have RJ := Lib.hid rj; have AC := Lib.hid cC; have AD := Lib.hid cD; have AX := Lib.hid cX; have AB := Lib.hid cB; have HCB := Lib.hid hcbb; have X0 := Lib.hid hX0
  clear hla hro hcb lcb hCs hDs hCFs hCFo hXs hYs fj rj cC cD cX cB hcbb hC hD hCF hR hX hY hX0 hL lk ln
  go_enter Tryd.func57, Tryd.ntmps57
  go_wp2_with (first
    | (refine wpList_load_all (by rfl) 24 _ (by rfl) w.heap.size (by rfl) _ Tryd.underlying24 (by rfl) C _ AC.out (by rw [CS.out]; exact info32b) ?_)
    | (refine wpList_load_all (by rfl) 63 _ (by rfl) (w.heap.size + 1) (by rfl) _ Tryd.underlying63 (by rfl) D _ AD.out (by rw [DS.out]; exact info12) ?_))
  refine (LA.out _ AB.out).mono ?_
  rintro e w1 ⟨rfl, hb1⟩
  have X1 := Lib.hid (AX.out.below hb1 AX.out.lt); have B1 := Lib.hid (AB.out.trans (hb1.mono AB.out.size))
  have S1 : Hid (w.heap.size + 1 + 1 + 1 ≤ w1.heap.size) := by have h := hb1.size; simp at h; show w.heap.size + 1 + 1 + 1 ≤ w1.heap.size; omega
  clear hb1 AC AD AX AB LA CS DS
  have f2 : At ((w1.alloc (.cells CF 101)).alloc (.cells X 67)) w1.heap.size CF 101 := (at_new w1 CF _).alloc _
  have b2 : Below w.heap.size w ((w1.alloc (.cells CF 101)).alloc (.cells X 67)) := (B1.out.alloc B1.out.size _).alloc (by have := B1.out.size; simp; omega) _
  have k2 : At ((w1.alloc (.cells CF 101)).alloc (.cells X 67)) (w1.heap.size + 1) X 67 := by
    have h := at_new (w1.alloc (.cells CF 101)) X 67
    simpa using h
  have r2 : At ((w1.alloc (.cells CF 101)).alloc (.cells X 67)) (w.heap.size + 1 + 1) X 67 := (X1.out.alloc _).alloc _
  have F2 := Lib.hid f2; have B2 := Lib.hid b2; have K2 := Lib.hid k2; have R2 := Lib.hid r2
  clear f2 b2 k2 r2 X1 B1
  go_wp2_with (first
    | (refine wpList_store_new (by rfl) 101 _ _ (by rfl) (by rfl) CF _ _ (by rfl) (by rfl) (by rw [FS.out]; exact info16) (by rw [FS.out, YS.out]) FO.out ?_)
    | (refine wpList_load_all (by rfl) 101 _ (by rfl) w1.heap.size (by rfl) _ Tryd.underlying101 (by rfl) CF _ F2.out (by rw [FS.out]; exact info16) ?_))
  refine (RO.out _ B2.out).mono ?_
  rintro e w3 ⟨rfl, hb3⟩
  obtain ⟨b7, hb7⟩ : ∃ b7, b7 = w1.heap.size := ⟨_, rfl⟩
  have I3 : Hid (BInv X CF (rowZ cb 64 (4 * 0)) b7 w w3) := by
    refine ⟨R2.out.below hb3 R2.out.lt, ?_, ?_, B2.out.trans (hb3.mono B2.out.size)⟩
    · rw [hb7]; exact F2.out.below hb3 F2.out.lt
    · rw [hb7, X0.out]; exact K2.out.below hb3 K2.out.lt
  rw [← hb7] at S1 ⊢
  clear hb3 F2 B2 K2 R2 RO hb7 hx hy
  go_wp2_with fail
  go_loopw [9, 10, 17] (fun _ _ i wr => ∃ j : Nat, j ≤ 16 ∧ i = .int .i64 j ∧ BInv X CF (rowZ cb 64 (4 * j)) b7 w wr) (fun _ _ i _ => 16 - (intOf i).toNat)
  case atStart => exact ⟨0, by omega, rfl, I3.out⟩
  case round =>
    clear I3
    obtain ⟨j, hj, rfl, hI⟩ := hrel
    by_cases hlt : j < 16
    · obtain ⟨x, hxx⟩ : ∃ x, x = rd.getD j 0 := ⟨_, rfl⟩
      obtain ⟨y, hyy⟩ : ∃ y, y = cf.getD j 0 := ⟨_, rfl⟩
      have rx := RJ.out j hlt
      have fy := FJ.out j hlt
      have cw := CB.out j hlt
      rw [← hxx] at rx; rw [← hyy] at fy; rw [← hxx, ← hyy] at cw
      have lz : (rowZ cb 64 (4 * j)).length = 64 := rowZ_length cb 64 (4 * j) LCB.out (by omega)
      have hpu := fun wx (h : At wx (b7 + 1) (u8s (rowZ cb 64 (4 * j))).toArray 67) => putWord_any (x + y) (rowZ cb 64 (4 * j)) (b7 + 1) (0 + 4 * j) (64 - 4 * j) (64 - 4 * j) 67 wx h (by omega) (by rw [lz]; omega)
      rw [show 0 + 4 * j = 4 * j by omega, put4_row cb 64 (4 * j) (x + y) LCB.out (by omega) cw 4 (by decide), show 4 * j + 4 = 4 * (j + 1) by omega] at hpu
      have RX := Lib.hid rx; have FY := Lib.hid fy; have PU := Lib.hid hpu; have II := Lib.hid hI
      have hlt' : (j : Int) < 16 := by omega
      clear rx fy cw lz hpu hI hxx hyy
      go_wp2_with (refine wpList_index_row (by rfl) 101 _ _ (by rfl) 16 65 Tryd.underlying101 _ Tryd.underlying65 (by rfl) infoU32 R j (by rfl) (by rfl) hlt _ RX.out ?_)
      refine wp_region_plan_in (fun w' => At w' b7 CF 101) (.take 0 (.take 1 (.take 2 (.take 3 (.take 4 (.take 5 (.take 6 (.take 7 (.sole 8 .done))))))))) (by kernel_rfl) (by kernel_rfl) (by kernel_rfl) II.out.f ?_
      (first | (refine plan_move _ _ (by rfl) (by rfl) (.inl (by rfl)) (by first | (with_reducible exact Mem.ev_const _ _) | (with_reducible exact Mem.ev_zero _ _ _) | (with_reducible (apply Eq.trans (Mem.ev_tmp _ _ _)); simp only [List.getD_cons_succ, List.getD_cons_zero] <;> rfl)) ?_) | (refine plan_move _ _ (by rfl) (by rfl) (.inr (by rfl)) (by first | (with_reducible exact Mem.ev_const _ _) | (with_reducible exact Mem.ev_zero _ _ _) | (with_reducible (apply Eq.trans (Mem.ev_tmp _ _ _)); simp only [List.getD_cons_succ, List.getD_cons_zero] <;> rfl)) ?_) | (refine plan_pick_t _ _ _ _ (by rfl) (by rfl) (by rfl) (by first | (with_reducible exact Mem.ev_const _ _) | (with_reducible exact Mem.ev_zero _ _ _) | (with_reducible (apply Eq.trans (Mem.ev_tmp _ _ _)); simp only [List.getD_cons_succ, List.getD_cons_zero] <;> rfl)) (by first | (with_reducible exact Mem.ev_const _ _) | (with_reducible exact Mem.ev_zero _ _ _) | (with_reducible (apply Eq.trans (Mem.ev_tmp _ _ _)); simp only [List.getD_cons_succ, List.getD_cons_zero] <;> rfl)) ?_) | (refine plan_pick_f _ _ _ _ (by rfl) (by rfl) (by rfl) (by first | (with_reducible exact Mem.ev_const _ _) | (with_reducible exact Mem.ev_zero _ _ _) | (with_reducible (apply Eq.trans (Mem.ev_tmp _ _ _)); simp only [List.getD_cons_succ, List.getD_cons_zero] <;> rfl)) (by first | (with_reducible exact Mem.ev_const _ _) | (with_reducible exact Mem.ev_zero _ _ _) | (with_reducible (apply Eq.trans (Mem.ev_tmp _ _ _)); simp only [List.getD_cons_succ, List.getD_cons_zero] <;> rfl)) ?_))
      (simp only [Act.put, List.setIfInBounds_toArray, List.set_cons_zero, List.set_cons_succ])
      refine plan_bin _ _ _ _ _ _ _ _ (by rfl) (by rfl) (by rfl) (by first | (with_reducible exact Mem.ev_const _ _) | (with_reducible exact Mem.ev_zero _ _ _) | (with_reducible (apply Eq.trans (Mem.ev_tmp _ _ _)); simp only [List.getD_cons_succ, List.getD_cons_zero] <;> rfl)) (by first | (with_reducible exact Mem.ev_const _ _) | (with_reducible exact Mem.ev_zero _ _ _) | (with_reducible (apply Eq.trans (Mem.ev_tmp _ _ _)); simp only [List.getD_cons_succ, List.getD_cons_zero] <;> rfl)) (fun wx => o_imul _ _ _ _ 4 (j : Int) ((4 * j : Nat) : Int) (by omega) (by omega) (by omega) wx) ?_
      (simp only [Act.put, List.setIfInBounds_toArray, List.set_cons_zero, List.set_cons_succ])
      refine plan_slice_arr 67 _ _ 64 5 (b7 + 1) 0 (4 * j) (by rfl) (by rfl) (by rfl) (by first | (with_reducible exact Mem.ev_const _ _) | (with_reducible exact Mem.ev_zero _ _ _) | (with_reducible (apply Eq.trans (Mem.ev_tmp _ _ _)); simp only [List.getD_cons_succ, List.getD_cons_zero] <;> rfl)) (by first | (with_reducible exact Mem.ev_const _ _) | (with_reducible exact Mem.ev_zero _ _ _) | (with_reducible (apply Eq.trans (Mem.ev_tmp _ _ _)); simp only [List.getD_cons_succ, List.getD_cons_zero] <;> rfl)) (by omega) Tryd.underlying67 infoB ?_
      rw [Nat.zero_add]
      (simp only [Act.put, List.setIfInBounds_toArray, List.set_cons_zero, List.set_cons_succ])
      (first | (refine plan_move _ _ (by rfl) (by rfl) (.inl (by rfl)) (by first | (with_reducible exact Mem.ev_const _ _) | (with_reducible exact Mem.ev_zero _ _ _) | (with_reducible (apply Eq.trans (Mem.ev_tmp _ _ _)); simp only [List.getD_cons_succ, List.getD_cons_zero] <;> rfl)) ?_) | (refine plan_move _ _ (by rfl) (by rfl) (.inr (by rfl)) (by first | (with_reducible exact Mem.ev_const _ _) | (with_reducible exact Mem.ev_zero _ _ _) | (with_reducible (apply Eq.trans (Mem.ev_tmp _ _ _)); simp only [List.getD_cons_succ, List.getD_cons_zero] <;> rfl)) ?_) | (refine plan_pick_t _ _ _ _ (by rfl) (by rfl) (by rfl) (by first | (with_reducible exact Mem.ev_const _ _) | (with_reducible exact Mem.ev_zero _ _ _) | (with_reducible (apply Eq.trans (Mem.ev_tmp _ _ _)); simp only [List.getD_cons_succ, List.getD_cons_zero] <;> rfl)) (by first | (with_reducible exact Mem.ev_const _ _) | (with_reducible exact Mem.ev_zero _ _ _) | (with_reducible (apply Eq.trans (Mem.ev_tmp _ _ _)); simp only [List.getD_cons_succ, List.getD_cons_zero] <;> rfl)) ?_) | (refine plan_pick_f _ _ _ _ (by rfl) (by rfl) (by rfl) (by first | (with_reducible exact Mem.ev_const _ _) | (with_reducible exact Mem.ev_zero _ _ _) | (with_reducible (apply Eq.trans (Mem.ev_tmp _ _ _)); simp only [List.getD_cons_succ, List.getD_cons_zero] <;> rfl)) (by first | (with_reducible exact Mem.ev_const _ _) | (with_reducible exact Mem.ev_zero _ _ _) | (with_reducible (apply Eq.trans (Mem.ev_tmp _ _ _)); simp only [List.getD_cons_succ, List.getD_cons_zero] <;> rfl)) ?_))
      (simp only [Act.put, List.setIfInBounds_toArray, List.set_cons_zero, List.set_cons_succ])
      (first | (refine plan_move _ _ (by rfl) (by rfl) (.inl (by rfl)) (by first | (with_reducible exact Mem.ev_const _ _) | (with_reducible exact Mem.ev_zero _ _ _) | (with_reducible (apply Eq.trans (Mem.ev_tmp _ _ _)); simp only [List.getD_cons_succ, List.getD_cons_zero] <;> rfl)) ?_) | (refine plan_move _ _ (by rfl) (by rfl) (.inr (by rfl)) (by first | (with_reducible exact Mem.ev_const _ _) | (with_reducible exact Mem.ev_zero _ _ _) | (with_reducible (apply Eq.trans (Mem.ev_tmp _ _ _)); simp only [List.getD_cons_succ, List.getD_cons_zero] <;> rfl)) ?_) | (refine plan_pick_t _ _ _ _ (by rfl) (by rfl) (by rfl) (by first | (with_reducible exact Mem.ev_const _ _) | (with_reducible exact Mem.ev_zero _ _ _) | (with_reducible (apply Eq.trans (Mem.ev_tmp _ _ _)); simp only [List.getD_cons_succ, List.getD_cons_zero] <;> rfl)) (by first | (with_reducible exact Mem.ev_const _ _) | (with_reducible exact Mem.ev_zero _ _ _) | (with_reducible (apply Eq.trans (Mem.ev_tmp _ _ _)); simp only [List.getD_cons_succ, List.getD_cons_zero] <;> rfl)) ?_) | (refine plan_pick_f _ _ _ _ (by rfl) (by rfl) (by rfl) (by first | (with_reducible exact Mem.ev_const _ _) | (with_reducible exact Mem.ev_zero _ _ _) | (with_reducible (apply Eq.trans (Mem.ev_tmp _ _ _)); simp only [List.getD_cons_succ, List.getD_cons_zero] <;> rfl)) (by first | (with_reducible exact Mem.ev_const _ _) | (with_reducible exact Mem.ev_zero _ _ _) | (with_reducible (apply Eq.trans (Mem.ev_tmp _ _ _)); simp only [List.getD_cons_succ, List.getD_cons_zero] <;> rfl)) ?_))
      (simp only [Act.put, List.setIfInBounds_toArray, List.set_cons_zero, List.set_cons_succ])
      refine plan_index_arr1 101 65 16 _ _ b7 j (by rfl) (by rfl) (by rfl) (by first | (with_reducible exact Mem.ev_const _ _) | (with_reducible exact Mem.ev_zero _ _ _) | (with_reducible (apply Eq.trans (Mem.ev_tmp _ _ _)); simp only [List.getD_cons_succ, List.getD_cons_zero] <;> rfl)) (by first | (with_reducible exact Mem.ev_const _ _) | (with_reducible exact Mem.ev_zero _ _ _) | (with_reducible (apply Eq.trans (Mem.ev_tmp _ _ _)); simp only [List.getD_cons_succ, List.getD_cons_zero] <;> rfl)) (by omega) Tryd.underlying101 infoU32 ?_
      (simp only [Act.put, List.setIfInBounds_toArray, List.set_cons_zero, List.set_cons_succ])
      refine plan_cell 65 _ _ _ _ (by rfl) (by rfl) (by rfl) (by first | (with_reducible exact Mem.ev_const _ _) | (with_reducible exact Mem.ev_zero _ _ _) | (with_reducible (apply Eq.trans (Mem.ev_tmp _ _ _)); simp only [List.getD_cons_succ, List.getD_cons_zero] <;> rfl)) (fun w' hw' => (hw'.cell _).trans FY.out) Tryd.underlying65 (by rfl) ?_
      (simp only [Act.put, List.setIfInBounds_toArray, List.set_cons_zero, List.set_cons_succ])
      refine plan_bin _ _ _ _ _ _ _ _ (by rfl) (by rfl) (by rfl) (by first | (with_reducible exact Mem.ev_const _ _) | (with_reducible exact Mem.ev_zero _ _ _) | (with_reducible (apply Eq.trans (Mem.ev_tmp _ _ _)); simp only [List.getD_cons_succ, List.getD_cons_zero] <;> rfl)) (by first | (with_reducible exact Mem.ev_const _ _) | (with_reducible exact Mem.ev_zero _ _ _) | (with_reducible (apply Eq.trans (Mem.ev_tmp _ _ _)); simp only [List.getD_cons_succ, List.getD_cons_zero] <;> rfl)) (fun wx => o_add _ _ _ _ _ _ wx) ?_
      (simp only [Act.put, List.setIfInBounds_toArray, List.set_cons_zero, List.set_cons_succ])
      refine plan_call 41 _ _ _ (by kernel_rfl) (by rfl) (by rfl) (by rfl) (by first | exact Mem.ev_none _ | (simp only [List.map_toArray, List.map_cons, List.map_nil, Mem.ev_tmp, List.getD_cons_succ, List.getD_cons_zero] <;> rfl)) ?_
      refine (PU.out wr.drew II.out.k).mono ?_
      rintro e w2 ⟨rfl, hp⟩
      have f2 : At w2 b7 CF 101 := At.but (w := wr.drew) II.out.f hp.o (by omega)
      have r2 : At w2 (w.heap.size + 1 + 1) X 67 := At.but (w := wr.drew) II.out.r hp.o (by have := S1.out; omega)
      have b2 : Below w.heap.size w w2 := hp.k _ _ II.out.b.drew (by have := S1.out; omega)
      have F2 := Lib.hid f2; have R2 := Lib.hid r2; have B2 := Lib.hid b2; have K2 := Lib.hid hp.a
      clear f2 r2 b2 hp PU II
      refine ⟨_, rfl, F2.out, ?_⟩
      (simp only [Act.put, List.setIfInBounds_toArray, List.set_cons_zero, List.set_cons_succ])
      refine plan_nil ?_
      go_wp2_with fail
      go_roundw
      case rel => exact ⟨j + 1, by omega, by go_num, R2.out, F2.out, K2.out, B2.out⟩
      case measure => simp [intOf]; omega
    · have hj16 : j = 16 := by omega
      have hge : ¬ (j : Int) < 16 := by omega
      rw [hj16, rowZ_all cb 64 LCB.out] at hI
      obtain ⟨M, hM⟩ : ∃ M, M = cbOf key nonce n := ⟨_, rfl⟩
      have hk := hI.k
      rw [show (u8s cb).toArray = M by rw [hM, HCB.out]; rfl] at hk
      have hMs : M.size = 64 := by rw [hM]; exact cbOf_size _ _ _
      have hMo : M.all (·.oneCell') = true := by rw [hM]; exact u8s_one _
      have HM := Lib.hid hM; have MS := Lib.hid hMs; have MO := Lib.hid hMo; have KK := Lib.hid hk; have RR := Lib.hid hI.r; have BB := Lib.hid hI.b
      clear hM hMs hMo hk hI hlt hj hj16
      go_wp2_with (first | (refine wpList_load_all (by rfl) 67 _ (by rfl) (b7 + 1) (by rfl) _ Tryd.underlying67 (by rfl) M _ KK.out (by rw [MS.out]; exact cinfo64) ?_) | (refine wpList_store_all (by rfl) 67 _ _ (by rfl) (by rfl) (w.heap.size + 1 + 1) M (by rfl) (by rfl) (by rw [MS.out]; exact cinfo64) _ _ RR.out (by rw [MS.out, XS.out]) MO.out ?_))
      try simp only [Exit.inBlock, Exit.then]
      refine ret_row (by rfl) (w.heap.size + 1 + 1) 67 M _ (by rfl) (RR.out.row M) Tryd.underlying67 (by rfl) (by rw [MS.out]; exact cinfo64) ?_
      exact ⟨by rw [HM.out], below_row BB.out (by omega) M⟩
end Sha
end Go.Proofs.YtjadjidjfkahpaaDoor
namespace Go.Proofs.YtjadjidjfkahpaaDoor
namespace Sha
open Go.RowKit Mem
theorem ncOf_size (e : BitVec 32) (b : BitVec 64) : (ncOf e b).size = 12 := by simp [ncOf, u8s, cnonce_length]
theorem ncOf_one (e : BitVec 32) (b : BitVec 64) : (ncOf e b).all (·.oneCell') = true := u8s_one _
def lo32 (b : BitVec 64) : BitVec 32 := b.setWidth 32
def hi32 (b : BitVec 64) : BitVec 32 := (b >>> 32).setWidth 32
theorem lo_val (b : BitVec 64) : (b.toNat : Int) % 4294967296 = V (lo32 b) := by
  unfold V lo32
  rw [BitVec.toNat_setWidth]
  omega
theorem hi_val (b : BitVec 64) : (b.toNat : Int) / 4294967296 = V (hi32 b) := by
  have := b.isLt
  unfold V hi32
  rw [BitVec.toNat_setWidth, BitVec.toNat_ushiftRight, Nat.shiftRight_eq_div_pow]
  omega
theorem wb_lo (b : BitVec 64) (j : Nat) (h : j < 4) : wb (lo32 b) (8 * j) = wb64 b (8 * j) := by
  unfold wb lo32 wb64
  apply BitVec.eq_of_getLsbD_eq
  intro i hi
  have h8 : 8 * j + i < 32 := by omega
  simp [BitVec.getLsbD_ushiftRight, hi, h8]
theorem wb_hi (b : BitVec 64) (j : Nat) (h : j < 4) : wb (hi32 b) (8 * j) = wb64 b (8 * (4 + j)) := by
  unfold wb hi32 wb64
  apply BitVec.eq_of_getLsbD_eq
  intro i hi
  have h8 : 8 * j + i < 32 := by omega
  have h9 : 32 + (8 * j + i) = 8 * (4 + j) + i := by omega
  simp [BitVec.getLsbD_ushiftRight, hi, h8, h9]
theorem cnonce_row (e : BitVec 32) (b : BitVec 64) :
    put4 (put4 (put4 (List.replicate 12 0) 0 e 4) 4 (lo32 b) 4) 8 (hi32 b) 4 = cnonce e b := by
  have hl := cnonce_length e b
  have h1 := put4_row (cnonce e b) 12 0 e hl (by decide) (fun j hj => by rw [Nat.zero_add]; exact cnonce_low e b j hj) 4 (by decide)
  have h2 := put4_row (cnonce e b) 12 4 (lo32 b) hl (by decide) (fun j hj => by rw [cnonce_high e b j (by omega), wb_lo b j hj]) 4 (by decide)
  have h3 := put4_row (cnonce e b) 12 8 (hi32 b) hl (by decide) (fun j hj => by rw [show 8 + j = 4 + (4 + j) by omega, cnonce_high e b (4 + j) (by omega), wb_hi b j hj]) 4 (by decide)
  have h0 : rowZ (cnonce e b) 12 0 = List.replicate 12 0 := by simp [rowZ]
  rw [h0] at h1
  rw [h1, h2, h3]
  exact rowZ_all _ 12 hl
set_option maxRecDepth 100000 in
set_option maxHeartbeats 1000000 in
theorem nonce_any (e : BitVec 32) (b : BitVec 64) (w : World) :
    Calls Tryd.prog 29 #[.int .u32 (V e), .int .u64 (b.toNat : Int)] w fun o w' => o = .returned (.agg (ncOf e b)) ∧ Below w.heap.size w w' := by
  obtain ⟨X, hX⟩ : ∃ X, X = Z12 := ⟨_, rfl⟩
  have hx := zero12
  rw [← hX] at hx
  have hXs : X.size = 12 := by rw [hX]; simp [Z12, u8s]
  obtain ⟨l0, h0⟩ : ∃ l, l = (List.replicate 12 0 : List (BitVec 8)) := ⟨_, rfl⟩
  obtain ⟨l1, h1⟩ : ∃ l, l = put4 l0 0 e 4 := ⟨_, rfl⟩
  obtain ⟨l2, h2⟩ : ∃ l, l = put4 l1 4 (lo32 b) 4 := ⟨_, rfl⟩
  obtain ⟨l3, h3⟩ : ∃ l, l = put4 l2 8 (hi32 b) 4 := ⟨_, rfl⟩
  have e0 : l0.length = 12 := by rw [h0]; simp
  have e1 : l1.length = 12 := by rw [h1, put4_length, e0]
  have e2 : l2.length = 12 := by rw [h2, put4_length, e1]
  have hend : l3 = cnonce e b := by rw [h3, h2, h1, h0]; exact cnonce_row e b
  have p1 := fun wx bx (h : At wx bx (u8s l0).toArray 63) => putWord_any e l0 bx 0 12 12 63 wx h (by decide) (by rw [e0]; decide)
  have p2 := fun wx bx (h : At wx bx (u8s l1).toArray 63) => putWord_any (lo32 b) l1 bx 4 8 8 63 wx h (by decide) (by rw [e1]; decide)
  have p3 := fun wx bx (h : At wx bx (u8s l2).toArray 63) => putWord_any (hi32 b) l2 bx 8 4 4 63 wx h (by decide) (by rw [e2]; decide)
  rw [← h1] at p1; rw [← h2] at p2; rw [← h3] at p3
  have hX0 : (u8s l0).toArray = X := by rw [hX, h0]; rfl
  have a1 : At ((w.alloc (.cells X 63)).alloc (.cells X 63)) (w.heap.size + 1) (u8s l0).toArray 63 := by
    have h := at_new (w.alloc (.cells X 63)) X 63
    rw [hX0]; simpa using h
  have r1 : At ((w.alloc (.cells X 63)).alloc (.cells X 63)) w.heap.size X 63 := (at_new w X _).alloc _
  have b1 : Below w.heap.size w ((w.alloc (.cells X 63)).alloc (.cells X 63)) := ((Below.refl _ _).alloc (Nat.le_refl _) _).alloc (by simp) _
  have P1 := Lib.hid p1; have P2 := Lib.hid p2; have P3 := Lib.hid p3; have EN := Lib.hid hend; have XS := Lib.hid hXs; have A1 := Lib.hid a1; have R1 := Lib.hid r1; have B1 := Lib.hid b1
  have ve0 := V_lo e
  have vb0 : 0 ≤ (b.toNat : Int) := Int.natCast_nonneg _
  clear p1 p2 p3 hend hXs a1 r1 b1 h0 h1 h2 h3 e0 e1 e2 hX hX0
  go_enter Tryd.func29, Tryd.ntmps29
  go_wp2_with fail
  clear hx
  generalize (w.alloc (.cells X 63)).alloc (.cells X 63) = w2 at *
  refine (P1.out _ _ A1.out).mono ?_
  rintro o w3 ⟨rfl, hp⟩
  have A2 := Lib.hid hp.a; have R2 := Lib.hid (R1.out.but hp.o (by omega)); have B2 := Lib.hid (hp.k _ _ B1.out (by omega))
  clear hp A1 R1 B1 P1
  go_wp2_with fail
  rw [lo_val]
  refine (P2.out _ _ A2.out).mono ?_
  rintro o w4 ⟨rfl, hp⟩
  have A3 := Lib.hid hp.a; have R3 := Lib.hid (R2.out.but hp.o (by omega)); have B3 := Lib.hid (hp.k _ _ B2.out (by omega))
  clear hp A2 R2 B2 P2
  go_wp2_with fail
  rw [hi_val]
  refine (P3.out _ _ A3.out).mono ?_
  rintro o w5 ⟨rfl, hp⟩
  have ha := hp.a
  obtain ⟨M, hM⟩ : ∃ M, M = ncOf e b := ⟨_, rfl⟩
  rw [show (u8s l3).toArray = M by rw [hM, EN.out]; rfl] at ha
  have hMs : M.size = 12 := by rw [hM]; exact ncOf_size _ _
  have hMo : M.all (·.oneCell') = true := by rw [hM]; exact ncOf_one _ _
  have A4 := Lib.hid ha; have R4 := Lib.hid (R3.out.but hp.o (by omega)); have B4 := Lib.hid (hp.k _ _ B3.out (by omega)); have HM := Lib.hid hM; have MS := Lib.hid hMs; have MO := Lib.hid hMo
  clear hp ha A3 R3 B3 P3 hM hMs hMo
  go_wp2_with (first | (refine wpList_load_all (by rfl) 63 _ (by rfl) (w.heap.size + 1) (by rfl) _ Tryd.underlying63 (by rfl) M _ A4.out (by rw [MS.out]; exact info12) ?_) | (refine wpList_store_all (by rfl) 63 _ _ (by rfl) (by rfl) w.heap.size M (by rfl) (by rfl) (by rw [MS.out]; exact info12) _ _ R4.out (by rw [MS.out, XS.out]) MO.out ?_))
  try simp only [Exit.inBlock, Exit.then]
  refine ret_row (by rfl) w.heap.size 63 M _ (by rfl) (R4.out.row M) Tryd.underlying63 (by rfl) (by rw [MS.out]; exact info12) ?_
  exact ⟨by rw [HM.out], below_row B4.out (by omega) M⟩
end Sha
end Go.Proofs.YtjadjidjfkahpaaDoor
namespace Go.Proofs.YtjadjidjfkahpaaDoor
namespace Sha
open Go.RowKit Mem
/-- The first j blocks of so many bytes, the others 0. -/
def ksr (key nonce : List (BitVec 8)) (n : BitVec 32) (size j : Nat) : List (BitVec 8) := (cblks key nonce n j).take size ++ List.replicate (size - 64 * j) 0
theorem ksr_length (key nonce : List (BitVec 8)) (n : BitVec 32) (size j : Nat) : (ksr key nonce n size j).length = size := by
  simp [ksr, cblks_length]; omega
theorem ksr_splice (key nonce : List (BitVec 8)) (n : BitVec 32) (size j : Nat) (h : 64 * j < size) :
    Mem.splice (u8s (ksr key nonce n size j)).toArray (64 * j) (u8s ((cblk key nonce (n + BitVec.ofNat 32 j)).take (min 64 (size - 64 * j)))) = (u8s (ksr key nonce n size (j + 1))).toArray := by
  have e0 : ksr key nonce n size j = cblks key nonce n j ++ List.replicate (size - 64 * j) 0 := by
    rw [ksr, List.take_of_length_le (by rw [cblks_length]; omega)]
  have lb := cblks_length key nonce n j
  have lk := cblk_length key nonce (n + BitVec.ofNat 32 j)
  have e1 : ksr key nonce n size (j + 1) = cblks key nonce n j ++ (cblk key nonce (n + BitVec.ofNat 32 j)).take (min 64 (size - 64 * j)) ++ List.replicate (size - 64 * j - min 64 (size - 64 * j)) 0 := by
    rw [ksr, cblks, List.take_append, lb, List.take_of_length_le (by omega)]
    congr 2
    · by_cases h32 : 64 ≤ size - 64 * j
      · rw [Nat.min_eq_left h32, List.take_of_length_le (by omega), List.take_of_length_le (by omega)]
      · rw [Nat.min_eq_right (by omega)]
    · omega
  rw [e0, e1]
  unfold Mem.splice u8s
  rw [List.map_append, List.map_append, List.map_append]
  have h1 : (List.map (fun x : BitVec 8 => Value.int .u8 (x.toNat : Int)) (cblks key nonce n j)).length = 64 * j := by simp [lb]
  congr 1
  rw [List.take_left' h1]
  congr 1
  rw [List.length_map, List.length_take, lk, List.drop_append, h1, List.drop_of_length_le (by omega), List.nil_append, ← List.map_drop, List.drop_replicate]
  congr 2
  omega
theorem ksr_zero (key nonce : List (BitVec 8)) (n : BitVec 32) (size : Nat) : ksr key nonce n size 0 = List.replicate size 0 := by simp [ksr, cblks]
theorem ksr_all (key nonce : List (BitVec 8)) (n : BitVec 32) (size j : Nat) (h : size ≤ 64 * j) : ksr key nonce n size j = cstream key nonce n size := by
  rw [ksr, cstream_from key nonce n size j h, Nat.sub_eq_zero_of_le h, List.replicate_zero, List.append_nil]
theorem V_up (n : BitVec 32) (j : Nat) : (V (n + BitVec.ofNat 32 j) + 1) % (4294967296 : Int) = V (n + BitVec.ofNat 32 (j + 1)) := by
  rw [show (1 : Int) = V 1 from rfl, r_add]
  congr 1
  rw [BitVec.add_assoc]
  congr 1
  apply BitVec.eq_of_toNat_eq
  simp
structure CSInv (key nonce : List (BitVec 8)) (n : BitVec 32) (size : Nat) (C D : Array Value) (w : World) (j : Nat) (wr : World) : Prop where
  row : At wr (w.heap.size + 1 + 1) (u8s (ksr key nonce n size j)).toArray 5
  c : At wr w.heap.size C 24
  d : At wr (w.heap.size + 1) D 63
  b : Below w.heap.size w wr
def StRel (key nonce : List (BitVec 8)) (n : BitVec 32) (size : Nat) (C D : Array Value) (w : World) (vn vl : Value) (wr : World) : Prop :=
  ∃ j : Nat, 64 * j ≤ size + 63 ∧ vn = .int .u32 (V (n + BitVec.ofNat 32 j)) ∧ (∃ a c, vl = .slice a (size - 64 * j) c ∧ (64 * j < size → a = some ⟨w.heap.size + 1 + 1, 64 * j, none⟩ ∧ c = size - 64 * j)) ∧ CSInv key nonce n size C D w j wr
set_option maxRecDepth 100000 in
set_option maxHeartbeats 2000000 in
theorem stream_good (key nonce : List (BitVec 8)) (n : BitVec 32) (size : Nat) (lk : key.length = 32) (ln : nonce.length = 12) (hz : size ≤ 1048576) (w : World) (hL : CTabs w) :
    Calls Tryd.prog 40 #[.agg (u8s key).toArray, .agg (u8s nonce).toArray, .int .u32 (V n), .int .i64 (size : Int)] w (SEnd w (cstream key nonce n size)) := by
  obtain ⟨X, hX⟩ : ∃ X, X = CZ64 := ⟨_, rfl⟩
  have hx := czero64
  rw [← hX] at hx
  have hXs : X.size = 64 := by rw [hX]; simp [CZ64, u8s]
  have hbl := fun (m : BitVec 32) wx (h : Below w.heap.size w wx) => blk_any key nonce m lk ln wx (hL.below h (Nat.le_refl _))
  obtain ⟨C, hC⟩ : ∃ C, C = (u8s key).toArray := ⟨_, rfl⟩
  obtain ⟨D, hD⟩ : ∃ D, D = (u8s nonce).toArray := ⟨_, rfl⟩
  have hCs : C.size = 32 := by rw [hC]; simp [u8s, lk]
  have hDs : D.size = 12 := by rw [hD]; simp [u8s, ln]
  rw [← hC, ← hD] at hbl
  rw [← hC, ← hD]
  obtain ⟨i8, hi8, hz8, hs8, hb8⟩ := info_parts infoU8
  have h0 : ¬ (size : Int) < 0 := by omega
  have h1 : ¬ (1048576 : Int) < (size : Int) := by omega
  have aC : At ((w.alloc (.cells C 24)).alloc (.cells D 63)) w.heap.size C 24 := (at_new w C _).alloc _
  have aD : At ((w.alloc (.cells C 24)).alloc (.cells D 63)) (w.heap.size + 1) D 63 := by
    have h := at_new (w.alloc (.cells C 24)) D 63
    simpa using h
  have aB : Below w.heap.size w ((w.alloc (.cells C 24)).alloc (.cells D 63)) := ((Below.refl _ _).alloc (Nat.le_refl _) _).alloc (by simp) _
  have BL := Lib.hid hbl; have XS := Lib.hid hXs; have CS := Lib.hid hCs; have DS := Lib.hid hDs; have I8 := Lib.hid hi8; have Z8 := Lib.hid hz8; have S8 := Lib.hid hs8; have B8' := Lib.hid hb8; have AC := Lib.hid aC; have AD := Lib.hid aD; have AB := Lib.hid aB
  clear hbl hXs hCs hDs hi8 hz8 hs8 hb8 aC aD aB hX hC hD lk ln hL
  go_enter Tryd.func40, Tryd.ntmps40
  go_wp2_with (refine wpList_make_full _ (by rfl) _ _ 22 (by rfl) ((w.alloc (.cells C 24)).alloc (.cells D 63)).heap.size 5 i8 (.int .u8 0) 1 Tryd.underlying22 I8.out Z8.out S8.out .i64 .i64 _ _ size (by rfl) (by rfl) rfl rfl (by rw [B8'.out]; omega) (by simp [maxLen]; omega) (Nat.le_refl _) ?_; intro w4 ho4 hg4; have O4 := Lib.hid ho4; have G4 := Lib.hid hg4; clear ho4 hg4)
  have row0 : At w4 (w.heap.size + 1 + 1) (u8s (ksr key nonce n size 0)).toArray 5 := by
    rw [ksr_zero]
    have h := own_full O4.out
    rw [made_zeros] at h
    simpa using h
  have key0 : ∀ b E t, At ((w.alloc (.cells C 24)).alloc (.cells D 63)) b E t → At w4 b E t := fun b E t h => by
    have hl := h.lt
    unfold At at *
    rw [G4.out.block b hl (by simp)]; exact h
  have b40 : Below w.heap.size w w4 := AB.out.grown G4.out AB.out.size (fun _ h => by cases h)
  have I0 : Hid (CSInv key nonce n size C D w 0 w4) := ⟨row0, key0 _ _ _ AC.out, key0 _ _ _ AD.out, b40⟩
  have N0 : Hid (V n = V (n + BitVec.ofNat 32 0)) := by show V n = V (n + BitVec.ofNat 32 0); simp
  clear row0 key0 b40 O4 G4 I8 Z8 S8 B8' AC AD AB h0 h1
  generalize ((w.alloc (.cells C 24)).alloc (.cells D 63)).heap.size = bx at *
  go_loopw [2, 10, 11] (fun vn vl _ wr => StRel key nonce n size C D w vn vl wr) (fun _ vl _ _ => (match vl with | .slice _ l _ => l | _ => 0))
  case atStart => exact ⟨0, by omega, by rw [N0.out], ⟨some ⟨w.heap.size + 1 + 1, 0, none⟩, size, by simp, fun _ => ⟨by simp, by simp⟩⟩, I0.out⟩
  case round =>
    clear I0 N0
    obtain ⟨j, hj, rfl, ⟨al, cl, rfl, hal⟩, hI⟩ := hrel
    obtain ⟨q, hq⟩ : ∃ q, q = size - 64 * j := ⟨_, rfl⟩
    rw [← hq] at hal ⊢
    by_cases hlt : 64 * j < size
    · obtain ⟨rfl, hcq⟩ := hal hlt
      rw [hcq]
      clear hcq
      have hq0 : (q : Int) > 0 := by omega
      obtain ⟨k, hk⟩ : ∃ k, k = min 64 (size - 64 * j) := ⟨_, rfl⟩
      have hsp := ksr_splice key nonce n size j hlt
      rw [← hk] at hsp
      have hkq : k ≤ q := by omega
      have hk64 : k = min 64 q := by omega
      obtain ⟨N, hN⟩ : ∃ N, N = n + BitVec.ofNat 32 j := ⟨_, rfl⟩
      have hN2 : (V N + 1) % (4294967296 : Int) = V (n + BitVec.ofNat 32 (j + 1)) := by rw [hN]; exact V_up n j
      have hjo := BL.out N
      rw [← hN] at hsp ⊢
      obtain ⟨T, hT⟩ : ∃ T, T = cblk key nonce N := ⟨_, rfl⟩
      have hTl : T.length = 64 := by rw [hT]; exact cblk_length _ _ _
      unfold cbOf at hjo
      rw [← hT] at hjo hsp
      obtain ⟨F, hF⟩ : ∃ F, F = (u8s T).toArray := ⟨_, rfl⟩
      have hFs : F.size = 64 := by rw [hF]; simp [u8s, hTl]
      have hFo : F.all (·.oneCell') = true := by rw [hF]; exact u8s_one _
      rw [← hF] at hjo
      have hrs : (u8s (ksr key nonce n size j)).toArray.size = size := by simp [u8s, ksr_length]
      have II := Lib.hid hI; have SP := Lib.hid hsp; have JJ := Lib.hid hjo; have N2 := Lib.hid hN2; have TL := Lib.hid hTl; have HF := Lib.hid hF; have FS := Lib.hid hFs; have FO := Lib.hid hFo; have HK := Lib.hid hk64; have KQ := Lib.hid hkq; have RS := Lib.hid hrs; have HQ := Lib.hid hq
      clear hI hsp hjo hN2 hTl hF hFs hFo hk64 hkq hk hrs hT hN hal hq
      go_wp2_with (first
        | (refine wpList_load_all (by rfl) 24 _ (by rfl) w.heap.size (by rfl) _ Tryd.underlying24 (by rfl) C _ II.out.c (by rw [CS.out]; exact info32b) ?_)
        | (refine wpList_load_all (by rfl) 63 _ (by rfl) (w.heap.size + 1) (by rfl) _ Tryd.underlying63 (by rfl) D _ II.out.d (by rw [DS.out]; exact info12) ?_)
        | (go_at_call 57; refine (JJ.out _ II.out.b).mono ?_; rintro e w5 ⟨rfl, hb5⟩; have R5 := Lib.hid (II.out.row.below hb5 II.out.row.lt); have C5 := Lib.hid (II.out.c.below hb5 II.out.c.lt); have D5 := Lib.hid (II.out.d.below hb5 II.out.d.lt); have B5 := Lib.hid (II.out.b.trans (hb5.mono II.out.b.size)); clear hb5)
        | (refine wpList_store_new (by rfl) 67 _ _ (by rfl) (by rfl) F _ _ (by rfl) (by rfl) (by rw [FS.out]; exact cinfo64) (by rw [FS.out, XS.out]) FO.out ?_; have F6 := Lib.hid (at_new w5 F 67); have R6 := Lib.hid (R5.out.alloc (.cells F 67)); have C6 := Lib.hid (C5.out.alloc (.cells F 67)); have D6 := Lib.hid (D5.out.alloc (.cells F 67)); have B6 := Lib.hid (B5.out.alloc B5.out.size (.cells F 67)); generalize w5.alloc (.cells F 67) = w6 at *; generalize w5.heap.size = bg at *)
        | (refine wpList_copy_sl (by rfl) _ _ (by rfl) (w.heap.size + 1 + 1) (64 * j) q q (.slice (some ⟨bg, 0, none⟩) 64 64) T (by rfl) (by rfl) (at_sl (by have h := F6.out; rw [HF.out] at h; exact h) TL.out) k (by rw [TL.out]; exact HK.out) _ _ R6.out (by have := HQ.out; have := KQ.out; rw [RS.out]; omega) _ SP.out ?_; intro w7 ha7 hs7 ho7 hbb7; have R7 := Lib.hid ha7; have C7 := Lib.hid (at_keep C6.out ho7 (by omega)); have D7 := Lib.hid (at_keep D6.out ho7 (by omega)); have B7 := Lib.hid (hbb7 _ _ B6.out (by omega)); clear ha7 hs7 ho7 hbb7)
        | (refine wpList_slice_low (by rfl) _ _ _ (by rfl) 5 Tryd.underlying22 infoB (some ⟨w.heap.size + 1 + 1, 64 * j, none⟩) q q k (by rfl) (by rfl) KQ.out ?_; intro a8 ha8; have A8 := Lib.hid ha8; clear ha8))
      rw [N2.out]
      go_roundw
      case rel =>
        have hq := HQ.out
        have hk := HK.out
        refine ⟨j + 1, by omega, rfl, ⟨a8, q - k, by rw [show size - 64 * (j + 1) = q - k by omega], fun h => ⟨by rw [A8.out _ _ rfl (by omega), show 64 * j + k = 64 * (j + 1) by omega], by omega⟩⟩, R7.out, C7.out, D7.out, B7.out⟩
      case measure => simp only; have := HK.out; omega
    · have hq0 : q = 0 := by omega
      have hall := ksr_all key nonce n size j (by omega)
      have hrow := hI.row
      rw [hall] at hrow
      have hge : ¬ (q : Int) > 0 := by omega
      have RW := Lib.hid hrow; have BB := Lib.hid hI.b
      clear hrow hI hall hq0 hal hq hlt
      go_wp2_with fail
      go_ret
      exact ⟨w.heap.size + 1 + 1, by rw [cstream_length]; rfl, RW.out, by omega, BB.out⟩
set_option maxHeartbeats 400000 in
theorem stream_bad (key nonce : List (BitVec 8)) (n : BitVec 32) (size : Int) (hz : size < 0 ∨ 1048576 < size) (w : World) :
    Calls Tryd.prog 40 #[.agg (u8s key).toArray, .agg (u8s nonce).toArray, .int .u32 (V n), .int .i64 size] w fun e w' => e = .returned (.slice none 0 0) ∧ Below w.heap.size w w' := by
  generalize (u8s key).toArray = C
  generalize (u8s nonce).toArray = D
  have hB : Below w.heap.size w ((w.alloc (.cells C 24)).alloc (.cells D 63)) := ((Below.refl _ _).alloc (Nat.le_refl _) _).alloc (by simp) _
  have HB := Lib.hid hB
  clear hB
  rcases hz with h | h
  · go_enter Tryd.func40, Tryd.ntmps40
    go_wp2
    go_ret
    exact ⟨rfl, HB.out⟩
  · have h' : ¬ size < 0 := by omega
    go_enter Tryd.func40, Tryd.ntmps40
    go_wp2
    go_ret
    exact ⟨rfl, HB.out⟩
end Sha
end Go.Proofs.YtjadjidjfkahpaaDoor
namespace Go.Proofs.YtjadjidjfkahpaaDoor
namespace Sha
open Go.RowKit Mem
theorem cturn_joinB (b s : List (BitVec 8)) (h : b.length = s.length) : cturn b s = joinB b s := by
  rw [cturn, ← h, List.drop_length, List.append_nil]; rfl
theorem splice_full (l : List (BitVec 8)) (n : Nat) (h : l.length = n) : Mem.splice (u8s (List.replicate n 0)).toArray 0 (u8s (l.take n)) = (u8s l).toArray := by
  subst h
  rw [List.take_length]
  have h1 : List.drop (0 + (u8s l).length) (u8s (List.replicate l.length 0)).toArray.toList = [] := List.drop_of_length_le (by simp [u8s])
  unfold Mem.splice
  rw [h1, List.take_zero, List.nil_append, List.append_nil]
theorem two_made {w w4 : World} {C D : Array Value} {m : Nat} (ho : w4.ownsRow ((w.alloc (.cells C 24)).alloc (.cells D 63)).heap.size 5 1 (.slice (some ⟨((w.alloc (.cells C 24)).alloc (.cells D 63)).heap.size, 0, none⟩) m m) m (madeCells (Value.int .u8 0).cells (m * 1)).toList)
    (hg : World.grownBy ((w.alloc (.cells C 24)).alloc (.cells D 63)) w4 none) :
    At w4 (w.heap.size + 1 + 1) (u8s (List.replicate m 0)).toArray 5 ∧ At w4 w.heap.size C 24 ∧ At w4 (w.heap.size + 1) D 63 ∧ Below w.heap.size w w4 := by
  have aC : At ((w.alloc (.cells C 24)).alloc (.cells D 63)) w.heap.size C 24 := (at_new w C _).alloc _
  have aD : At ((w.alloc (.cells C 24)).alloc (.cells D 63)) (w.heap.size + 1) D 63 := by
    have h := at_new (w.alloc (.cells C 24)) D 63
    simpa using h
  have aB : Below w.heap.size w ((w.alloc (.cells C 24)).alloc (.cells D 63)) := ((Below.refl _ _).alloc (Nat.le_refl _) _).alloc (by simp) _
  have key0 : ∀ b E t, At ((w.alloc (.cells C 24)).alloc (.cells D 63)) b E t → At w4 b E t := fun b E t h => by
    have hl := h.lt
    unfold At at *
    rw [hg.block b hl (by simp)]; exact h
  refine ⟨?_, key0 _ _ _ aC, key0 _ _ _ aD, aB.grown hg aB.size (fun _ h => by cases h)⟩
  have h := own_full ho
  rw [made_zeros] at h
  simpa using h
structure TuInv (L s : List (BitVec 8)) (g : Nat) (w wr : World) : Prop where
  row : At wr (w.heap.size + 1 + 1) (u8s L).toArray 5
  st : At wr g (u8s s).toArray 5
  b : Below w.heap.size w wr
set_option maxRecDepth 100000 in
set_option maxHeartbeats 2000000 in
theorem turned_any (key nonce : List (BitVec 8)) (n : BitVec 32) (l : List (BitVec 8)) (v : Value) (lk : key.length = 32) (ln : nonce.length = 12) (hz : l.length ≤ 1048576) (w : World) (hv : Sl w v l) (hL : CTabs w) :
    Calls Tryd.prog 28 #[.agg (u8s key).toArray, .agg (u8s nonce).toArray, .int .u32 (V n), v] w (SEnd w (cturn l (cstream key nonce n l.length))) := by
  have hst := fun wx (h : Below w.heap.size w wx) => stream_good key nonce n l.length lk ln hz wx (hL.below h (Nat.le_refl _))
  obtain ⟨s, hs⟩ : ∃ s, s = cstream key nonce n l.length := ⟨_, rfl⟩
  have ls : s.length = l.length := by rw [hs]; exact cstream_length _ _ _ _
  rw [← hs] at hst ⊢
  rw [cturn_joinB l s ls.symm]
  have hv0 := hv
  obtain ⟨a0, cap, rfl, _, _⟩ := hv
  have hsp := splice_full l l.length rfl
  have jl := joinTo_length l s ls.symm
  have jz := joinTo_zero l s
  have ja := joinTo_all l s ls.symm
  have jg := fun j hj => joinTo_get l s ls.symm j hj
  have js := fun j hj => joinTo_set l s ls.symm j hj
  have jB := joinB_length l s ls.symm
  obtain ⟨m, hm⟩ : ∃ m, m = l.length := ⟨_, rfl⟩
  rw [← hm] at hst hsp jl ja jg js jB ls hz hv0 ⊢
  have hmin : min (m : Int) 1048576 = (m : Int) := by omega
  have hmle : (m : Int) ≤ 1048576 := by omega
  have hmlt : ¬ (1048576 : Int) < (m : Int) := by omega
  obtain ⟨C, hC⟩ : ∃ C, C = (u8s key).toArray := ⟨_, rfl⟩
  obtain ⟨D, hD⟩ : ∃ D, D = (u8s nonce).toArray := ⟨_, rfl⟩
  have hCs : C.size = 32 := by rw [hC]; simp [u8s, lk]
  have hDs : D.size = 12 := by rw [hD]; simp [u8s, ln]
  rw [← hC, ← hD] at hst
  rw [← hC, ← hD]
  obtain ⟨i8, hi8, hz8, hs8, hb8⟩ := info_parts infoU8
  have ST := Lib.hid hst; have CS := Lib.hid hCs; have DS := Lib.hid hDs; have I8 := Lib.hid hi8; have Z8 := Lib.hid hz8; have S8 := Lib.hid hs8; have B8' := Lib.hid hb8; have HV := Lib.hid hv0; have SP := Lib.hid hsp
  have JL := Lib.hid jl; have JZ := Lib.hid jz; have JA := Lib.hid ja; have JG := Lib.hid jg; have JS := Lib.hid js; have JB := Lib.hid jB; have LS := Lib.hid ls; have HM := Lib.hid hm
  clear hst hCs hDs hi8 hz8 hs8 hb8 hC hD lk ln hL hv0 hsp jl jz ja jg js jB ls hm hs
  go_enter Tryd.func28, Tryd.ntmps28
  go_wp2_with (first
    | (refine wpList_make_full _ (by rfl) _ _ 22 (by rfl) ((w.alloc (.cells C 24)).alloc (.cells D 63)).heap.size 5 i8 (.int .u8 0) 1 Tryd.underlying22 I8.out Z8.out S8.out .i64 .i64 _ _ m (by rfl) (by rfl) rfl rfl (by rw [B8'.out]; omega) (by simp [maxLen]; omega) (Nat.le_refl _) ?_; intro w4 ho4 hg4; have hf := two_made ho4 hg4; have R4 := Lib.hid hf.1; have C4 := Lib.hid hf.2.1; have D4 := Lib.hid hf.2.2.1; have B4 := Lib.hid hf.2.2.2; clear ho4 hg4 hf)
    | (refine wpList_copy_sl (by rfl) _ _ (by rfl) (w.heap.size + 1 + 1) 0 m m (.slice a0 m cap) l (by rfl) (by rfl) (HV.out.below B4.out) m (by rw [← HM.out]; exact (Nat.min_self m).symm) _ _ R4.out (by simp [u8s]) _ SP.out ?_; intro w5 ha5 hs5 ho5 hbb5; have R5 := Lib.hid ha5; have C5 := Lib.hid (at_keep C4.out ho5 (by omega)); have D5 := Lib.hid (at_keep D4.out ho5 (by omega)); have B5 := Lib.hid (hbb5 _ _ B4.out (by omega)); clear ha5 hs5 ho5 hbb5)
    | (refine wpList_load_all (by rfl) 24 _ (by rfl) w.heap.size (by rfl) _ Tryd.underlying24 (by rfl) C _ C5.out (by rw [CS.out]; exact info32b) ?_)
    | (refine wpList_load_all (by rfl) 63 _ (by rfl) (w.heap.size + 1) (by rfl) _ Tryd.underlying63 (by rfl) D _ D5.out (by rw [DS.out]; exact info12) ?_))
  refine (ST.out _ B5.out).mono ?_
  rintro e w6 ⟨g, rfl, hg6, hgl, hb6⟩
  rw [LS.out]
  have I6 : Hid (TuInv (joinTo l s 0) s g w w6) := ⟨by rw [JZ.out]; exact R5.out.below hb6 R5.out.lt, hg6, B5.out.trans (hb6.mono B5.out.size)⟩
  have GNE : Hid (w.heap.size + 1 + 1 ≠ g) := by have := R5.out.lt; show w.heap.size + 1 + 1 ≠ g; omega
  have GLE : Hid (w.heap.size ≤ g) := Nat.le_trans B5.out.size hgl
  clear hg6 hgl hb6 R4 C4 D4 B4 R5 C5 D5 B5 ST HV SP
  go_wp2_with fail
  go_loopw [10, 11, 26] (fun _ _ i wr => ∃ j : Nat, j ≤ m ∧ i = .int .i64 j ∧ TuInv (joinTo l s j) s g w wr) (fun _ _ i _ => m - (intOf i).toNat)
  case atStart => exact ⟨0, by omega, rfl, I6.out⟩
  case round =>
    clear I6
    obtain ⟨j, hj, rfl, hI⟩ := hrel
    by_cases hlt : j < m
    · obtain ⟨x, hxx⟩ : ∃ x, x = l.getD j 0 := ⟨_, rfl⟩
      obtain ⟨y, hyy⟩ : ∃ y, y = s.getD j 0 := ⟨_, rfl⟩
      have cj : wr.cell? ⟨w.heap.size + 1 + 1, j, none⟩ = some (.int .u8 (B8 x)) := by
        rw [hI.row.cell, List.getElem?_toArray, u8s_get _ _ (by rw [JL.out]; exact hlt), JG.out j hlt, hxx]; rfl
      have dj : wr.cell? ⟨g, j, none⟩ = some (.int .u8 (B8 y)) := by
        rw [hI.st.cell, List.getElem?_toArray, u8s_get _ _ (by rw [LS.out]; exact hlt), hyy]; rfl
      have hset : (u8s (joinTo l s j)).toArray.setIfInBounds j (.int .u8 (B8 (x ^^^ y))) = (u8s (joinTo l s (j + 1))).toArray := by
        rw [← JS.out j hlt, ← hxx, ← hyy]; exact u8s_set _ _ _
      have hEs : j < (u8s (joinTo l s j)).toArray.size := by rw [List.size_toArray, u8s_length, JL.out]; exact hlt
      have hk := hI.row
      obtain ⟨E, hE⟩ : ∃ E, E = (u8s (joinTo l s j)).toArray := ⟨_, rfl⟩
      rw [← hE] at hk hset hEs
      have KK := Lib.hid hk; have ST := Lib.hid hset; have DS := Lib.hid hEs; have SS := Lib.hid hI.st; have BB := Lib.hid hI.b
      have hlt' : (j : Int) < (m : Int) := by omega
      clear hk hset hEs hI hE hxx hyy
      go_wp2_with (refine Mem.wpList_store_one (by rfl) 5 _ _ (by rfl) (by rfl) (w.heap.size + 1 + 1) j (.int .u8 (B8 (x ^^^ y))) (by rfl) (by exact congrArg (Value.int .u8) (B8_xor x y)) (by rfl) infoB _ _ KK.out DS.out ?_; intro w7 a7 o7 b7; have K7 := Lib.hid a7; have S7 := Lib.hid (at_keep SS.out o7 (Ne.symm GNE.out)); have B7 := Lib.hid (b7 _ _ BB.out (by omega)); clear a7 o7 b7)
      go_roundw
      case rel => exact ⟨j + 1, by omega, by go_num, by rw [← ST.out]; exact K7.out, S7.out, B7.out⟩
      case measure => simp [intOf]; omega
    · have hjm : j = m := by omega
      have hge : ¬ (j : Int) < (m : Int) := by omega
      rw [hjm, JA.out] at hI
      have II := Lib.hid hI
      clear hI hjm hlt hj
      go_wp2_with fail
      go_ret
      exact ⟨w.heap.size + 1 + 1, by rw [JB.out]; rfl, II.out.row, by omega, II.out.b⟩
end Sha
end Go.Proofs.YtjadjidjfkahpaaDoor
