/- A slice of the call's own, of elements of one cell each: it reads as a list of values; a literal of one element appended to it. Over any program. Plain mathematics of the cipher (RFC 8439) on words and bytes. -/
import Derived.Test.YtahcjnganedbiaaGreatDoorBN00
import Derived.Maps.AppendAt
import Derived.OwnWalk
import Derived.Test.YtahcjnganedbiaaGreatDoorBN01
namespace Go.Proofs.YtahcjnganedbiaaGreatDoor
namespace Mem
open Go.RowKit
def OwnV (w : World) (B : Nat) (e : TypeId) (v : Value) (xs : List Value) : Prop := w.ownsRow B e 1 v xs.length xs
section
variable {P : Program} {w w' : World} {B : Nat} {e : TypeId} {v : Value} {xs : List Value}
theorem OwnV.nil (w : World) (B : Nat) (e : TypeId) : OwnV w B e (.slice none 0 0) [] := World.ownsRow_nil w B e 1
theorem OwnV.open (h : OwnV w B e v xs) : ∃ a cap, v = .slice a xs.length cap ∧ xs.length ≤ cap ∧ (xs ≠ [] → ∃ g, a = some ⟨g, 0, none⟩ ∧ B ≤ g ∧ g < w.heap.size ∧ ∀ i u, xs[i]? = some u → w.cell? ⟨g, i, none⟩ = some u) := by
 obtain ⟨_, h | ⟨g, cap, cur, rfl, hg, hh, hn, hc, hs, ht⟩⟩ := h
 ·obtain ⟨rfl, h0⟩ := h
  exact ⟨none, 0, by rw [h0], by omega, fun hne => absurd (List.eq_nil_of_length_eq_zero h0) hne⟩
 ·refine ⟨_, cap, rfl, hn, fun _ => ⟨g, rfl, hg, (Array.getElem?_eq_some_iff.1 hh).1, fun i u hu => ?_⟩⟩
  have hi := (List.getElem?_eq_some_iff.1 hu).1
  rw [cell_of_row w g i cur _ (0, 0) hh]
  have h1 : (cur.toList.take (xs.length * 1))[i]? = xs[i]? := by rw [ht]
  rw [List.getElem?_take, if_pos (by omega)] at h1
  rw [← Array.getElem?_toList, h1, hu]
theorem OwnV.keep (h : OwnV w B e v xs) (hk : ∀ g, v.ownBlock = some g → w'.heap[g]? = w.heap[g]?) : OwnV w' B e v xs := by
 refine ⟨h.1, ?_⟩
 rcases h.2 with hn | ⟨g, cap, cur, rfl, hg, hh, hr⟩
 ·exact .inl hn
 ·exact .inr ⟨g, cap, cur, rfl, hg, by rw [hk g rfl]; exact hh, hr⟩
theorem OwnV.lt (h : OwnV w B e v xs) : ∀ k, v.ownBlock = some k → B ≤ k ∧ k < w.heap.size := World.ownsRow.lt h
theorem OwnV.below (h : OwnV w B e v xs) (hb : Below w.heap.size w w') : OwnV w' B e v xs := h.keep fun g hg => hb.block g (h.lt g hg).2
theorem OwnV.ne_own {B' : Nat} {e' : TypeId} {v' : Value} {ys : List Value} (h : OwnV w B e v xs) (k : OwnV w B' e' v' ys) (he : e ≠ e') : ∀ g, v.ownBlock = some g → v'.ownBlock ≠ some g := by
 intro g hg hg'
 rcases h.2 with ⟨rfl, _⟩ | ⟨b, cap, cur, rfl, _, hh, _⟩
 ·simp [Value.ownBlock] at hg
 rcases k.2 with ⟨rfl, _⟩ | ⟨b', cap', cur', rfl, _, hh', _⟩
 ·simp [Value.ownBlock] at hg'
 have e1 : b = g := by simpa [Value.ownBlock] using hg
 have e2 : b' = g := by simpa [Value.ownBlock] using hg'
 subst e1; subst e2
 rw [hh] at hh'
 injection hh' with hh'
 injection hh' with _ h2
 exact he h2
def elemB (P : Program) (t e : TypeId) (z : Value) (bytes : Nat) : Prop := P.underlying t = some (.slice e) ∧ (P.info? e).map (fun i => (i.zero, i.size, i.bytes)) = some (some z, 1, bytes)
theorem run_append_lit {t ty : TypeId} {z x : Value} {bytes : Nat} (he : elemB P t e z bytes) (hz1 : z.cells.size = 1) (hown : OwnV w B e v xs) (h1 : x.oneCell' = true) (hlen : (xs.length + 1) * bytes ≤ 140737488355328) (hl2 : xs.length < 140737488355328) (hB : B ≤ w.heap.size) :
 ∃ v' w', (Builtin.append_ #[t, t] ty #[v, .slice (some ⟨w.heap.size, 0, none⟩) 1 1]).run P (w.alloc (.cells #[x] e)) = .ok v' w' ∧ OwnV w' B e v' (xs ++ [x]) ∧ (∀ k, k < w.heap.size → v.ownBlock ≠ some k → w'.heap[k]? = w.heap[k]?) ∧ Below B w w' ∧ (v'.ownBlock = v.ownBlock ∨ ∃ g, v'.ownBlock = some g ∧ w.heap.size ≤ g) := by
 obtain ⟨i0, hi, hz0, hs, hb⟩ := info_parts he.2
 have hal : Below w.heap.size w (w.alloc (.cells #[x] e)) := (Below.refl _ _).alloc (Nat.le_refl _) _
 have ho2 := hown.below hal
 have hml : 140737488355328 ≤ maxLen := by simp [maxLen]
 obtain ⟨v', w', hrun, h2, h3, _, h5⟩ := run_append_own_at (P := P) (w.alloc (.cells #[x] e)) B t ty e i0 z 1 bytes he.1 hi hz0 hs hb hz1 (by decide) v xs.length xs ho2 ⟨w.heap.size, 0, none⟩ 1 1 [x] rfl (fun j u hu => by
  have hj : j = 0 := by
   have := (List.getElem?_eq_some_iff.1 hu).1
   simpa using this
  subst hj
  have hx : x = u := by simpa using hu
  rw [Addr.add_mid, (at_new w #[x] e).cell, ← hx]; rfl) (fun u hu => by
  have hx : u = x := by simpa using hu
  rw [hx]; exact h1) (by omega) hlen (Nat.le_trans hB hal.size)
 refine ⟨v', w', hrun, ?_, fun k hk hne => ?_, ?_, ?_⟩
 ·unfold OwnV
  rw [List.length_append]
  exact h2
 ·rw [h3.block k (Nat.lt_of_lt_of_le hk hal.size) (fun e => hne e.symm), hal.block k hk]
 ·exact (hal.mono hB).grown h3 (Nat.le_trans hB hal.size) (fun g hg => (hown.lt g hg).1)
 ·rcases h5 with h5 | h5
  ·exact .inl h5
  ·exact .inr ⟨_, h5, hal.size⟩
theorem cell_alloc {w : World} {p : Addr} {o : Obj} (h : p.block < w.heap.size) : (w.alloc o).cell? p = w.cell? p :=
 World.cell?_of_block (by first | exact heap_alloc_old _ _ h | exact heap_alloc_old _ _ _ h)
def Rd (w : World) (v : Value) (xs : List Value) : Prop := ∃ a cap, v = .slice a xs.length cap ∧ (xs ≠ [] → ∃ p, a = some p ∧ ∀ i u, xs[i]? = some u → w.cell? (p.add i) = some u)
theorem OwnV.rd (h : OwnV w B e v xs) : Rd w v xs := by
 obtain ⟨a, cap, rfl, _, hr⟩ := h.open
 exact ⟨a, cap, rfl, fun hne => by
  obtain ⟨g, rfl, _, _, hc⟩ := hr hne
  exact ⟨_, rfl, fun i u hu => by rw [Addr.add_mid, Nat.zero_add]; exact hc i u hu⟩⟩
theorem wpList_append_lit {ops : Array Oper} {rest : List Oper} {o : Oper} {a : Act} {Q : Exit → Act → World → Prop} (hgd : o.guard = none) (s x : Operand) (t : TypeId) (ho : o.op = .call { callee := .builtin .append, args := #[s, x], argTypes := #[t, t] })
 (u z : Value) (bytes : Nat) (he : elemB P t e z bytes) (hz1 : z.cells.size = 1) (hs : a.eval s = v) (hown : OwnV w B e v xs) (hx : a.eval x = .slice (some ⟨w.heap.size, 0, none⟩) 1 1) (h1 : u.oneCell' = true) (hlen : (xs.length + 1) * bytes ≤ 140737488355328) (hl2 : xs.length < 140737488355328) (hB : B ≤ w.heap.size)
 (h : ∀ v' w', OwnV w' B e v' (xs ++ [u]) → (∀ k, k < w.heap.size → v.ownBlock ≠ some k → w'.heap[k]? = w.heap[k]?) → Below B w w' → (v'.ownBlock = v.ownBlock ∨ ∃ g, v'.ownBlock = some g ∧ w.heap.size ≤ g) → wpList P ops Q rest (a.put o.dst v') w') :
 wpList P ops Q (o :: rest) a (w.alloc (.cells #[u] e)) := by
 refine wpList_plain hgd fun K hK => ?_
 obtain ⟨v', w', hrun, h2, h3, h4, h5⟩ := run_append_lit (P := P) (ty := o.type) he hz1 hown h1 hlen hl2 hB
 unfold Oper.wp execOp
 simp only [ho, resolve, invoke, builtin, Sem.run_bind, Sem.run_pure, Result.andThen_ok, List.map_toArray, List.map_cons, List.map_nil, hs, hx, hrun]
 exact hK _ _ (h v' w' h2 h3 h4 h5)
end
end Mem
end Go.Proofs.YtahcjnganedbiaaGreatDoor
namespace Go.Proofs.YtahcjnganedbiaaGreatDoor
namespace Sha
structure Q4 where
 a : BitVec 32
 b : BitVec 32
 c : BitVec 32
 d : BitVec 32
def Q4.list (q : Q4) : List (BitVec 32) := [q.a, q.b, q.c, q.d]
def q4 (l : List (BitVec 32)) : Q4 := ⟨l.getD 0 0, l.getD 1 0, l.getD 2 0, l.getD 3 0⟩
def qa1 (q : Q4) : BitVec 32 := q.a + q.b
def qd1 (q : Q4) : BitVec 32 := (q.d ^^^ qa1 q).rotateLeft 16
def qc1 (q : Q4) : BitVec 32 := q.c + qd1 q
def qb1 (q : Q4) : BitVec 32 := (q.b ^^^ qc1 q).rotateLeft 12
def qa2 (q : Q4) : BitVec 32 := qa1 q + qb1 q
def qd2 (q : Q4) : BitVec 32 := (qd1 q ^^^ qa2 q).rotateLeft 8
def qc2 (q : Q4) : BitVec 32 := qc1 q + qd2 q
def qb2 (q : Q4) : BitVec 32 := (qb1 q ^^^ qc2 q).rotateLeft 7
def qr (q : Q4) : Q4 := ⟨qa2 q, qb2 q, qc2 q, qd2 q⟩
def qat (w : List (BitVec 32)) (i j k l : Nat) : List (BitVec 32) :=
 (((w.set i (qr ⟨w.getD i 0, w.getD j 0, w.getD k 0, w.getD l 0⟩).a).set j (qr ⟨w.getD i 0, w.getD j 0, w.getD k 0, w.getD l 0⟩).b).set k (qr ⟨w.getD i 0, w.getD j 0, w.getD k 0, w.getD l 0⟩).c).set l (qr ⟨w.getD i 0, w.getD j 0, w.getD k 0, w.getD l 0⟩).d
theorem qat_length (w : List (BitVec 32)) (i j k l : Nat) : (qat w i j k l).length = w.length := by simp [qat]
def plc : List (List Nat) := [[0, 4, 8, 12], [1, 5, 9, 13], [2, 6, 10, 14], [3, 7, 11, 15], [0, 5, 10, 15], [1, 6, 11, 12], [2, 7, 8, 13], [3, 4, 9, 14]]
def qpl (w : List (BitVec 32)) (p : List Nat) : List (BitVec 32) := qat w (p.getD 0 0) (p.getD 1 0) (p.getD 2 0) (p.getD 3 0)
def some8 (w : List (BitVec 32)) (m : Nat) : List (BitVec 32) := (plc.take m).foldl qpl w
def all8 (w : List (BitVec 32)) : Nat → List (BitVec 32)
 | 0 => w
 | n + 1 => some8 (all8 w n) 8
theorem some8_next (w : List (BitVec 32)) (m : Nat) (h : m < 8) : some8 w (m + 1) = qpl (some8 w m) (plc.getD m []) := by
 have hm : m < plc.length := h
 unfold some8
 rw [List.take_succ_eq_append_getElem hm, List.foldl_append]
 simp [hm]
theorem some8_length (w : List (BitVec 32)) : ∀ m, m ≤ 8 → (some8 w m).length = w.length
 | 0, _ => rfl
 | m + 1, h => by rw [some8_next w m (by omega), qpl, qat_length, some8_length w m (by omega)]
theorem all8_length (w : List (BitVec 32)) : ∀ n, (all8 w n).length = w.length
 | 0 => rfl
 | n + 1 => by rw [all8, some8_length _ 8 (by decide), all8_length w n]
def le4 (x : BitVec 32) : List (BitVec 8) := [wb x 0, wb x 8, wb x 16, wb x 24]
def lew (b : List (BitVec 8)) (i : Nat) : BitVec 32 :=
 (b.getD (4 * i + 3) 0).setWidth 32 <<< 24 ||| (b.getD (4 * i + 2) 0).setWidth 32 <<< 16 ||| (b.getD (4 * i + 1) 0).setWidth 32 <<< 8 ||| (b.getD (4 * i) 0).setWidth 32
def cfirst (key nonce : List (BitVec 8)) (n : BitVec 32) : List (BitVec 32) :=
 [1634760805, 857760878, 2036477234, 1797285236] ++ (List.range 8).map (lew key) ++ [n] ++ (List.range 3).map (lew nonce)
theorem cfirst_length (key nonce : List (BitVec 8)) (n : BitVec 32) : (cfirst key nonce n).length = 16 := by simp [cfirst]
def cwords (key nonce : List (BitVec 8)) (n : BitVec 32) : List (BitVec 32) := adds (all8 (cfirst key nonce n) 10) (cfirst key nonce n)
def cByte (l : List (BitVec 32)) (i : Nat) : BitVec 8 := wb (l.getD (i / 4) 0) (8 * (i % 4))
def cblk (key nonce : List (BitVec 8)) (n : BitVec 32) : List (BitVec 8) := (List.range 64).map (cByte (cwords key nonce n))
theorem cblk_length (key nonce : List (BitVec 8)) (n : BitVec 32) : (cblk key nonce n).length = 64 := by simp [cblk]
def cblks (key nonce : List (BitVec 8)) (n : BitVec 32) : Nat → List (BitVec 8)
 | 0 => []
 | j + 1 => cblks key nonce n j ++ cblk key nonce (n + BitVec.ofNat 32 j)
theorem cblks_length (key nonce : List (BitVec 8)) (n : BitVec 32) : ∀ j, (cblks key nonce n j).length = 64 * j
 | 0 => rfl
 | j + 1 => by rw [cblks, List.length_append, cblks_length key nonce n j, cblk_length]; omega
theorem cblks_more (key nonce : List (BitVec 8)) (n : BitVec 32) (j : Nat) : ∀ i, (cblks key nonce n (j + i)).take (64 * j) = cblks key nonce n j
 | 0 => by rw [Nat.add_zero, List.take_of_length_le (by rw [cblks_length]; omega)]
 | i + 1 => by rw [← Nat.add_assoc, cblks, List.take_append_of_le_length (by rw [cblks_length]; omega), cblks_more key nonce n j i]
def cstream (key nonce : List (BitVec 8)) (n : BitVec 32) (size : Nat) : List (BitVec 8) := (cblks key nonce n ((size + 63) / 64)).take size
theorem cstream_length (key nonce : List (BitVec 8)) (n : BitVec 32) (size : Nat) : (cstream key nonce n size).length = size := by
 rw [cstream, List.length_take, cblks_length]; omega
theorem cstream_from (key nonce : List (BitVec 8)) (n : BitVec 32) (size j : Nat) (h : size ≤ 64 * j) : (cblks key nonce n j).take size = cstream key nonce n size := by
 have hc : (size + 63) / 64 ≤ j := by omega
 obtain ⟨i, rfl⟩ : ∃ i, j = (size + 63) / 64 + i := ⟨j - (size + 63) / 64, by omega⟩
 have e := cblks_more key nonce n ((size + 63) / 64) i
 rw [cstream, ← e, List.take_take]
 congr 1
 omega
def cturn (b s : List (BitVec 8)) : List (BitVec 8) := List.zipWith (· ^^^ ·) b s ++ b.drop s.length
theorem cturn_length (b s : List (BitVec 8)) (h : s.length ≤ b.length) : (cturn b s).length = b.length := by
 simp [cturn]; omega
def wb64 (x : BitVec 64) (k : Nat) : BitVec 8 := (x >>> k).setWidth 8
def cnonce (e : BitVec 32) (b : BitVec 64) : List (BitVec 8) := (List.range 4).map (fun i => wb e (8 * i)) ++ (List.range 8).map fun i => wb64 b (8 * i)
theorem cnonce_length (e : BitVec 32) (b : BitVec 64) : (cnonce e b).length = 12 := by simp [cnonce]
end Sha
end Go.Proofs.YtahcjnganedbiaaGreatDoor
