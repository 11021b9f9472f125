/- Numbers and texts as bytes: mathematics. What a reader's box is, and how its methods end. Package pack's small functions. Package pack's Num and Fill: what they tell lies in a block of its own. Package pack's reader as one box. Package pack's reader: its methods. Package pack's areZeros. Package pack's reader: Rest. What a reader's calls tell; a copy into a row; a call of a bound function value. Package pack's Fill: what it tells lies in a block of its own. -/
import Derived.Test.YtfbhbdllbapnpaaBA
import Derived.Laws.BitsAllLaws
import Derived.Lib.SliceRun
import Derived.BigQuiet
import Derived.Laws.CopyRow
import Derived.Laws.IdiomCopy
namespace Go.Proofs.Ytfbhbdllbapnpaa
namespace Sha
/-- A number's byte, its lowest so many bytes; the number of some bytes. -/
def nbyte (m i : Nat) : BitVec 8 := BitVec.ofNat 8 (m / 256 ^ i)
def nbytes (m k : Nat) : List (BitVec 8) := (List.range k).map (nbyte m)
def leN : List (BitVec 8) → Nat
  | [] => 0
  | x :: l => x.toNat + 256 * leN l
theorem nbytes_length (m k : Nat) : (nbytes m k).length = k := by simp [nbytes]
theorem nbytes_succ (m k : Nat) : nbytes m (k + 1) = nbytes m k ++ [nbyte m k] := by simp [nbytes, List.range_succ]
theorem nbytes_cons (m k : Nat) : nbytes m (k + 1) = nbyte m 0 :: nbytes (m / 256) k := by
  have h : ∀ i, nbyte m (i + 1) = nbyte (m / 256) i := fun i => by
    unfold nbyte
    rw [Nat.pow_succ, Nat.mul_comm, Nat.div_div_eq_div_mul]
  simp [nbytes, List.range_succ_eq_map, Function.comp_def, h]
theorem leN_nbytes : ∀ (k m : Nat), leN (nbytes m k) = m % 256 ^ k
  | 0, m => by simp [nbytes, leN, Nat.mod_one]
  | k + 1, m => by
    rw [nbytes_cons, leN, leN_nbytes k (m / 256)]
    have h1 : (nbyte m 0).toNat = m % 256 := by simp [nbyte]
    rw [h1, Nat.pow_succ, Nat.mul_comm (256 ^ k) 256, Nat.mod_mul]
theorem leN_lt : ∀ l : List (BitVec 8), leN l < 256 ^ l.length
  | [] => by simp [leN]
  | x :: l => by
    have h := leN_lt l
    have hx := x.isLt
    rw [leN, List.length_cons, Nat.pow_succ]
    omega
theorem leN_64 (l : List (BitVec 8)) (h : l.length ≤ 8) : leN l < 18446744073709551616 := by
  have h1 := leN_lt l
  have h2 : 256 ^ l.length ≤ 256 ^ 8 := Nat.pow_le_pow_right (by decide) h
  have h3 : (256 ^ 8 : Nat) = 18446744073709551616 := by decide
  omega
theorem leN_drop (l : List (BitVec 8)) (i : Nat) (h : i < l.length) : leN (l.drop i) = (l.getD i 0).toNat + 256 * leN (l.drop (i + 1)) := by
  rw [List.drop_eq_getElem_cons h, leN]
  simp [h]
theorem nbytes_leN : ∀ l : List (BitVec 8), nbytes (leN l) l.length = l
  | [] => rfl
  | x :: l => by
    have hx := x.isLt
    rw [List.length_cons, nbytes_cons, leN]
    have h1 : (x.toNat + 256 * leN l) / 256 = leN l := by omega
    have h2 : nbyte (x.toNat + 256 * leN l) 0 = x := by
      apply BitVec.eq_of_toNat_eq
      simp [nbyte]; omega
    rw [h1, h2, nbytes_leN l]
/-- A number from one to another one. -/
def cutN (z : Int) (lo hi : Nat) : Nat := (min (max z (lo : Int)) (hi : Int)).toNat
theorem cutN_val (z : Int) (lo hi : Nat) (_h : lo ≤ hi) : ((cutN z lo hi : Nat) : Int) = min (max z (lo : Int)) (hi : Int) := by unfold cutN; omega
theorem cutN_lo (z : Int) (lo hi : Nat) (h : lo ≤ hi) : lo ≤ cutN z lo hi := by unfold cutN; omega
theorem cutN_hi (z : Int) (lo hi : Nat) : cutN z lo hi ≤ hi := by unfold cutN; omega
theorem cutN_in (n lo hi : Nat) (h0 : lo ≤ n) (h1 : n ≤ hi) : cutN (n : Int) lo hi = n := by unfold cutN; omega
/-- A text in its place. -/
def textB (s : List (BitVec 8)) (place : Nat) : List (BitVec 8) := BitVec.ofNat 8 s.length :: s ++ List.replicate (place - s.length) 0
theorem textB_length (s : List (BitVec 8)) (place : Nat) (h : s.length ≤ place) : (textB s place).length = place + 1 := by simp [textB]; omega
def allZ (l : List (BitVec 8)) : Bool := l.all (· == 0)
/-- What a reader takes: the bytes, those that are left, its error. -/
structure Rd3 where
  x : List (BitVec 8)
  b : List (BitVec 8)
  e : Nat
def rdTake (b : List (BitVec 8)) (e n : Nat) : Rd3 := if e ≠ 0 then ⟨[], b, e⟩ else if b.length < n then ⟨[], b, 4⟩ else ⟨b.take n, b.drop n, 0⟩
def rdNum (b : List (BitVec 8)) (e : Nat) (k most : Nat) : Nat × List (BitVec 8) × Nat :=
  if (rdTake b e k).e ≠ 0 then (0, (rdTake b e k).b, (rdTake b e k).e) else if most < leN (rdTake b e k).x then (0, (rdTake b e k).b, 3) else (leN (rdTake b e k).x, (rdTake b e k).b, 0)
def rdText (b : List (BitVec 8)) (e : Nat) (p : Nat) : Rd3 :=
  if (rdTake b e (p + 1)).e ≠ 0 then ⟨[], (rdTake b e (p + 1)).b, (rdTake b e (p + 1)).e⟩
  else if p < ((rdTake b e (p + 1)).x.getD 0 0).toNat ∨ allZ ((rdTake b e (p + 1)).x.drop (1 + ((rdTake b e (p + 1)).x.getD 0 0).toNat)) = false then ⟨[], (rdTake b e (p + 1)).b, 3⟩
  else ⟨((rdTake b e (p + 1)).x.drop 1).take ((rdTake b e (p + 1)).x.getD 0 0).toNat, (rdTake b e (p + 1)).b, 0⟩
def rdRest (b : List (BitVec 8)) (e : Nat) : Nat := if e = 0 ∧ allZ b = false then 3 else e
def rdLeft (b : List (BitVec 8)) (e : Nat) : Nat := if e ≠ 0 then 0 else b.length
theorem rdTake_len (b : List (BitVec 8)) (e n : Nat) (h : (rdTake b e n).e = 0) : (rdTake b e n).x.length = n ∧ e = 0 ∧ n ≤ b.length := by
  unfold rdTake at *
  split at h <;> rename_i h1
  · exact absurd h h1
  · split at h <;> rename_i h2
    · simp at h
    · rw [if_neg h1, if_neg h2]
      exact ⟨by simp; omega, by omega, by omega⟩
theorem rdTake_err (b : List (BitVec 8)) (e n : Nat) (h : (rdTake b e n).e ≠ 0) : (rdTake b e n).x = [] ∧ (rdTake b e n).b = b := by
  unfold rdTake at *
  split at h <;> rename_i h1
  · rw [if_pos h1]; exact ⟨rfl, rfl⟩
  · split at h <;> rename_i h2
    · rw [if_neg h1, if_pos h2]; exact ⟨rfl, rfl⟩
    · simp at h
end Sha
end Go.Proofs.Ytfbhbdllbapnpaa
namespace Go.Proofs.Ytfbhbdllbapnpaa
namespace Sha
open Go.RowKit Mem
def fillB (b : List (BitVec 8)) (size : Nat) : List (BitVec 8) := b ++ List.replicate (size - b.length) 0
/-- A slice of bytes lies in no block whose cells are no bytes. -/
theorem Sl.but_at {w w' : World} {v : Value} {l : List (BitVec 8)} {br : Nat} {C : Array Value} {t : TypeId} (h : Sl w v l) (hC : At w br C t) (hno : ∀ (k : Nat) (x : Int), C[k]? ≠ some (.int .u8 x)) (hb : But br w w') : Sl w' v l := by
  obtain ⟨a, cap, rfl, hc, hr⟩ := h
  refine ⟨a, cap, rfl, hc, fun hne => ?_⟩
  obtain ⟨bb, oo, rfl, hlt, hcell⟩ := hr hne
  have h0 : 0 < l.length := List.length_pos_iff.2 hne
  have hbn : bb ≠ br := by
    rintro rfl
    have h1 := hcell 0 h0
    rw [hC.cell] at h1
    exact hno _ _ h1
  refine ⟨bb, oo, rfl, Nat.lt_of_lt_of_le hlt hb.size, fun i hi => ?_⟩
  rw [World.cell?_of_block (w := w) (w' := w') (a := ⟨bb, oo + i, none⟩) (hb.block bb hlt hbn)]
  exact hcell i hi
/-- A reader's box: what is left, and its error. -/
def rdRow (v : Value) (e : Nat) : Array Value := #[v, .int .i64 (e : Int)]
theorem rdRow_no (a : Option Addr) (n cap e : Nat) (k : Nat) (x : Int) : (rdRow (.slice a n cap) e)[k]? ≠ some (.int .u8 x) := by
  unfold rdRow
  match k with
  | 0 => simp
  | 1 => simp
  | k + 2 => simp
theorem rdTake_small (b : List (BitVec 8)) (e n : Nat) : (rdTake b e n).x.length ≤ n ∧ (rdTake b e n).x.length ≤ b.length ∧ (rdTake b e n).b.length ≤ b.length ∧ ((rdTake b e n).e = e ∨ (rdTake b e n).e = 4) := by
  unfold rdTake
  split
  · simp
  · split
    · simp
    · simp; omega
theorem rdTake_e (b : List (BitVec 8)) (e n : Nat) (he : e ≤ 100) : (rdTake b e n).e ≤ 100 := by
  rcases (rdTake_small b e n).2.2.2 with h | h <;> omega
/-- An account of the program's reader: in this world, at this block, these bytes are left and this is its error. -/
abbrev RdAcc := World → Nat → List (BitVec 8) → Nat → Prop
/-- How a method of the program's reader ends. -/
structure PkEnd (R : RdAcc) (w : World) (br : Nat) (b : List (BitVec 8)) (e : Nat) (w' : World) : Prop where
  r : R w' br b e
  o : But br w w'
  k : ∀ B x, Below B x w → B ≤ br → Below B x w'
abbrev rp (br : Nat) : Value := .pointer (some ⟨br, 0, none⟩)
theorem PkEnd.trans {R : RdAcc} {w w1 w2 : World} {br : Nat} {b1 b2 : List (BitVec 8)} {e1 e2 : Nat} (h : PkEnd R w br b1 e1 w1) (k : PkEnd R w1 br b2 e2 w2) : PkEnd R w br b2 e2 w2 :=
  ⟨k.r, But.same h.o k.o, fun B x hB hle => k.k B x (h.k B x hB hle) hle⟩
end Sha
end Go.Proofs.Ytfbhbdllbapnpaa
namespace Go.Proofs.Ytfbhbdllbapnpaa
namespace Sha
open Go.RowKit Mem
set_option maxHeartbeats 400000 in
theorem numSize_any (z : Int) (w : World) : Calls Try.prog 28 #[.int .i64 z] w fun e w' => e = .returned (.int .i64 ((cutN z 1 8 : Nat) : Int)) ∧ w = w' := by
  have hv := cutN_val z 1 8 (by decide)
  have HV := Lib.hid hv
  clear hv
  go_enter Try.func28, Try.ntmps28
  go_wp2
  go_ret
  exact ⟨by rw [HV.out]; first | rfl | (congr 2; omega), rfl⟩
theorem leN_snoc : ∀ (l : List (BitVec 8)) (x : BitVec 8), leN (l ++ [x]) = leN l + 256 ^ l.length * x.toNat
  | [], x => by simp [leN]
  | y :: l, x => by
    rw [List.cons_append, leN, leN, leN_snoc l x, List.length_cons, Nat.pow_succ, Nat.mul_add]
    have : 256 * (256 ^ l.length * x.toNat) = 256 ^ l.length * 256 * x.toNat := by rw [← Nat.mul_assoc, Nat.mul_comm 256]
    omega
theorem leN_take (l : List (BitVec 8)) (j : Nat) (h : j < l.length) : leN (l.take (j + 1)) = leN (l.take j) ||| (l.getD j 0).toNat * 256 ^ j := by
  have e1 : l.take (j + 1) = l.take j ++ [l.getD j 0] := by
    rw [List.take_succ_eq_append_getElem h]; simp [h]
  have e2 : (l.take j).length = j := by rw [List.length_take]; omega
  have hlt := leN_lt (l.take j)
  rw [e2] at hlt
  rw [e1, leN_snoc, e2]
  have h256 : 256 ^ j = 2 ^ (8 * j) := by rw [Nat.pow_mul]
  rw [h256] at hlt ⊢
  rw [Nat.or_comm, Nat.mul_comm ((l.getD j 0).toNat), ← Nat.two_pow_add_eq_or_of_lt hlt]
  omega
theorem o_shl64 {P : Program} (t t2 : TypeId) (x y : Operand) (a : BitVec 8) (j : Nat) (hj : j < 8) (w : World) : (do eqGuard .shl t x y (.int .u64 (B8 a)) (.int .i64 (8 * (j : Int))); binOp .shl t2 (.int .u64 (B8 a)) (.int .i64 (8 * (j : Int))) : Sem Value).run P w = .ok (.int .u64 ((a.toNat * 256 ^ j : Nat) : Int)) w := by
  have h0 := a.isLt
  have h : j = 0 ∨ j = 1 ∨ j = 2 ∨ j = 3 ∨ j = 4 ∨ j = 5 ∨ j = 6 ∨ j = 7 := by omega
  unfold B8
  rcases h with rfl | rfl | rfl | rfl | rfl | rfl | rfl | rfl
  all_goals (go_simp; simp [IntKind.wrap, IntKind.bits, IntKind.signed]; omega)
theorem o_or64 {P : Program} (t t2 : TypeId) (x y : Operand) (a b : Nat) (ha : a < 18446744073709551616) (hb : b < 18446744073709551616) (w : World) : (do eqGuard .or t x y (.int .u64 (a : Int)) (.int .u64 (b : Int)); binOp .or t2 (.int .u64 (a : Int)) (.int .u64 (b : Int)) : Sem Value).run P w = .ok (.int .u64 ((a ||| b : Nat) : Int)) w := by
  rw [← u64_or_nat a b ha hb]
  go_simp
set_option maxRecDepth 100000 in
set_option maxHeartbeats 1000000 in
theorem num_any (l : List (BitVec 8)) (v : Value) (w : World) (bl : l.length ≤ 8) (hv : Sl w v l) :
    Calls Try.prog 39 #[v] w fun e w' => e = .returned (.int .u64 ((leN l : Nat) : Int)) ∧ w = w' := by
  have hv0 := hv
  obtain ⟨a0, cap, rfl, _, _⟩ := hv
  obtain ⟨m, hm⟩ : ∃ m, m = l.length := ⟨_, rfl⟩
  rw [← hm] at bl
  have HV := Lib.hid hv0; have HM := Lib.hid hm
  rw [← hm]
  clear hv0 hm
  go_enter Try.func39, Try.ntmps39
  go_wp2_with fail
  go_loop [3, 8] (fun vn i => ∃ j : Nat, j ≤ m ∧ i = .int .i64 j ∧ vn = .int .u64 ((leN (l.take j) : Nat) : Int)) (fun _ i => m - (intOf i).toNat)
  case atStart => exact ⟨0, by omega, rfl, by simp [leN]⟩
  case round =>
    obtain ⟨j, hj, rfl, rfl⟩ := hrel
    by_cases hlt : j < m
    · obtain ⟨b1, o1, rfl, cx⟩ := sl_at (i := j) HV.out (by rw [← HM.out]; exact hlt)
      have hlt' : (j : Int) < (m : Int) := by omega
      have htk := leN_take l j (by rw [← HM.out]; exact hlt)
      have ha : leN (l.take j) < 18446744073709551616 := leN_64 _ (by rw [List.length_take]; omega)
      obtain ⟨x, hxx⟩ : ∃ x, x = l.getD j 0 := ⟨_, rfl⟩
      rw [← hxx] at cx htk
      have hb : x.toNat * 256 ^ j < 18446744073709551616 := by
        have h1 := x.isLt
        have h2 : 256 ^ j ≤ 256 ^ 7 := Nat.pow_le_pow_right (by decide) (by omega)
        have h3 : x.toNat * 256 ^ j ≤ 255 * 256 ^ 7 := Nat.mul_le_mul (by omega) h2
        omega
      obtain ⟨q, hq⟩ : ∃ q, q = leN (l.take j) := ⟨_, rfl⟩
      rw [← hq] at htk ha ⊢
      have hsh := fun (t t2 : TypeId) (xx yy : Operand) wx => o_shl64 (P := Try.prog) t t2 xx yy x j (by omega) wx
      obtain ⟨s, hs⟩ : ∃ s, s = x.toNat * 256 ^ j := ⟨_, rfl⟩
      rw [← hs] at htk hb hsh
      have hor := fun (t t2 : TypeId) (xx yy : Operand) wx => o_or64 (P := Try.prog) t t2 xx yy q s ha hb wx
      rw [← htk] at hor
      have b0 := B8_lo x; have bh := B8_hi x
      have SH := Lib.hid hsh; have OR := Lib.hid hor
      clear htk ha hb hxx hq hs hsh hor
      go_wp2_with (first
        | (refine wpList_bin (by rfl) .shl _ _ _ _ _ _ _ (by rfl) (by rfl) (by rfl) (fun wx => SH.out _ _ _ _ wx) ?_)
        | (refine wpList_bin (by rfl) .or _ _ _ _ _ _ _ (by rfl) (by rfl) (by rfl) (fun wx => OR.out _ _ _ _ wx) ?_))
      go_round
      case rel => exact ⟨j + 1, by omega, by go_num, rfl⟩
      case measure => simp [intOf]; omega
    · have hjm : j = m := by omega
      have hge : ¬ (j : Int) < (m : Int) := by omega
      have hall : Hid (leN (l.take j) = leN l) := by show leN (l.take j) = leN l; rw [hjm, HM.out, List.take_length]
      clear hjm hlt hj
      rw [hall.out]
      go_wp2
      go_ret
      exact ⟨rfl, rfl⟩
theorem own_empty (w : World) (B : Nat) (hB : B ≤ w.heap.size) : OwnB (w.alloc (.cells #[] 5)) B (.slice (some ⟨w.heap.size, 0, none⟩) 0 0) [] := World.ownsRow_made w #[] 0 hB (Nat.zero_le _) rfl
set_option maxRecDepth 100000 in
set_option maxHeartbeats 1000000 in
/-- bytes.Clone: its own text is walked. -/
theorem clone_any (l : List (BitVec 8)) (v : Value) (w : World) (bl : l.length ≤ 70368744177664) (hv : Sl w v l) : Calls Try.prog 37 #[v] w (RSEnd w l) := by
  have q22 : ∀ (w : World) (a : Option Addr) (n c n' c' : Nat), (binOp .eql 24 (.slice a n c) (.slice none n' c')).run Try.prog w = .ok (.bool a.isNone) w := fun w a n c n' c' => Lib.run_eql_slice_nil w _ _ a n c n' c' Try.underlying24
  have hv0 := hv
  obtain ⟨a0, cap, rfl, _, hr⟩ := hv
  obtain ⟨m, hm⟩ : ∃ m, m = l.length := ⟨_, rfl⟩
  cases a0 with
  | none =>
    have hl : l = [] := by
      rcases l with _ | ⟨x, l⟩
      · rfl
      · obtain ⟨_, _, h, _⟩ := hr (by simp)
        cases h
    subst hl
    clear hr hv0 hm
    go_enter Try.func37, Try.ntmps37
    go_wp2
    go_ret
    exact ⟨_, rfl, sl_none _, Below.refl _ _⟩
  | some ad =>
    have hsl : Sl (w.alloc (.cells #[] 5)) (.slice (some ad) l.length cap) l := hv0.below ((Below.refl _ _).alloc (Nat.le_refl _) _)
    have hb0 : Below w.heap.size w (w.alloc (.cells #[] 5)) := (Below.refl _ _).alloc (Nat.le_refl _) _
    have how := own_empty w w.heap.size (Nat.le_refl _)
    rw [← hm] at bl hsl ⊢
    have HV := Lib.hid hsl; have HM := Lib.hid hm; have HB := Lib.hid hb0; have HO := Lib.hid how
    clear hv0 hm hr hsl hb0 how
    go_enter Try.func37, Try.ntmps37
    go_wp2_with (at_builtin; refine wpList_append_bytes (by rfl) _ _ (by rfl) w.heap.size (.slice (some ⟨w.heap.size, 0, none⟩) 0 0) (.slice (some ad) m cap) [] l (by rfl) HO.out (by rfl) HV.out (by rw [List.length_nil, ← HM.out]; omega) (by simp) ?_; intro v5 w5 ho5 _ hb5; have O5 := Lib.hid ho5; have B5 := Lib.hid (HB.out.trans hb5); clear ho5 hb5)
    go_ret
    exact ⟨_, rfl, by simpa using O5.out.sl, B5.out⟩
theorem zeros_splice (b : List (BitVec 8)) (k m : Nat) (hm : m = b.length) : Mem.splice (u8s (List.replicate (m + k) 0)).toArray 0 (u8s (b.take m)) = (u8s (b ++ List.replicate k 0)).toArray := by
  subst hm
  rw [List.take_length, ← List.replicate_append_replicate]
  unfold Mem.splice u8s
  simp
set_option maxRecDepth 100000 in
set_option maxHeartbeats 1000000 in
theorem lengthen_any (b : List (BitVec 8)) (k : Nat) (v : Value) (w : World) (hb : b.length + k ≤ 1000000) (hv : Sl w v b) :
    Calls Try.prog 29 #[v, .int .i64 (k : Int)] w (SEnd w (b ++ List.replicate k 0)) := by
  obtain ⟨i8, hi8, hz8, hs8, hb8⟩ := info_parts infoU8
  have hv0 := hv
  obtain ⟨a0, cap, rfl, _, _⟩ := hv
  obtain ⟨m, hm⟩ : ∃ m, m = b.length := ⟨_, rfl⟩
  have hsp := zeros_splice b k m hm
  have hlen : (b ++ List.replicate k 0).length = m + k := by simp [hm]
  rw [← hm] at hb hv0 ⊢
  obtain ⟨T, hT⟩ : ∃ T, T = m + k := ⟨_, rfl⟩
  have hTi : (m : Int) + (k : Int) = (T : Int) := by omega
  have hmT : m ≤ T := by omega
  rw [← hT] at hsp hlen
  have T6 : T ≤ 1000000 := by omega
  have I8 := Lib.hid hi8; have Z8 := Lib.hid hz8; have S8 := Lib.hid hs8; have B8' := Lib.hid hb8; have HV := Lib.hid hv0; have HM := Lib.hid hm; have SP := Lib.hid hsp; have HL := Lib.hid hlen; have TI := Lib.hid hTi; have T6' := Lib.hid T6; have MT := Lib.hid hmT
  clear hi8 hz8 hs8 hb8 hv0 hm hsp hlen hT hTi hmT
  go_enter Try.func29, Try.ntmps29
  go_wp2_with (first
    | (refine wpList_make_full _ (by rfl) _ _ 24 (by rfl) w.heap.size 5 i8 (.int .u8 0) 1 Try.underlying24 I8.out Z8.out S8.out .i64 .i64 ((m : Int) + (k : Int)) ((m : Int) + (k : Int)) T (by rfl) (by rfl) TI.out TI.out (by rw [B8'.out]; omega) (by simp [maxLen]; omega) (Nat.le_refl _) ?_; intro w4 ho4 hg4; have R4 : Hid (At w4 w.heap.size (u8s (List.replicate T 0)).toArray 5) := (by have h := own_full ho4; rw [made_zeros] at h; exact h); have B4 : Hid (Below w.heap.size w w4) := (Below.refl _ _).grown hg4 (Nat.le_refl _) (fun _ h => by cases h); clear ho4 hg4)
    | (refine wpList_copy_sl (by rfl) _ _ (by rfl) w.heap.size 0 T T (.slice a0 m cap) b (by rfl) (by rfl) (HV.out.below B4.out) m (by rw [← HM.out]; exact (Nat.min_eq_left MT.out).symm) _ 5 R4.out (by rw [List.size_toArray, u8s_length, List.length_replicate]; have := MT.out; omega) _ SP.out ?_; intro w5 ha5 hs5 ho5 hk5; have A5 := Lib.hid ha5; have B5 : Hid (Below w.heap.size w w5) := hk5 _ _ B4.out (Nat.le_refl _); clear ha5 hs5 ho5 hk5))
  go_ret
  exact ⟨w.heap.size, by rw [HL.out]; rfl, A5.out, Nat.le_refl _, B5.out⟩
/-- Bytes, places of a number that are 0 so far, and those that are put. -/
def putRow (b : List (BitVec 8)) (n K j : Nat) : List (BitVec 8) := b ++ List.replicate j 0 ++ (nbytes n K).drop j
theorem putRow_length (b : List (BitVec 8)) (n K j : Nat) (h : j ≤ K) : (putRow b n K j).length = b.length + K := by simp [putRow, nbytes_length]; omega
theorem putRow_first (b : List (BitVec 8)) (n K : Nat) : putRow b n K K = b ++ List.replicate K 0 := by
  rw [putRow, List.drop_of_length_le (by rw [nbytes_length]; exact Nat.le_refl _), List.append_nil]
theorem putRow_last (b : List (BitVec 8)) (n K : Nat) : putRow b n K 0 = b ++ nbytes n K := by simp [putRow]
theorem putRow_step (b : List (BitVec 8)) (n K o j : Nat) (ho : o = b.length) (h : j < K) (q : Int) (hq : q = ((nbyte n j).toNat : Int)) :
    (u8s (putRow b n K (j + 1))).toArray.setIfInBounds (o + j) (.int .u8 q) = (u8s (putRow b n K j)).toArray := by
  subst ho; subst hq
  rw [u8s_set]
  congr 2
  have e : (nbytes n K).drop j = nbyte n j :: (nbytes n K).drop (j + 1) := by
    rw [List.drop_eq_getElem_cons (by rw [nbytes_length]; exact h)]
    simp [nbytes]
  unfold putRow
  rw [e, List.replicate_succ', List.append_assoc, List.append_assoc, List.set_append_right _ _ (by omega), Nat.add_sub_cancel_left, List.set_append_right _ _ (by simp), List.length_replicate, Nat.sub_self]
  simp
theorem nbyte_val (n j : Nat) (d : Int) (hd : d = ((256 ^ j : Nat) : Int)) : (n : Int) / d % 256 = ((nbyte n j).toNat : Int) := by
  subst hd
  unfold nbyte
  rw [BitVec.toNat_ofNat, ← Int.natCast_ediv]
  rfl
theorem nbyte_top (n : Nat) (hn : n < 18446744073709551616) : (n : Int) / 72057594037927936 = ((nbyte n 7).toNat : Int) := by
  rw [← nbyte_val n 7 72057594037927936 (by decide)]
  omega
def PutEnd (w : World) (g : Nat) (L : List (BitVec 8)) (e : Ending) (w' : World) : Prop := e = .returned (.tuple #[]) ∧ At w' g (u8s L).toArray 5 ∧ ∀ B x, Below B x w → B ≤ g → Below B x w'
set_option maxRecDepth 100000 in
set_option maxHeartbeats 2000000 in
theorem putNum_1 (b : List (BitVec 8)) (n g o c : Nat) (w : World) (ho : o = b.length) (_hn : n < 18446744073709551616) (_hc : 1 ≤ c) (hA : At w g (u8s (b ++ List.replicate 1 0)).toArray 5) :
    Calls Try.prog 30 #[.slice (some ⟨g, o, none⟩) 1 c, .int .u64 (n : Int), .int .i64 1] w (PutEnd w g (b ++ nbytes n 1)) := by
  rw [← putRow_first b n 1] at hA
  rw [← putRow_last b n 1]
  have A1 := Lib.hid hA
  have K1 : Hid (∀ B x, Below B x w → B ≤ g → Below B x w) := fun _ _ h _ => h
  have N0 := Lib.hid (show (n : Int) % 256 = ((nbyte n 0).toNat : Int) from (by have h := nbyte_val n 0 1 (by decide); simpa using h))
  have S0 : Hid ((u8s (putRow b n 1 1)).toArray.setIfInBounds (o + 0) (.int .u8 ((n : Int) % 256)) = (u8s (putRow b n 1 0)).toArray) := putRow_step b n 1 o 0 ho (by decide) _ N0.out
  have SZ1 : Hid ((u8s (putRow b n 1 1)).toArray.size = o + 1) := (by show _ = _; rw [List.size_toArray, u8s_length, putRow_length _ _ _ _ (by decide), ho])
  clear hA ho
  go_enter Try.func30, Try.ntmps30
  go_wp2_with (first
    | (refine Mem.wpList_store_one (by rfl) 5 _ _ (by rfl) (by rfl) g (o + 0) (.int .u8 ((n : Int) % 256)) (by rfl) (by rfl) (by rfl) infoB _ 5 A1.out (by rw [SZ1.out]; omega) ?_; intro w0 ha ho hk; rw [S0.out] at ha; have A0 := Lib.hid ha; have K0 : Hid (∀ B x, Below B x w → B ≤ g → Below B x w0) := (fun B x h hle => hk B x (K1.out B x h hle) hle); clear ha ho hk A1 K1))
  go_end0
  exact ⟨rfl, A0.out, K0.out⟩
set_option maxRecDepth 100000 in
set_option maxHeartbeats 2000000 in
theorem putNum_2 (b : List (BitVec 8)) (n g o c : Nat) (w : World) (ho : o = b.length) (_hn : n < 18446744073709551616) (_hc : 2 ≤ c) (hA : At w g (u8s (b ++ List.replicate 2 0)).toArray 5) :
    Calls Try.prog 30 #[.slice (some ⟨g, o, none⟩) 2 c, .int .u64 (n : Int), .int .i64 2] w (PutEnd w g (b ++ nbytes n 2)) := by
  rw [← putRow_first b n 2] at hA
  rw [← putRow_last b n 2]
  have A2 := Lib.hid hA
  have K2 : Hid (∀ B x, Below B x w → B ≤ g → Below B x w) := fun _ _ h _ => h
  have N0 := Lib.hid (show (n : Int) % 256 = ((nbyte n 0).toNat : Int) from (by have h := nbyte_val n 0 1 (by decide); simpa using h))
  have S0 : Hid ((u8s (putRow b n 2 1)).toArray.setIfInBounds (o + 0) (.int .u8 ((n : Int) % 256)) = (u8s (putRow b n 2 0)).toArray) := putRow_step b n 2 o 0 ho (by decide) _ N0.out
  have SZ1 : Hid ((u8s (putRow b n 2 1)).toArray.size = o + 2) := (by show _ = _; rw [List.size_toArray, u8s_length, putRow_length _ _ _ _ (by decide), ho])
  have N1 := Lib.hid (nbyte_val n 1 256 (by decide))
  have S1 : Hid ((u8s (putRow b n 2 2)).toArray.setIfInBounds (o + 1) (.int .u8 ((n : Int) / 256 % 256)) = (u8s (putRow b n 2 1)).toArray) := putRow_step b n 2 o 1 ho (by decide) _ N1.out
  have SZ2 : Hid ((u8s (putRow b n 2 2)).toArray.size = o + 2) := (by show _ = _; rw [List.size_toArray, u8s_length, putRow_length _ _ _ _ (by decide), ho])
  clear hA ho
  go_enter Try.func30, Try.ntmps30
  go_wp2_with (first
    | (refine Mem.wpList_store_one (by rfl) 5 _ _ (by rfl) (by rfl) g (o + 1) (.int .u8 ((n : Int) / 256 % 256)) (by rfl) (by rfl) (by rfl) infoB _ 5 A2.out (by rw [SZ2.out]; omega) ?_; intro w1 ha ho hk; rw [S1.out] at ha; have A1 := Lib.hid ha; have K1 : Hid (∀ B x, Below B x w → B ≤ g → Below B x w1) := (fun B x h hle => hk B x (K2.out B x h hle) hle); clear ha ho hk A2 K2)
    | (refine Mem.wpList_store_one (by rfl) 5 _ _ (by rfl) (by rfl) g (o + 0) (.int .u8 ((n : Int) % 256)) (by rfl) (by rfl) (by rfl) infoB _ 5 A1.out (by rw [SZ1.out]; omega) ?_; intro w0 ha ho hk; rw [S0.out] at ha; have A0 := Lib.hid ha; have K0 : Hid (∀ B x, Below B x w → B ≤ g → Below B x w0) := (fun B x h hle => hk B x (K1.out B x h hle) hle); clear ha ho hk A1 K1))
  go_end0
  exact ⟨rfl, A0.out, K0.out⟩
set_option maxRecDepth 100000 in
set_option maxHeartbeats 2000000 in
theorem putNum_3 (b : List (BitVec 8)) (n g o c : Nat) (w : World) (ho : o = b.length) (_hn : n < 18446744073709551616) (_hc : 3 ≤ c) (hA : At w g (u8s (b ++ List.replicate 3 0)).toArray 5) :
    Calls Try.prog 30 #[.slice (some ⟨g, o, none⟩) 3 c, .int .u64 (n : Int), .int .i64 3] w (PutEnd w g (b ++ nbytes n 3)) := by
  rw [← putRow_first b n 3] at hA
  rw [← putRow_last b n 3]
  have A3 := Lib.hid hA
  have K3 : Hid (∀ B x, Below B x w → B ≤ g → Below B x w) := fun _ _ h _ => h
  have N0 := Lib.hid (show (n : Int) % 256 = ((nbyte n 0).toNat : Int) from (by have h := nbyte_val n 0 1 (by decide); simpa using h))
  have S0 : Hid ((u8s (putRow b n 3 1)).toArray.setIfInBounds (o + 0) (.int .u8 ((n : Int) % 256)) = (u8s (putRow b n 3 0)).toArray) := putRow_step b n 3 o 0 ho (by decide) _ N0.out
  have SZ1 : Hid ((u8s (putRow b n 3 1)).toArray.size = o + 3) := (by show _ = _; rw [List.size_toArray, u8s_length, putRow_length _ _ _ _ (by decide), ho])
  have N1 := Lib.hid (nbyte_val n 1 256 (by decide))
  have S1 : Hid ((u8s (putRow b n 3 2)).toArray.setIfInBounds (o + 1) (.int .u8 ((n : Int) / 256 % 256)) = (u8s (putRow b n 3 1)).toArray) := putRow_step b n 3 o 1 ho (by decide) _ N1.out
  have SZ2 : Hid ((u8s (putRow b n 3 2)).toArray.size = o + 3) := (by show _ = _; rw [List.size_toArray, u8s_length, putRow_length _ _ _ _ (by decide), ho])
  have N2 := Lib.hid (nbyte_val n 2 65536 (by decide))
  have S2 : Hid ((u8s (putRow b n 3 3)).toArray.setIfInBounds (o + 2) (.int .u8 ((n : Int) / 65536 % 256)) = (u8s (putRow b n 3 2)).toArray) := putRow_step b n 3 o 2 ho (by decide) _ N2.out
  have SZ3 : Hid ((u8s (putRow b n 3 3)).toArray.size = o + 3) := (by show _ = _; rw [List.size_toArray, u8s_length, putRow_length _ _ _ _ (by decide), ho])
  clear hA ho
  go_enter Try.func30, Try.ntmps30
  go_wp2_with (first
    | (refine Mem.wpList_store_one (by rfl) 5 _ _ (by rfl) (by rfl) g (o + 2) (.int .u8 ((n : Int) / 65536 % 256)) (by rfl) (by rfl) (by rfl) infoB _ 5 A3.out (by rw [SZ3.out]; omega) ?_; intro w2 ha ho hk; rw [S2.out] at ha; have A2 := Lib.hid ha; have K2 : Hid (∀ B x, Below B x w → B ≤ g → Below B x w2) := (fun B x h hle => hk B x (K3.out B x h hle) hle); clear ha ho hk A3 K3)
    | (refine Mem.wpList_store_one (by rfl) 5 _ _ (by rfl) (by rfl) g (o + 1) (.int .u8 ((n : Int) / 256 % 256)) (by rfl) (by rfl) (by rfl) infoB _ 5 A2.out (by rw [SZ2.out]; omega) ?_; intro w1 ha ho hk; rw [S1.out] at ha; have A1 := Lib.hid ha; have K1 : Hid (∀ B x, Below B x w → B ≤ g → Below B x w1) := (fun B x h hle => hk B x (K2.out B x h hle) hle); clear ha ho hk A2 K2)
    | (refine Mem.wpList_store_one (by rfl) 5 _ _ (by rfl) (by rfl) g (o + 0) (.int .u8 ((n : Int) % 256)) (by rfl) (by rfl) (by rfl) infoB _ 5 A1.out (by rw [SZ1.out]; omega) ?_; intro w0 ha ho hk; rw [S0.out] at ha; have A0 := Lib.hid ha; have K0 : Hid (∀ B x, Below B x w → B ≤ g → Below B x w0) := (fun B x h hle => hk B x (K1.out B x h hle) hle); clear ha ho hk A1 K1))
  go_end0
  exact ⟨rfl, A0.out, K0.out⟩
set_option maxRecDepth 100000 in
set_option maxHeartbeats 2000000 in
theorem putNum_4 (b : List (BitVec 8)) (n g o c : Nat) (w : World) (ho : o = b.length) (_hn : n < 18446744073709551616) (_hc : 4 ≤ c) (hA : At w g (u8s (b ++ List.replicate 4 0)).toArray 5) :
    Calls Try.prog 30 #[.slice (some ⟨g, o, none⟩) 4 c, .int .u64 (n : Int), .int .i64 4] w (PutEnd w g (b ++ nbytes n 4)) := by
  rw [← putRow_first b n 4] at hA
  rw [← putRow_last b n 4]
  have A4 := Lib.hid hA
  have K4 : Hid (∀ B x, Below B x w → B ≤ g → Below B x w) := fun _ _ h _ => h
  have N0 := Lib.hid (show (n : Int) % 256 = ((nbyte n 0).toNat : Int) from (by have h := nbyte_val n 0 1 (by decide); simpa using h))
  have S0 : Hid ((u8s (putRow b n 4 1)).toArray.setIfInBounds (o + 0) (.int .u8 ((n : Int) % 256)) = (u8s (putRow b n 4 0)).toArray) := putRow_step b n 4 o 0 ho (by decide) _ N0.out
  have SZ1 : Hid ((u8s (putRow b n 4 1)).toArray.size = o + 4) := (by show _ = _; rw [List.size_toArray, u8s_length, putRow_length _ _ _ _ (by decide), ho])
  have N1 := Lib.hid (nbyte_val n 1 256 (by decide))
  have S1 : Hid ((u8s (putRow b n 4 2)).toArray.setIfInBounds (o + 1) (.int .u8 ((n : Int) / 256 % 256)) = (u8s (putRow b n 4 1)).toArray) := putRow_step b n 4 o 1 ho (by decide) _ N1.out
  have SZ2 : Hid ((u8s (putRow b n 4 2)).toArray.size = o + 4) := (by show _ = _; rw [List.size_toArray, u8s_length, putRow_length _ _ _ _ (by decide), ho])
  have N2 := Lib.hid (nbyte_val n 2 65536 (by decide))
  have S2 : Hid ((u8s (putRow b n 4 3)).toArray.setIfInBounds (o + 2) (.int .u8 ((n : Int) / 65536 % 256)) = (u8s (putRow b n 4 2)).toArray) := putRow_step b n 4 o 2 ho (by decide) _ N2.out
  have SZ3 : Hid ((u8s (putRow b n 4 3)).toArray.size = o + 4) := (by show _ = _; rw [List.size_toArray, u8s_length, putRow_length _ _ _ _ (by decide), ho])
  have N3 := Lib.hid (nbyte_val n 3 16777216 (by decide))
  have S3 : Hid ((u8s (putRow b n 4 4)).toArray.setIfInBounds (o + 3) (.int .u8 ((n : Int) / 16777216 % 256)) = (u8s (putRow b n 4 3)).toArray) := putRow_step b n 4 o 3 ho (by decide) _ N3.out
  have SZ4 : Hid ((u8s (putRow b n 4 4)).toArray.size = o + 4) := (by show _ = _; rw [List.size_toArray, u8s_length, putRow_length _ _ _ _ (by decide), ho])
  clear hA ho
  go_enter Try.func30, Try.ntmps30
  go_wp2_with (first
    | (refine Mem.wpList_store_one (by rfl) 5 _ _ (by rfl) (by rfl) g (o + 3) (.int .u8 ((n : Int) / 16777216 % 256)) (by rfl) (by rfl) (by rfl) infoB _ 5 A4.out (by rw [SZ4.out]; omega) ?_; intro w3 ha ho hk; rw [S3.out] at ha; have A3 := Lib.hid ha; have K3 : Hid (∀ B x, Below B x w → B ≤ g → Below B x w3) := (fun B x h hle => hk B x (K4.out B x h hle) hle); clear ha ho hk A4 K4)
    | (refine Mem.wpList_store_one (by rfl) 5 _ _ (by rfl) (by rfl) g (o + 2) (.int .u8 ((n : Int) / 65536 % 256)) (by rfl) (by rfl) (by rfl) infoB _ 5 A3.out (by rw [SZ3.out]; omega) ?_; intro w2 ha ho hk; rw [S2.out] at ha; have A2 := Lib.hid ha; have K2 : Hid (∀ B x, Below B x w → B ≤ g → Below B x w2) := (fun B x h hle => hk B x (K3.out B x h hle) hle); clear ha ho hk A3 K3)
    | (refine Mem.wpList_store_one (by rfl) 5 _ _ (by rfl) (by rfl) g (o + 1) (.int .u8 ((n : Int) / 256 % 256)) (by rfl) (by rfl) (by rfl) infoB _ 5 A2.out (by rw [SZ2.out]; omega) ?_; intro w1 ha ho hk; rw [S1.out] at ha; have A1 := Lib.hid ha; have K1 : Hid (∀ B x, Below B x w → B ≤ g → Below B x w1) := (fun B x h hle => hk B x (K2.out B x h hle) hle); clear ha ho hk A2 K2)
    | (refine Mem.wpList_store_one (by rfl) 5 _ _ (by rfl) (by rfl) g (o + 0) (.int .u8 ((n : Int) % 256)) (by rfl) (by rfl) (by rfl) infoB _ 5 A1.out (by rw [SZ1.out]; omega) ?_; intro w0 ha ho hk; rw [S0.out] at ha; have A0 := Lib.hid ha; have K0 : Hid (∀ B x, Below B x w → B ≤ g → Below B x w0) := (fun B x h hle => hk B x (K1.out B x h hle) hle); clear ha ho hk A1 K1))
  go_end0
  exact ⟨rfl, A0.out, K0.out⟩
set_option maxRecDepth 100000 in
set_option maxHeartbeats 2000000 in
theorem putNum_5 (b : List (BitVec 8)) (n g o c : Nat) (w : World) (ho : o = b.length) (_hn : n < 18446744073709551616) (_hc : 5 ≤ c) (hA : At w g (u8s (b ++ List.replicate 5 0)).toArray 5) :
    Calls Try.prog 30 #[.slice (some ⟨g, o, none⟩) 5 c, .int .u64 (n : Int), .int .i64 5] w (PutEnd w g (b ++ nbytes n 5)) := by
  rw [← putRow_first b n 5] at hA
  rw [← putRow_last b n 5]
  have A5 := Lib.hid hA
  have K5 : Hid (∀ B x, Below B x w → B ≤ g → Below B x w) := fun _ _ h _ => h
  have N0 := Lib.hid (show (n : Int) % 256 = ((nbyte n 0).toNat : Int) from (by have h := nbyte_val n 0 1 (by decide); simpa using h))
  have S0 : Hid ((u8s (putRow b n 5 1)).toArray.setIfInBounds (o + 0) (.int .u8 ((n : Int) % 256)) = (u8s (putRow b n 5 0)).toArray) := putRow_step b n 5 o 0 ho (by decide) _ N0.out
  have SZ1 : Hid ((u8s (putRow b n 5 1)).toArray.size = o + 5) := (by show _ = _; rw [List.size_toArray, u8s_length, putRow_length _ _ _ _ (by decide), ho])
  have N1 := Lib.hid (nbyte_val n 1 256 (by decide))
  have S1 : Hid ((u8s (putRow b n 5 2)).toArray.setIfInBounds (o + 1) (.int .u8 ((n : Int) / 256 % 256)) = (u8s (putRow b n 5 1)).toArray) := putRow_step b n 5 o 1 ho (by decide) _ N1.out
  have SZ2 : Hid ((u8s (putRow b n 5 2)).toArray.size = o + 5) := (by show _ = _; rw [List.size_toArray, u8s_length, putRow_length _ _ _ _ (by decide), ho])
  have N2 := Lib.hid (nbyte_val n 2 65536 (by decide))
  have S2 : Hid ((u8s (putRow b n 5 3)).toArray.setIfInBounds (o + 2) (.int .u8 ((n : Int) / 65536 % 256)) = (u8s (putRow b n 5 2)).toArray) := putRow_step b n 5 o 2 ho (by decide) _ N2.out
  have SZ3 : Hid ((u8s (putRow b n 5 3)).toArray.size = o + 5) := (by show _ = _; rw [List.size_toArray, u8s_length, putRow_length _ _ _ _ (by decide), ho])
  have N3 := Lib.hid (nbyte_val n 3 16777216 (by decide))
  have S3 : Hid ((u8s (putRow b n 5 4)).toArray.setIfInBounds (o + 3) (.int .u8 ((n : Int) / 16777216 % 256)) = (u8s (putRow b n 5 3)).toArray) := putRow_step b n 5 o 3 ho (by decide) _ N3.out
  have SZ4 : Hid ((u8s (putRow b n 5 4)).toArray.size = o + 5) := (by show _ = _; rw [List.size_toArray, u8s_length, putRow_length _ _ _ _ (by decide), ho])
  have N4 := Lib.hid (nbyte_val n 4 4294967296 (by decide))
  have S4 : Hid ((u8s (putRow b n 5 5)).toArray.setIfInBounds (o + 4) (.int .u8 ((n : Int) / 4294967296 % 256)) = (u8s (putRow b n 5 4)).toArray) := putRow_step b n 5 o 4 ho (by decide) _ N4.out
  have SZ5 : Hid ((u8s (putRow b n 5 5)).toArray.size = o + 5) := (by show _ = _; rw [List.size_toArray, u8s_length, putRow_length _ _ _ _ (by decide), ho])
  clear hA ho
  go_enter Try.func30, Try.ntmps30
  go_wp2_with (first
    | (refine Mem.wpList_store_one (by rfl) 5 _ _ (by rfl) (by rfl) g (o + 4) (.int .u8 ((n : Int) / 4294967296 % 256)) (by rfl) (by rfl) (by rfl) infoB _ 5 A5.out (by rw [SZ5.out]; omega) ?_; intro w4 ha ho hk; rw [S4.out] at ha; have A4 := Lib.hid ha; have K4 : Hid (∀ B x, Below B x w → B ≤ g → Below B x w4) := (fun B x h hle => hk B x (K5.out B x h hle) hle); clear ha ho hk A5 K5)
    | (refine Mem.wpList_store_one (by rfl) 5 _ _ (by rfl) (by rfl) g (o + 3) (.int .u8 ((n : Int) / 16777216 % 256)) (by rfl) (by rfl) (by rfl) infoB _ 5 A4.out (by rw [SZ4.out]; omega) ?_; intro w3 ha ho hk; rw [S3.out] at ha; have A3 := Lib.hid ha; have K3 : Hid (∀ B x, Below B x w → B ≤ g → Below B x w3) := (fun B x h hle => hk B x (K4.out B x h hle) hle); clear ha ho hk A4 K4)
    | (refine Mem.wpList_store_one (by rfl) 5 _ _ (by rfl) (by rfl) g (o + 2) (.int .u8 ((n : Int) / 65536 % 256)) (by rfl) (by rfl) (by rfl) infoB _ 5 A3.out (by rw [SZ3.out]; omega) ?_; intro w2 ha ho hk; rw [S2.out] at ha; have A2 := Lib.hid ha; have K2 : Hid (∀ B x, Below B x w → B ≤ g → Below B x w2) := (fun B x h hle => hk B x (K3.out B x h hle) hle); clear ha ho hk A3 K3)
    | (refine Mem.wpList_store_one (by rfl) 5 _ _ (by rfl) (by rfl) g (o + 1) (.int .u8 ((n : Int) / 256 % 256)) (by rfl) (by rfl) (by rfl) infoB _ 5 A2.out (by rw [SZ2.out]; omega) ?_; intro w1 ha ho hk; rw [S1.out] at ha; have A1 := Lib.hid ha; have K1 : Hid (∀ B x, Below B x w → B ≤ g → Below B x w1) := (fun B x h hle => hk B x (K2.out B x h hle) hle); clear ha ho hk A2 K2)
    | (refine Mem.wpList_store_one (by rfl) 5 _ _ (by rfl) (by rfl) g (o + 0) (.int .u8 ((n : Int) % 256)) (by rfl) (by rfl) (by rfl) infoB _ 5 A1.out (by rw [SZ1.out]; omega) ?_; intro w0 ha ho hk; rw [S0.out] at ha; have A0 := Lib.hid ha; have K0 : Hid (∀ B x, Below B x w → B ≤ g → Below B x w0) := (fun B x h hle => hk B x (K1.out B x h hle) hle); clear ha ho hk A1 K1))
  go_end0
  exact ⟨rfl, A0.out, K0.out⟩
set_option maxRecDepth 100000 in
set_option maxHeartbeats 2000000 in
theorem putNum_6 (b : List (BitVec 8)) (n g o c : Nat) (w : World) (ho : o = b.length) (_hn : n < 18446744073709551616) (_hc : 6 ≤ c) (hA : At w g (u8s (b ++ List.replicate 6 0)).toArray 5) :
    Calls Try.prog 30 #[.slice (some ⟨g, o, none⟩) 6 c, .int .u64 (n : Int), .int .i64 6] w (PutEnd w g (b ++ nbytes n 6)) := by
  rw [← putRow_first b n 6] at hA
  rw [← putRow_last b n 6]
  have A6 := Lib.hid hA
  have K6 : Hid (∀ B x, Below B x w → B ≤ g → Below B x w) := fun _ _ h _ => h
  have N0 := Lib.hid (show (n : Int) % 256 = ((nbyte n 0).toNat : Int) from (by have h := nbyte_val n 0 1 (by decide); simpa using h))
  have S0 : Hid ((u8s (putRow b n 6 1)).toArray.setIfInBounds (o + 0) (.int .u8 ((n : Int) % 256)) = (u8s (putRow b n 6 0)).toArray) := putRow_step b n 6 o 0 ho (by decide) _ N0.out
  have SZ1 : Hid ((u8s (putRow b n 6 1)).toArray.size = o + 6) := (by show _ = _; rw [List.size_toArray, u8s_length, putRow_length _ _ _ _ (by decide), ho])
  have N1 := Lib.hid (nbyte_val n 1 256 (by decide))
  have S1 : Hid ((u8s (putRow b n 6 2)).toArray.setIfInBounds (o + 1) (.int .u8 ((n : Int) / 256 % 256)) = (u8s (putRow b n 6 1)).toArray) := putRow_step b n 6 o 1 ho (by decide) _ N1.out
  have SZ2 : Hid ((u8s (putRow b n 6 2)).toArray.size = o + 6) := (by show _ = _; rw [List.size_toArray, u8s_length, putRow_length _ _ _ _ (by decide), ho])
  have N2 := Lib.hid (nbyte_val n 2 65536 (by decide))
  have S2 : Hid ((u8s (putRow b n 6 3)).toArray.setIfInBounds (o + 2) (.int .u8 ((n : Int) / 65536 % 256)) = (u8s (putRow b n 6 2)).toArray) := putRow_step b n 6 o 2 ho (by decide) _ N2.out
  have SZ3 : Hid ((u8s (putRow b n 6 3)).toArray.size = o + 6) := (by show _ = _; rw [List.size_toArray, u8s_length, putRow_length _ _ _ _ (by decide), ho])
  have N3 := Lib.hid (nbyte_val n 3 16777216 (by decide))
  have S3 : Hid ((u8s (putRow b n 6 4)).toArray.setIfInBounds (o + 3) (.int .u8 ((n : Int) / 16777216 % 256)) = (u8s (putRow b n 6 3)).toArray) := putRow_step b n 6 o 3 ho (by decide) _ N3.out
  have SZ4 : Hid ((u8s (putRow b n 6 4)).toArray.size = o + 6) := (by show _ = _; rw [List.size_toArray, u8s_length, putRow_length _ _ _ _ (by decide), ho])
  have N4 := Lib.hid (nbyte_val n 4 4294967296 (by decide))
  have S4 : Hid ((u8s (putRow b n 6 5)).toArray.setIfInBounds (o + 4) (.int .u8 ((n : Int) / 4294967296 % 256)) = (u8s (putRow b n 6 4)).toArray) := putRow_step b n 6 o 4 ho (by decide) _ N4.out
  have SZ5 : Hid ((u8s (putRow b n 6 5)).toArray.size = o + 6) := (by show _ = _; rw [List.size_toArray, u8s_length, putRow_length _ _ _ _ (by decide), ho])
  have N5 := Lib.hid (nbyte_val n 5 1099511627776 (by decide))
  have S5 : Hid ((u8s (putRow b n 6 6)).toArray.setIfInBounds (o + 5) (.int .u8 ((n : Int) / 1099511627776 % 256)) = (u8s (putRow b n 6 5)).toArray) := putRow_step b n 6 o 5 ho (by decide) _ N5.out
  have SZ6 : Hid ((u8s (putRow b n 6 6)).toArray.size = o + 6) := (by show _ = _; rw [List.size_toArray, u8s_length, putRow_length _ _ _ _ (by decide), ho])
  clear hA ho
  go_enter Try.func30, Try.ntmps30
  go_wp2_with (first
    | (refine Mem.wpList_store_one (by rfl) 5 _ _ (by rfl) (by rfl) g (o + 5) (.int .u8 ((n : Int) / 1099511627776 % 256)) (by rfl) (by rfl) (by rfl) infoB _ 5 A6.out (by rw [SZ6.out]; omega) ?_; intro w5 ha ho hk; rw [S5.out] at ha; have A5 := Lib.hid ha; have K5 : Hid (∀ B x, Below B x w → B ≤ g → Below B x w5) := (fun B x h hle => hk B x (K6.out B x h hle) hle); clear ha ho hk A6 K6)
    | (refine Mem.wpList_store_one (by rfl) 5 _ _ (by rfl) (by rfl) g (o + 4) (.int .u8 ((n : Int) / 4294967296 % 256)) (by rfl) (by rfl) (by rfl) infoB _ 5 A5.out (by rw [SZ5.out]; omega) ?_; intro w4 ha ho hk; rw [S4.out] at ha; have A4 := Lib.hid ha; have K4 : Hid (∀ B x, Below B x w → B ≤ g → Below B x w4) := (fun B x h hle => hk B x (K5.out B x h hle) hle); clear ha ho hk A5 K5)
    | (refine Mem.wpList_store_one (by rfl) 5 _ _ (by rfl) (by rfl) g (o + 3) (.int .u8 ((n : Int) / 16777216 % 256)) (by rfl) (by rfl) (by rfl) infoB _ 5 A4.out (by rw [SZ4.out]; omega) ?_; intro w3 ha ho hk; rw [S3.out] at ha; have A3 := Lib.hid ha; have K3 : Hid (∀ B x, Below B x w → B ≤ g → Below B x w3) := (fun B x h hle => hk B x (K4.out B x h hle) hle); clear ha ho hk A4 K4)
    | (refine Mem.wpList_store_one (by rfl) 5 _ _ (by rfl) (by rfl) g (o + 2) (.int .u8 ((n : Int) / 65536 % 256)) (by rfl) (by rfl) (by rfl) infoB _ 5 A3.out (by rw [SZ3.out]; omega) ?_; intro w2 ha ho hk; rw [S2.out] at ha; have A2 := Lib.hid ha; have K2 : Hid (∀ B x, Below B x w → B ≤ g → Below B x w2) := (fun B x h hle => hk B x (K3.out B x h hle) hle); clear ha ho hk A3 K3)
    | (refine Mem.wpList_store_one (by rfl) 5 _ _ (by rfl) (by rfl) g (o + 1) (.int .u8 ((n : Int) / 256 % 256)) (by rfl) (by rfl) (by rfl) infoB _ 5 A2.out (by rw [SZ2.out]; omega) ?_; intro w1 ha ho hk; rw [S1.out] at ha; have A1 := Lib.hid ha; have K1 : Hid (∀ B x, Below B x w → B ≤ g → Below B x w1) := (fun B x h hle => hk B x (K2.out B x h hle) hle); clear ha ho hk A2 K2)
    | (refine Mem.wpList_store_one (by rfl) 5 _ _ (by rfl) (by rfl) g (o + 0) (.int .u8 ((n : Int) % 256)) (by rfl) (by rfl) (by rfl) infoB _ 5 A1.out (by rw [SZ1.out]; omega) ?_; intro w0 ha ho hk; rw [S0.out] at ha; have A0 := Lib.hid ha; have K0 : Hid (∀ B x, Below B x w → B ≤ g → Below B x w0) := (fun B x h hle => hk B x (K1.out B x h hle) hle); clear ha ho hk A1 K1))
  go_end0
  exact ⟨rfl, A0.out, K0.out⟩
set_option maxRecDepth 100000 in
set_option maxHeartbeats 2000000 in
theorem putNum_7 (b : List (BitVec 8)) (n g o c : Nat) (w : World) (ho : o = b.length) (_hn : n < 18446744073709551616) (_hc : 7 ≤ c) (hA : At w g (u8s (b ++ List.replicate 7 0)).toArray 5) :
    Calls Try.prog 30 #[.slice (some ⟨g, o, none⟩) 7 c, .int .u64 (n : Int), .int .i64 7] w (PutEnd w g (b ++ nbytes n 7)) := by
  rw [← putRow_first b n 7] at hA
  rw [← putRow_last b n 7]
  have A7 := Lib.hid hA
  have K7 : Hid (∀ B x, Below B x w → B ≤ g → Below B x w) := fun _ _ h _ => h
  have N0 := Lib.hid (show (n : Int) % 256 = ((nbyte n 0).toNat : Int) from (by have h := nbyte_val n 0 1 (by decide); simpa using h))
  have S0 : Hid ((u8s (putRow b n 7 1)).toArray.setIfInBounds (o + 0) (.int .u8 ((n : Int) % 256)) = (u8s (putRow b n 7 0)).toArray) := putRow_step b n 7 o 0 ho (by decide) _ N0.out
  have SZ1 : Hid ((u8s (putRow b n 7 1)).toArray.size = o + 7) := (by show _ = _; rw [List.size_toArray, u8s_length, putRow_length _ _ _ _ (by decide), ho])
  have N1 := Lib.hid (nbyte_val n 1 256 (by decide))
  have S1 : Hid ((u8s (putRow b n 7 2)).toArray.setIfInBounds (o + 1) (.int .u8 ((n : Int) / 256 % 256)) = (u8s (putRow b n 7 1)).toArray) := putRow_step b n 7 o 1 ho (by decide) _ N1.out
  have SZ2 : Hid ((u8s (putRow b n 7 2)).toArray.size = o + 7) := (by show _ = _; rw [List.size_toArray, u8s_length, putRow_length _ _ _ _ (by decide), ho])
  have N2 := Lib.hid (nbyte_val n 2 65536 (by decide))
  have S2 : Hid ((u8s (putRow b n 7 3)).toArray.setIfInBounds (o + 2) (.int .u8 ((n : Int) / 65536 % 256)) = (u8s (putRow b n 7 2)).toArray) := putRow_step b n 7 o 2 ho (by decide) _ N2.out
  have SZ3 : Hid ((u8s (putRow b n 7 3)).toArray.size = o + 7) := (by show _ = _; rw [List.size_toArray, u8s_length, putRow_length _ _ _ _ (by decide), ho])
  have N3 := Lib.hid (nbyte_val n 3 16777216 (by decide))
  have S3 : Hid ((u8s (putRow b n 7 4)).toArray.setIfInBounds (o + 3) (.int .u8 ((n : Int) / 16777216 % 256)) = (u8s (putRow b n 7 3)).toArray) := putRow_step b n 7 o 3 ho (by decide) _ N3.out
  have SZ4 : Hid ((u8s (putRow b n 7 4)).toArray.size = o + 7) := (by show _ = _; rw [List.size_toArray, u8s_length, putRow_length _ _ _ _ (by decide), ho])
  have N4 := Lib.hid (nbyte_val n 4 4294967296 (by decide))
  have S4 : Hid ((u8s (putRow b n 7 5)).toArray.setIfInBounds (o + 4) (.int .u8 ((n : Int) / 4294967296 % 256)) = (u8s (putRow b n 7 4)).toArray) := putRow_step b n 7 o 4 ho (by decide) _ N4.out
  have SZ5 : Hid ((u8s (putRow b n 7 5)).toArray.size = o + 7) := (by show _ = _; rw [List.size_toArray, u8s_length, putRow_length _ _ _ _ (by decide), ho])
  have N5 := Lib.hid (nbyte_val n 5 1099511627776 (by decide))
  have S5 : Hid ((u8s (putRow b n 7 6)).toArray.setIfInBounds (o + 5) (.int .u8 ((n : Int) / 1099511627776 % 256)) = (u8s (putRow b n 7 5)).toArray) := putRow_step b n 7 o 5 ho (by decide) _ N5.out
  have SZ6 : Hid ((u8s (putRow b n 7 6)).toArray.size = o + 7) := (by show _ = _; rw [List.size_toArray, u8s_length, putRow_length _ _ _ _ (by decide), ho])
  have N6 := Lib.hid (nbyte_val n 6 281474976710656 (by decide))
  have S6 : Hid ((u8s (putRow b n 7 7)).toArray.setIfInBounds (o + 6) (.int .u8 ((n : Int) / 281474976710656 % 256)) = (u8s (putRow b n 7 6)).toArray) := putRow_step b n 7 o 6 ho (by decide) _ N6.out
  have SZ7 : Hid ((u8s (putRow b n 7 7)).toArray.size = o + 7) := (by show _ = _; rw [List.size_toArray, u8s_length, putRow_length _ _ _ _ (by decide), ho])
  clear hA ho
  go_enter Try.func30, Try.ntmps30
  go_wp2_with (first
    | (refine Mem.wpList_store_one (by rfl) 5 _ _ (by rfl) (by rfl) g (o + 6) (.int .u8 ((n : Int) / 281474976710656 % 256)) (by rfl) (by rfl) (by rfl) infoB _ 5 A7.out (by rw [SZ7.out]; omega) ?_; intro w6 ha ho hk; rw [S6.out] at ha; have A6 := Lib.hid ha; have K6 : Hid (∀ B x, Below B x w → B ≤ g → Below B x w6) := (fun B x h hle => hk B x (K7.out B x h hle) hle); clear ha ho hk A7 K7)
    | (refine Mem.wpList_store_one (by rfl) 5 _ _ (by rfl) (by rfl) g (o + 5) (.int .u8 ((n : Int) / 1099511627776 % 256)) (by rfl) (by rfl) (by rfl) infoB _ 5 A6.out (by rw [SZ6.out]; omega) ?_; intro w5 ha ho hk; rw [S5.out] at ha; have A5 := Lib.hid ha; have K5 : Hid (∀ B x, Below B x w → B ≤ g → Below B x w5) := (fun B x h hle => hk B x (K6.out B x h hle) hle); clear ha ho hk A6 K6)
    | (refine Mem.wpList_store_one (by rfl) 5 _ _ (by rfl) (by rfl) g (o + 4) (.int .u8 ((n : Int) / 4294967296 % 256)) (by rfl) (by rfl) (by rfl) infoB _ 5 A5.out (by rw [SZ5.out]; omega) ?_; intro w4 ha ho hk; rw [S4.out] at ha; have A4 := Lib.hid ha; have K4 : Hid (∀ B x, Below B x w → B ≤ g → Below B x w4) := (fun B x h hle => hk B x (K5.out B x h hle) hle); clear ha ho hk A5 K5)
    | (refine Mem.wpList_store_one (by rfl) 5 _ _ (by rfl) (by rfl) g (o + 3) (.int .u8 ((n : Int) / 16777216 % 256)) (by rfl) (by rfl) (by rfl) infoB _ 5 A4.out (by rw [SZ4.out]; omega) ?_; intro w3 ha ho hk; rw [S3.out] at ha; have A3 := Lib.hid ha; have K3 : Hid (∀ B x, Below B x w → B ≤ g → Below B x w3) := (fun B x h hle => hk B x (K4.out B x h hle) hle); clear ha ho hk A4 K4)
    | (refine Mem.wpList_store_one (by rfl) 5 _ _ (by rfl) (by rfl) g (o + 2) (.int .u8 ((n : Int) / 65536 % 256)) (by rfl) (by rfl) (by rfl) infoB _ 5 A3.out (by rw [SZ3.out]; omega) ?_; intro w2 ha ho hk; rw [S2.out] at ha; have A2 := Lib.hid ha; have K2 : Hid (∀ B x, Below B x w → B ≤ g → Below B x w2) := (fun B x h hle => hk B x (K3.out B x h hle) hle); clear ha ho hk A3 K3)
    | (refine Mem.wpList_store_one (by rfl) 5 _ _ (by rfl) (by rfl) g (o + 1) (.int .u8 ((n : Int) / 256 % 256)) (by rfl) (by rfl) (by rfl) infoB _ 5 A2.out (by rw [SZ2.out]; omega) ?_; intro w1 ha ho hk; rw [S1.out] at ha; have A1 := Lib.hid ha; have K1 : Hid (∀ B x, Below B x w → B ≤ g → Below B x w1) := (fun B x h hle => hk B x (K2.out B x h hle) hle); clear ha ho hk A2 K2)
    | (refine Mem.wpList_store_one (by rfl) 5 _ _ (by rfl) (by rfl) g (o + 0) (.int .u8 ((n : Int) % 256)) (by rfl) (by rfl) (by rfl) infoB _ 5 A1.out (by rw [SZ1.out]; omega) ?_; intro w0 ha ho hk; rw [S0.out] at ha; have A0 := Lib.hid ha; have K0 : Hid (∀ B x, Below B x w → B ≤ g → Below B x w0) := (fun B x h hle => hk B x (K1.out B x h hle) hle); clear ha ho hk A1 K1))
  go_end0
  exact ⟨rfl, A0.out, K0.out⟩
set_option maxRecDepth 100000 in
set_option maxHeartbeats 2000000 in
theorem putNum_8 (b : List (BitVec 8)) (n g o c : Nat) (w : World) (ho : o = b.length) (_hn : n < 18446744073709551616) (_hc : 8 ≤ c) (hA : At w g (u8s (b ++ List.replicate 8 0)).toArray 5) :
    Calls Try.prog 30 #[.slice (some ⟨g, o, none⟩) 8 c, .int .u64 (n : Int), .int .i64 8] w (PutEnd w g (b ++ nbytes n 8)) := by
  rw [← putRow_first b n 8] at hA
  rw [← putRow_last b n 8]
  have A8 := Lib.hid hA
  have K8 : Hid (∀ B x, Below B x w → B ≤ g → Below B x w) := fun _ _ h _ => h
  have N0 := Lib.hid (show (n : Int) % 256 = ((nbyte n 0).toNat : Int) from (by have h := nbyte_val n 0 1 (by decide); simpa using h))
  have S0 : Hid ((u8s (putRow b n 8 1)).toArray.setIfInBounds (o + 0) (.int .u8 ((n : Int) % 256)) = (u8s (putRow b n 8 0)).toArray) := putRow_step b n 8 o 0 ho (by decide) _ N0.out
  have SZ1 : Hid ((u8s (putRow b n 8 1)).toArray.size = o + 8) := (by show _ = _; rw [List.size_toArray, u8s_length, putRow_length _ _ _ _ (by decide), ho])
  have N1 := Lib.hid (nbyte_val n 1 256 (by decide))
  have S1 : Hid ((u8s (putRow b n 8 2)).toArray.setIfInBounds (o + 1) (.int .u8 ((n : Int) / 256 % 256)) = (u8s (putRow b n 8 1)).toArray) := putRow_step b n 8 o 1 ho (by decide) _ N1.out
  have SZ2 : Hid ((u8s (putRow b n 8 2)).toArray.size = o + 8) := (by show _ = _; rw [List.size_toArray, u8s_length, putRow_length _ _ _ _ (by decide), ho])
  have N2 := Lib.hid (nbyte_val n 2 65536 (by decide))
  have S2 : Hid ((u8s (putRow b n 8 3)).toArray.setIfInBounds (o + 2) (.int .u8 ((n : Int) / 65536 % 256)) = (u8s (putRow b n 8 2)).toArray) := putRow_step b n 8 o 2 ho (by decide) _ N2.out
  have SZ3 : Hid ((u8s (putRow b n 8 3)).toArray.size = o + 8) := (by show _ = _; rw [List.size_toArray, u8s_length, putRow_length _ _ _ _ (by decide), ho])
  have N3 := Lib.hid (nbyte_val n 3 16777216 (by decide))
  have S3 : Hid ((u8s (putRow b n 8 4)).toArray.setIfInBounds (o + 3) (.int .u8 ((n : Int) / 16777216 % 256)) = (u8s (putRow b n 8 3)).toArray) := putRow_step b n 8 o 3 ho (by decide) _ N3.out
  have SZ4 : Hid ((u8s (putRow b n 8 4)).toArray.size = o + 8) := (by show _ = _; rw [List.size_toArray, u8s_length, putRow_length _ _ _ _ (by decide), ho])
  have N4 := Lib.hid (nbyte_val n 4 4294967296 (by decide))
  have S4 : Hid ((u8s (putRow b n 8 5)).toArray.setIfInBounds (o + 4) (.int .u8 ((n : Int) / 4294967296 % 256)) = (u8s (putRow b n 8 4)).toArray) := putRow_step b n 8 o 4 ho (by decide) _ N4.out
  have SZ5 : Hid ((u8s (putRow b n 8 5)).toArray.size = o + 8) := (by show _ = _; rw [List.size_toArray, u8s_length, putRow_length _ _ _ _ (by decide), ho])
  have N5 := Lib.hid (nbyte_val n 5 1099511627776 (by decide))
  have S5 : Hid ((u8s (putRow b n 8 6)).toArray.setIfInBounds (o + 5) (.int .u8 ((n : Int) / 1099511627776 % 256)) = (u8s (putRow b n 8 5)).toArray) := putRow_step b n 8 o 5 ho (by decide) _ N5.out
  have SZ6 : Hid ((u8s (putRow b n 8 6)).toArray.size = o + 8) := (by show _ = _; rw [List.size_toArray, u8s_length, putRow_length _ _ _ _ (by decide), ho])
  have N6 := Lib.hid (nbyte_val n 6 281474976710656 (by decide))
  have S6 : Hid ((u8s (putRow b n 8 7)).toArray.setIfInBounds (o + 6) (.int .u8 ((n : Int) / 281474976710656 % 256)) = (u8s (putRow b n 8 6)).toArray) := putRow_step b n 8 o 6 ho (by decide) _ N6.out
  have SZ7 : Hid ((u8s (putRow b n 8 7)).toArray.size = o + 8) := (by show _ = _; rw [List.size_toArray, u8s_length, putRow_length _ _ _ _ (by decide), ho])
  have N7 := Lib.hid (nbyte_top n _hn)
  have S7 : Hid ((u8s (putRow b n 8 8)).toArray.setIfInBounds (o + 7) (.int .u8 ((n : Int) / 72057594037927936)) = (u8s (putRow b n 8 7)).toArray) := putRow_step b n 8 o 7 ho (by decide) _ N7.out
  have SZ8 : Hid ((u8s (putRow b n 8 8)).toArray.size = o + 8) := (by show _ = _; rw [List.size_toArray, u8s_length, putRow_length _ _ _ _ (by decide), ho])
  clear hA ho
  go_enter Try.func30, Try.ntmps30
  go_wp2_with (first
    | (refine Mem.wpList_store_one (by rfl) 5 _ _ (by rfl) (by rfl) g (o + 7) (.int .u8 ((n : Int) / 72057594037927936)) (by rfl) (by rfl) (by rfl) infoB _ 5 A8.out (by rw [SZ8.out]; omega) ?_; intro w7 ha ho hk; rw [S7.out] at ha; have A7 := Lib.hid ha; have K7 : Hid (∀ B x, Below B x w → B ≤ g → Below B x w7) := (fun B x h hle => hk B x (K8.out B x h hle) hle); clear ha ho hk A8 K8)
    | (refine Mem.wpList_store_one (by rfl) 5 _ _ (by rfl) (by rfl) g (o + 6) (.int .u8 ((n : Int) / 281474976710656 % 256)) (by rfl) (by rfl) (by rfl) infoB _ 5 A7.out (by rw [SZ7.out]; omega) ?_; intro w6 ha ho hk; rw [S6.out] at ha; have A6 := Lib.hid ha; have K6 : Hid (∀ B x, Below B x w → B ≤ g → Below B x w6) := (fun B x h hle => hk B x (K7.out B x h hle) hle); clear ha ho hk A7 K7)
    | (refine Mem.wpList_store_one (by rfl) 5 _ _ (by rfl) (by rfl) g (o + 5) (.int .u8 ((n : Int) / 1099511627776 % 256)) (by rfl) (by rfl) (by rfl) infoB _ 5 A6.out (by rw [SZ6.out]; omega) ?_; intro w5 ha ho hk; rw [S5.out] at ha; have A5 := Lib.hid ha; have K5 : Hid (∀ B x, Below B x w → B ≤ g → Below B x w5) := (fun B x h hle => hk B x (K6.out B x h hle) hle); clear ha ho hk A6 K6)
    | (refine Mem.wpList_store_one (by rfl) 5 _ _ (by rfl) (by rfl) g (o + 4) (.int .u8 ((n : Int) / 4294967296 % 256)) (by rfl) (by rfl) (by rfl) infoB _ 5 A5.out (by rw [SZ5.out]; omega) ?_; intro w4 ha ho hk; rw [S4.out] at ha; have A4 := Lib.hid ha; have K4 : Hid (∀ B x, Below B x w → B ≤ g → Below B x w4) := (fun B x h hle => hk B x (K5.out B x h hle) hle); clear ha ho hk A5 K5)
    | (refine Mem.wpList_store_one (by rfl) 5 _ _ (by rfl) (by rfl) g (o + 3) (.int .u8 ((n : Int) / 16777216 % 256)) (by rfl) (by rfl) (by rfl) infoB _ 5 A4.out (by rw [SZ4.out]; omega) ?_; intro w3 ha ho hk; rw [S3.out] at ha; have A3 := Lib.hid ha; have K3 : Hid (∀ B x, Below B x w → B ≤ g → Below B x w3) := (fun B x h hle => hk B x (K4.out B x h hle) hle); clear ha ho hk A4 K4)
    | (refine Mem.wpList_store_one (by rfl) 5 _ _ (by rfl) (by rfl) g (o + 2) (.int .u8 ((n : Int) / 65536 % 256)) (by rfl) (by rfl) (by rfl) infoB _ 5 A3.out (by rw [SZ3.out]; omega) ?_; intro w2 ha ho hk; rw [S2.out] at ha; have A2 := Lib.hid ha; have K2 : Hid (∀ B x, Below B x w → B ≤ g → Below B x w2) := (fun B x h hle => hk B x (K3.out B x h hle) hle); clear ha ho hk A3 K3)
    | (refine Mem.wpList_store_one (by rfl) 5 _ _ (by rfl) (by rfl) g (o + 1) (.int .u8 ((n : Int) / 256 % 256)) (by rfl) (by rfl) (by rfl) infoB _ 5 A2.out (by rw [SZ2.out]; omega) ?_; intro w1 ha ho hk; rw [S1.out] at ha; have A1 := Lib.hid ha; have K1 : Hid (∀ B x, Below B x w → B ≤ g → Below B x w1) := (fun B x h hle => hk B x (K2.out B x h hle) hle); clear ha ho hk A2 K2)
    | (refine Mem.wpList_store_one (by rfl) 5 _ _ (by rfl) (by rfl) g (o + 0) (.int .u8 ((n : Int) % 256)) (by rfl) (by rfl) (by rfl) infoB _ 5 A1.out (by rw [SZ1.out]; omega) ?_; intro w0 ha ho hk; rw [S0.out] at ha; have A0 := Lib.hid ha; have K0 : Hid (∀ B x, Below B x w → B ≤ g → Below B x w0) := (fun B x h hle => hk B x (K1.out B x h hle) hle); clear ha ho hk A1 K1))
  go_end0
  exact ⟨rfl, A0.out, K0.out⟩
theorem putNum_any (b : List (BitVec 8)) (n g o c K : Nat) (w : World) (ho : o = b.length) (hn : n < 18446744073709551616) (h1 : 1 ≤ K) (h8 : K ≤ 8) (hc : K ≤ c) (hA : At w g (u8s (b ++ List.replicate K 0)).toArray 5) :
    Calls Try.prog 30 #[.slice (some ⟨g, o, none⟩) K c, .int .u64 (n : Int), .int .i64 (K : Int)] w (PutEnd w g (b ++ nbytes n K)) := by
  have h : K = 1 ∨ K = 2 ∨ K = 3 ∨ K = 4 ∨ K = 5 ∨ K = 6 ∨ K = 7 ∨ K = 8 := by omega
  rcases h with rfl | rfl | rfl | rfl | rfl | rfl | rfl | rfl
  · exact putNum_1 b n g o c w ho hn hc hA
  · exact putNum_2 b n g o c w ho hn hc hA
  · exact putNum_3 b n g o c w ho hn hc hA
  · exact putNum_4 b n g o c w ho hn hc hA
  · exact putNum_5 b n g o c w ho hn hc hA
  · exact putNum_6 b n g o c w ho hn hc hA
  · exact putNum_7 b n g o c w ho hn hc hA
  · exact putNum_8 b n g o c w ho hn hc hA
end Sha
end Go.Proofs.Ytfbhbdllbapnpaa
namespace Go.Proofs.Ytfbhbdllbapnpaa
namespace Sha
open Go.RowKit Mem
/-- It returns a slice of its own, just the list L, in a block that fills, and a number. -/
def TwoOwn (w : World) (L : List (BitVec 8)) (n : Int) (e : Ending) (w' : World) : Prop :=
  ∃ g, e = .returned (.tuple #[.slice (some ⟨g, 0, none⟩) L.length L.length, .int .i64 n]) ∧ At w' g (u8s L).toArray 5 ∧ w.heap.size ≤ g ∧ Below w.heap.size w w'
set_option maxRecDepth 100000 in
set_option maxHeartbeats 1000000 in
theorem pnumput_own (b : List (BitVec 8)) (n : Nat) (size : Int) (v : Value) (w : World) (hv : Sl w v b) (hb : b.length ≤ 8000) (hn : n < 18446744073709551616) :
    Calls Try.prog 20 #[v, .int .u64 (n : Int), .int .i64 size] w (SEnd w (b ++ nbytes n (cutN size 1 8))) := by
  have hns := fun wx => numSize_any size wx
  have c1 := cutN_lo size 1 8 (by decide)
  have c8 := cutN_hi size 1 8
  obtain ⟨K, hK⟩ : ∃ K, K = cutN size 1 8 := ⟨_, rfl⟩
  rw [← hK] at hns c1 c8 ⊢
  have hle := lengthen_any b K v w (by omega) hv
  obtain ⟨a0, cap, rfl, _, _⟩ := hv
  obtain ⟨m, hm⟩ : ∃ m, m = b.length := ⟨_, rfl⟩
  have hlen : (b ++ List.replicate K 0).length = m + K := by simp [hm]
  have hlen2 : (b ++ nbytes n K).length = m + K := by simp [hm, nbytes_length]
  have hpn := fun g wx h => putNum_any b n g m K K wx hm hn c1 c8 (Nat.le_refl _) h
  rw [← hm] at hle hb ⊢
  have NS := Lib.hid hns; have LE := Lib.hid hle; have HL := Lib.hid hlen; have HL2 := Lib.hid hlen2; have PN := Lib.hid hpn
  clear hns hle hlen hlen2 hpn hm hK
  go_enter Try.func20, Try.ntmps20
  go_wp2_with fail
  refine (NS.out _).mono ?_
  rintro o w' ⟨rfl, rfl⟩
  go_wp2_with fail
  refine LE.out.mono ?_
  rintro o w2 ⟨g, rfl, ha, hg, hb2⟩
  rw [HL.out]
  have HA := Lib.hid ha; have HG := Lib.hid hg; have HB := Lib.hid hb2
  clear ha hg hb2 LE NS
  go_wp2_with (refine wpList_slice_low (by rfl) 24 _ _ (by rfl) 5 Try.underlying24 infoB (some ⟨g, 0, none⟩) (m + K) (m + K) m (by rfl) (by rfl) (by omega) ?_; intro a1 h1; have e1 := h1 g 0 rfl (by omega); subst e1; clear h1; rw [Nat.add_sub_cancel_left, Nat.zero_add])
  refine (PN.out g w2 HA.out).mono ?_
  rintro o w3 ⟨rfl, ha3, hk3⟩
  have HA3 := Lib.hid ha3; have HB3 := Lib.hid (hk3 _ _ HB.out HG.out)
  clear ha3 hk3
  go_wp2_with fail
  go_ret
  exact ⟨g, by rw [HL2.out]; rfl, HA3.out, HG.out, HB3.out⟩
theorem own_fulls {w : World} {B g : Nat} {L : List (BitVec 8)} (h : At w g (u8s L).toArray 5) (hB : B ≤ g) (hl : L.length ≤ 100000) : OwnB w B (.slice (some ⟨g, 0, none⟩) L.length L.length) L :=
  ⟨by simp [u8s_length], .inr ⟨g, L.length, (u8s L).toArray, rfl, hB, h, Nat.le_refl _, by simp [maxLen]; omega, by simp [u8s_length], by rw [List.take_of_length_le (by simp [u8s_length])]⟩⟩
theorem num1_any (b : List (BitVec 8)) (n : Nat) (v : Value) (w : World) (hv : Sl w v b) (hb : b.length ≤ 8000) (hn : n < 18446744073709551616) : Calls Try.prog 20 #[v, .int .u64 (n : Int), .int .i64 1] w (SEnd w (b ++ nbytes n 1)) := pnumput_own b n 1 v w hv hb hn
theorem num2_any (b : List (BitVec 8)) (n : Nat) (v : Value) (w : World) (hv : Sl w v b) (hb : b.length ≤ 8000) (hn : n < 18446744073709551616) : Calls Try.prog 20 #[v, .int .u64 (n : Int), .int .i64 2] w (SEnd w (b ++ nbytes n 2)) := pnumput_own b n 2 v w hv hb hn
theorem num4_any (b : List (BitVec 8)) (n : Nat) (v : Value) (w : World) (hv : Sl w v b) (hb : b.length ≤ 8000) (hn : n < 18446744073709551616) : Calls Try.prog 20 #[v, .int .u64 (n : Int), .int .i64 4] w (SEnd w (b ++ nbytes n 4)) := pnumput_own b n 4 v w hv hb hn
theorem num8_any (b : List (BitVec 8)) (n : Nat) (v : Value) (w : World) (hv : Sl w v b) (hb : b.length ≤ 8000) (hn : n < 18446744073709551616) : Calls Try.prog 20 #[v, .int .u64 (n : Int), .int .i64 8] w (SEnd w (b ++ nbytes n 8)) := pnumput_own b n 8 v w hv hb hn
end Sha
end Go.Proofs.Ytfbhbdllbapnpaa
namespace Go.Proofs.Ytfbhbdllbapnpaa
namespace Sha
open Go.RowKit Mem
def lv (b : List (BitVec 8)) (e : Nat) : List (BitVec 8) := if e = 0 then b else []
theorem lv_zero (b : List (BitVec 8)) : lv b 0 = b := rfl
theorem lv_err (b : List (BitVec 8)) (e : Nat) (h : e ≠ 0) : lv b e = [] := if_neg h
/-- What is left lies below the box. -/
def LB (br : Nat) (a : Option Addr) (l : List (BitVec 8)) : Prop := l ≠ [] → ∀ p, a = some p → p.block < br
theorem lb_piece {br : Nat} {a : Option Addr} {l : List (BitVec 8)} (h : LB br a l) (cap n : Nat) : LB br (pieceA a cap n) (l.drop n) := by
  intro hne p hp
  have hl : l ≠ [] := fun e => hne (by rw [e]; simp)
  unfold pieceA at hp
  split at hp
  · exact h hl p hp
  · cases a with
    | none => simp at hp
    | some q =>
      have h2 := h hl q rfl
      have e : q.add n = p := by simpa using hp
      rw [← e]
      have e3 : (q.add n).block = q.block := by unfold Addr.add; split <;> rfl
      rw [e3]; exact h2
structure RPk (w : World) (br : Nat) (b : List (BitVec 8)) (e : Nat) : Prop where
  h3 : ∃ a cap, At w br (rdRow (.slice a (lv b e).length cap) e) 79 ∧ Sl w (.slice a (lv b e).length cap) (lv b e) ∧ LB br a (lv b e)
theorem RPk.h {w : World} {br : Nat} {b : List (BitVec 8)} {e : Nat} (h : RPk w br b e) : ∃ a cap, At w br (rdRow (.slice a (lv b e).length cap) e) 79 ∧ Sl w (.slice a (lv b e).length cap) (lv b e) := by
  obtain ⟨a, cap, h1, h2, _⟩ := h.h3
  exact ⟨a, cap, h1, h2⟩
theorem RPk.lb {w : World} {br m cap : Nat} {b : List (BitVec 8)} {a : Option Addr} {e : Nat} (h : RPk w br b e) (hat : At w br (rdRow (.slice a m cap) e) 79) : LB br a (lv b e) := by
  obtain ⟨a', cap', h1, _, h2⟩ := h.h3
  unfold At at hat h1
  rw [hat] at h1
  injection h1 with h1
  injection h1 with h1 _ _
  unfold rdRow at h1
  have h3 : (Value.slice a m cap) = .slice a' (lv b e).length cap' := by
    have := congrArg (fun x : Array Value => x[0]?) h1
    simpa using this
  injection h3 with h3 _ _
  rw [h3]; exact h2
theorem RPk.below {w w' : World} {br : Nat} {b : List (BitVec 8)} {e : Nat} (h : RPk w br b e) (hb : Below w.heap.size w w') : RPk w' br b e := by
  obtain ⟨a, cap, h1, h2, h3⟩ := h.h3
  exact ⟨a, cap, h1.below hb h1.lt, h2.below hb, h3⟩
theorem RPk.but {w w' : World} {br bx : Nat} {b : List (BitVec 8)} {e : Nat} {C : Array Value} {t : TypeId} (h : RPk w br b e) (hC : At w bx C t) (hno : ∀ (k : Nat) (x : Int), C[k]? ≠ some (.int .u8 x)) (hne : br ≠ bx) (hb : But bx w w') : RPk w' br b e := by
  obtain ⟨a, cap, h1, h2, h3⟩ := h.h3
  exact ⟨a, cap, h1.but hb hne, h2.but_at hC hno hb, h3⟩
/-- A block above the box is none of the reader's. -/
theorem RPk.above {w w' : World} {br bx : Nat} {b : List (BitVec 8)} {e : Nat} (h : RPk w br b e) (hb : But bx w w') (hne : br < bx) : RPk w' br b e := by
  obtain ⟨a, cap, h1, h2, h3⟩ := h.h3
  refine ⟨a, cap, h1.but hb (by omega), ?_, h3⟩
  obtain ⟨a2, cap2, e2, hc, hr⟩ := h2
  injection e2 with e2 _ e4
  subst e2; subst e4
  refine ⟨a, cap, rfl, hc, fun hl => ?_⟩
  obtain ⟨bb, oo, ea, hlt, hcell⟩ := hr hl
  have hlt2 := h3 hl _ ea
  refine ⟨bb, oo, ea, Nat.lt_of_lt_of_le hlt hb.size, fun i hi => ?_⟩
  rw [World.cell?_of_block (w := w) (w' := w') (a := ⟨bb, oo + i, none⟩) (hb.block bb hlt (by simp only at hlt2; omega))]
  exact hcell i hi
theorem RPk.keep {w w' : World} {br : Nat} {b l : List (BitVec 8)} {e : Nat} {v : Value} (h : RPk w br b e) (hb : But br w w') (hs : Sl w v l) : Sl w' v l := by
  obtain ⟨a, cap, h1, _⟩ := h.h
  exact hs.but_at h1 (rdRow_no _ _ _ _) hb
theorem RPk.lt {w : World} {br : Nat} {b : List (BitVec 8)} {e : Nat} (h : RPk w br b e) : br < w.heap.size := by
  obtain ⟨a, cap, h1, _⟩ := h.h
  exact h1.lt
theorem rpk_same {w : World} {br : Nat} {b : List (BitVec 8)} {e : Nat} (h : RPk w br b e) : PkEnd RPk w br b e w := ⟨h, But.refl _ _, fun _ _ h _ => h⟩
theorem rpk_left {w : World} {br : Nat} {b b' : List (BitVec 8)} (h : RPk w br b 0) (a' : Option Addr) (n' cap' : Nat) (hn : n' = b'.length) (hs : Sl w (.slice a' n' cap') b') (hlb : LB br a' b') : PkEnd RPk w br b' 0 (w.setCell ⟨br, 0, none⟩ (.slice a' n' cap')) := by
  subst hn
  obtain ⟨a, cap, h1, h2⟩ := h.h
  have hb : But br w (w.setCell ⟨br, 0, none⟩ (.slice a' b'.length cap')) := (But.refl br w).row (by simp) (fun k hk => heap_setCell_other w ⟨br, 0, none⟩ k _ hk)
  exact ⟨⟨a', cap', h1.set 0 _, hs.but_at h1 (rdRow_no _ _ _ _) hb, hlb⟩, hb, fun B x hB hle => hB.setCell hle _⟩
/-- What changed nothing but made new blocks. -/
theorem rpk_below {w w' : World} {br : Nat} {b : List (BitVec 8)} {e : Nat} (h : RPk w br b e) (hb : Below w.heap.size w w') : PkEnd RPk w br b e w' :=
  ⟨h.below hb, ⟨hb.size, fun k hk _ => hb.block k hk⟩, fun _ _ h2 hle => h2.trans (hb.mono (Nat.le_of_lt (Nat.lt_of_le_of_lt hle h.lt)))⟩
theorem infoSl : (Try.prog.info? 24).map (·.size) = some 1 := by kernel_rfl
theorem infoErr : (Try.prog.info? 25).map (·.size) = some 1 := by kernel_rfl
set_option maxRecDepth 100000 in
set_option maxHeartbeats 1000000 in
theorem fail_any (b : List (BitVec 8)) (e e' br : Nat) (w : World) (hr : RPk w br b e) (he : e' ≠ 0) :
    Calls Try.prog 40 #[rp br, .int .i64 (e' : Int)] w fun o w' => o = .returned (.tuple #[]) ∧ ∀ b', PkEnd RPk w br b' e' w' := by
  obtain ⟨a, cap, hat, hsl⟩ := hr.h
  obtain ⟨X, hX⟩ : ∃ X, X = Value.slice a (lv b e).length cap := ⟨_, rfl⟩
  have hno := rdRow_no a (lv b e).length cap e
  rw [← hX] at hat hno
  have A0 := Lib.hid hat; have H0 := Lib.hid hat; have NO := Lib.hid hno
  clear hr hat hsl hX hno
  go_enter Try.func40, Try.ntmps40
  go_wp2_with (first
    | (refine Mem.wpList_store_one (by rfl) 24 _ _ (by rfl) (by rfl) br 0 (.slice none 0 0) (by rfl) (by rfl) (by rfl) infoSl _ 79 A0.out (by simp [rdRow]) ?_; intro w1 ha1 ho1 hk1; have A1 := Lib.hid ha1; have O1 := Lib.hid ho1; have K1 := Lib.hid hk1; clear ha1 ho1 hk1 A0)
    | (refine Mem.wpList_store_one (by rfl) 25 _ _ (by rfl) (by rfl) br 1 (.int .i64 (e' : Int)) (by rfl) (by rfl) (by rfl) infoErr _ 79 A1.out (by simp [rdRow]) ?_; intro w2 ha2 ho2 hk2; have A2 := Lib.hid ha2; have O2 := Lib.hid ho2; have K2 := Lib.hid hk2; clear ha2 ho2 hk2 A1))
  go_end0
  have k2 : ∀ B x, Below B x w → B ≤ br → Below B x w2 := fun B x h hle => K2.out B x (K1.out B x h hle) hle
  have bu : But br w w2 := ⟨(k2 br w (Below.refl _ _) (Nat.le_refl _)).size, fun k _ hne => (O2.out k hne).trans (O1.out k hne)⟩
  refine ⟨rfl, fun b' => ⟨⟨none, 0, ?_, ?_, fun _ p hp => by cases hp⟩, bu, k2⟩⟩
  · rw [lv_err b' e' he]
    exact A2.out
  · rw [lv_err b' e' he]
    exact sl_none _
set_option maxRecDepth 100000 in
set_option maxHeartbeats 1000000 in
theorem perr0_any (b : List (BitVec 8)) (e : Nat) (br : Nat) (w : World) (hr : RPk w br b e) : Calls Try.prog 41 #[rp br] w fun o w' => o = .returned (.int .i64 (e : Int)) ∧ w = w' := by
  obtain ⟨a, cap, hat, _⟩ := hr.h
  have c1 : w.cell? ⟨br, 1, none⟩ = some (.int .i64 (e : Int)) := by rw [hat.cell]; rfl
  clear hr hat
  go_enter Try.func41, Try.ntmps41
  go_wp2
  go_ret
  exact ⟨rfl, rfl⟩
set_option maxHeartbeats 1000000 in
theorem nerr0_any (w : World) : Calls Try.prog 41 #[.pointer none] w fun o w' => o = .returned (.int .i64 2) ∧ w = w' := by
  go_enter Try.func41, Try.ntmps41
  go_wp2
  go_ret
  exact ⟨rfl, rfl⟩
set_option maxRecDepth 100000 in
set_option maxHeartbeats 1000000 in
theorem read_any (b : List (BitVec 8)) (v : Value) (w : World) (hv : Sl w v b) (hb : b.length ≤ 8000) : Calls Try.prog 31 #[v] w fun o w' => ∃ br, o = .returned (rp br) ∧ w.heap.size ≤ br ∧ RPk w' br b 0 ∧ Below w.heap.size w w' := by
  have hcl := clone_any b v w (by omega) hv
  obtain ⟨a0, cap, rfl, _, _⟩ := hv
  have CL := Lib.hid hcl
  clear hcl
  go_enter Try.func31, Try.ntmps31
  go_wp2_with fail
  refine CL.out.mono ?_
  rintro o w5 ⟨v5, rfl, hs5, hb5⟩
  have hs0 := hs5
  obtain ⟨a5, c5, rfl, _, _⟩ := hs5
  obtain ⟨m, hm⟩ : ∃ m, m = b.length := ⟨_, rfl⟩
  rw [← hm] at hs0 ⊢
  have S5 := Lib.hid hs0; have B5 := Lib.hid hb5; have HM := Lib.hid hm
  have LB5 : Hid (LB w5.heap.size a5 (lv b 0)) := fun hne p hp => by
    obtain ⟨_, _, e5, _, hr5⟩ := hs0
    injection e5 with e5 _ _
    obtain ⟨bb, oo, ea, hlt, _⟩ := hr5 hne
    rw [hp, ea] at e5
    injection e5 with e5
    rw [e5]; exact hlt
  clear hs0 hb5 hm CL
  go_wp2_with fail
  go_ret
  have b6 : Below w5.heap.size w5 (w5.alloc (.cells (rdRow (.slice a5 m c5) 0) 79)) := (Below.refl _ _).alloc (Nat.le_refl _) _
  have a6 : At (w5.alloc (.cells (rdRow (.slice a5 m c5) 0) 79)) w5.heap.size (rdRow (.slice a5 m c5) 0) 79 := at_new w5 _ _
  exact ⟨w5.heap.size, rfl, B5.out.size, ⟨a5, c5, by rw [lv_zero, ← HM.out]; exact a6, by rw [lv_zero, ← HM.out]; exact S5.out.below b6, LB5.out⟩, B5.out.trans (b6.mono B5.out.size)⟩
end Sha
end Go.Proofs.Ytfbhbdllbapnpaa
namespace Go.Proofs.Ytfbhbdllbapnpaa
namespace Sha
open Go.RowKit Mem
/-- How take ends: the bytes, and whether there were as many. -/
def TkEnd (w : World) (br : Nat) (R : Rd3) (o : Ending) (w' : World) : Prop := ∃ a cap, o = .returned (.tuple #[.slice a R.x.length cap, .bool (R.e == 0)]) ∧ Sl w' (.slice a R.x.length cap) R.x ∧ PkEnd RPk w br R.b R.e w'
set_option maxRecDepth 100000 in
set_option maxHeartbeats 1000000 in
theorem take_any (b : List (BitVec 8)) (e n br : Nat) (w : World) (hr : RPk w br b e) (_hb : b.length ≤ 8000) (_hn : n ≤ 9223372036854775807) :
    Calls Try.prog 38 #[rp br, .int .i64 (n : Int)] w (TkEnd w br (rdTake b e n)) := by
  have hpe := fun wx h => perr0_any b e br wx h
  by_cases he0 : e = 0
  · subst he0
    have hfa := fun wx h => fail_any b 0 4 br wx h (by decide)
    have hr0 := hr
    obtain ⟨a, cap, hat, hsl⟩ := hr.h
    rw [lv_zero] at hat hsl
    obtain ⟨m, hm⟩ : ∃ m, m = b.length := ⟨_, rfl⟩
    rw [← hm] at hat hsl _hb
    have c0 : w.cell? ⟨br, 0, none⟩ = some (.slice a m cap) := by rw [hat.cell]; rfl
    have f0 : w.frozen? ⟨br, 0, none⟩ = false := hat.free 0
    have PE := Lib.hid hpe; have FA := Lib.hid hfa; have HR := Lib.hid hr0; have HA := Lib.hid hat; have HS := Lib.hid hsl; have HM := Lib.hid hm
    clear hpe hfa hr hr0 hat hsl hm
    by_cases hlt : m < n
    · have hrd : rdTake b 0 n = ⟨[], b, 4⟩ := by unfold rdTake; rw [if_neg (by simp), if_pos (by rw [← HM.out]; exact hlt)]
      have g1 : (m : Int) < (n : Int) := by omega
      have RD := Lib.hid hrd
      clear hrd hlt
      go_enter Try.func38, Try.ntmps38
      go_wp2_with fail
      refine (PE.out w HR.out).mono ?_
      rintro o w' ⟨rfl, rfl⟩
      go_wp2_with fail
      refine (FA.out w HR.out).mono ?_
      rintro o w2 ⟨rfl, hp⟩
      have HP := Lib.hid hp
      clear hp
      go_wp2_with fail
      go_ret2
      rw [RD.out]
      exact ⟨none, 0, rfl, sl_none _, HP.out b⟩
    · have hkm : n ≤ m := by omega
      have hrd : rdTake b 0 n = ⟨b.take n, b.drop n, 0⟩ := by unfold rdTake; rw [if_neg (by simp), if_neg (by rw [← HM.out]; exact hlt)]
      have g1 : ¬ (m : Int) < (n : Int) := by omega
      have RD := Lib.hid hrd; have KM := Lib.hid hkm
      clear hrd hlt
      go_enter Try.func38, Try.ntmps38
      go_wp2_with fail
      refine (PE.out w HR.out).mono ?_
      rintro o w' ⟨rfl, rfl⟩
      go_wp2_with (first
        | (refine wpList_piece_to (by rfl) 24 _ _ (by rfl) Try.underlying24 a m cap n b HM.out.symm (by rfl) HS.out (by rfl) KM.out ?_; intro hp1; have P1 := Lib.hid hp1; clear hp1)
        | (refine wpList_piece_from (by rfl) 24 _ _ (by rfl) Try.underlying24 a m cap n b HM.out.symm (by rfl) HS.out (by rfl) KM.out ?_; intro hp2; have P2 := Lib.hid hp2; clear hp2))
      go_ret2
      rw [RD.out]
      have hl1 : (b.take n).length = n := by rw [List.length_take, ← HM.out]; have := KM.out; omega
      have h5 := rpk_left HR.out (pieceA a cap n) (m - n) (cap - n) (by rw [List.length_drop, ← HM.out]) P2.out (lb_piece (HR.out.lb HA.out) cap n)
      exact ⟨pieceA a cap 0, cap, by rw [hl1]; rfl, by rw [hl1]; exact P1.out.but_at HA.out (rdRow_no _ _ _ _) h5.o, h5⟩
  · have hrd : rdTake b e n = ⟨[], b, e⟩ := by unfold rdTake; rw [if_pos (by simpa using he0)]
    have g1 : ¬ (e : Int) = 0 := by omega
    have hbf : (e == 0) = false := by simpa using he0
    have PE := Lib.hid hpe; have RD := Lib.hid hrd; have HR := Lib.hid hr; have BF := Lib.hid hbf
    clear hpe hrd hr he0 hbf
    go_enter Try.func38, Try.ntmps38
    go_wp2_with fail
    refine (PE.out w HR.out).mono ?_
    rintro o w' ⟨rfl, rfl⟩
    go_wp2_with fail
    go_ret2
    rw [RD.out]
    exact ⟨none, 0, by rw [BF.out]; rfl, sl_none _, rpk_same HR.out⟩
set_option maxHeartbeats 1000000 in
theorem ntake_any (n : Nat) (w : World) : Calls Try.prog 38 #[.pointer none, .int .i64 (n : Int)] w fun o w' => o = .returned (.tuple #[.slice none 0 0, .bool false]) ∧ w = w' := by
  have hpe := fun wx => nerr0_any wx
  have PE := Lib.hid hpe
  clear hpe
  go_enter Try.func38, Try.ntmps38
  go_wp2_with fail
  refine (PE.out w).mono ?_
  rintro o w' ⟨rfl, rfl⟩
  go_wp2_with fail
  go_ret2
  exact ⟨rfl, rfl⟩
set_option maxRecDepth 100000 in
set_option maxHeartbeats 1000000 in
theorem pbytes_any (b : List (BitVec 8)) (e : Nat) (z : Int) (br : Nat) (w : World) (hr : RPk w br b e) (hb : b.length ≤ 8000) (h0 : -9223372036854775808 ≤ z) (h1 : z ≤ 9223372036854775807) :
    Calls Try.prog 34 #[rp br, .int .i64 z] w fun o w' => ∃ v, o = .returned v ∧ Sl w' v (rdTake b e z.toNat).x ∧ PkEnd RPk w br (rdTake b e z.toNat).b (rdTake b e z.toNat).e w' := by
  obtain ⟨k, hk⟩ : ∃ k, k = z.toNat := ⟨_, rfl⟩
  have hmax : max z 0 = (k : Int) := by omega
  rw [← hk]
  have htk := take_any b e k br w hr hb (by omega)
  have hxl := (rdTake_small b e k).2.1
  have her := fun h => (rdTake_err b e k h).1
  obtain ⟨R, hR⟩ : ∃ R, R = rdTake b e k := ⟨_, rfl⟩
  rw [← hR] at htk hxl her ⊢
  have TK := Lib.hid htk; have XL := Lib.hid hxl; have ER := Lib.hid her
  clear htk hxl her hR hr hk
  go_enter Try.func34, Try.ntmps34
  go_wp2_with fail
  refine TK.out.mono ?_
  rintro o w2 ⟨a, cap, rfl, hs2, h5⟩
  by_cases hre : R.e = 0
  · have hcl := clone_any R.x (.slice a R.x.length cap) w2 (by have := XL.out; omega) hs2
    have hbt : (R.e == 0) = true := by simpa using hre
    rw [hbt]
    have CL := Lib.hid hcl; have H5 := Lib.hid h5
    clear hcl h5 hs2 hre hbt
    go_wp2_with fail
    refine CL.out.mono ?_
    rintro o w3 ⟨v3, rfl, hs3, hb3⟩
    have S3 := Lib.hid hs3; have B3 := Lib.hid hb3
    clear hs3 hb3
    go_wp2_with fail
    go_ret
    exact ⟨v3, rfl, S3.out, H5.out.trans (rpk_below H5.out.r B3.out)⟩
  · have hbf : (R.e == 0) = false := by simpa using hre
    have hx := ER.out hre
    rw [hbf]
    have H5 := Lib.hid h5; have HX := Lib.hid hx
    clear h5 hs2 hre hbf hx
    go_wp2_with fail
    go_ret
    exact ⟨_, rfl, by rw [HX.out]; exact sl_none _, H5.out⟩
set_option maxRecDepth 100000 in
set_option maxHeartbeats 1000000 in
theorem pnumget_any (b : List (BitVec 8)) (e : Nat) (size : Int) (most : Nat) (br : Nat) (w : World) (hr : RPk w br b e) (hb : b.length ≤ 8000) (_hmo : most < 18446744073709551616) :
    Calls Try.prog 32 #[rp br, .int .i64 size, .int .u64 (most : Int)] w fun o w' => o = .returned (.int .u64 (((rdNum b e (cutN size 1 8) most).1 : Nat) : Int)) ∧ PkEnd RPk w br (rdNum b e (cutN size 1 8) most).2.1 (rdNum b e (cutN size 1 8) most).2.2 w' := by
  have hns := fun wx => numSize_any size wx
  have c8 := cutN_hi size 1 8
  obtain ⟨K, hK⟩ : ∃ K, K = cutN size 1 8 := ⟨_, rfl⟩
  rw [← hK] at hns c8 ⊢
  have htk := take_any b e K br w hr hb (by omega)
  have hsm := (rdTake_small b e K).1
  have hnum : rdNum b e K most = if (rdTake b e K).e ≠ 0 then (0, (rdTake b e K).b, (rdTake b e K).e) else if most < leN (rdTake b e K).x then (0, (rdTake b e K).b, 3) else (leN (rdTake b e K).x, (rdTake b e K).b, 0) := rfl
  obtain ⟨R, hR⟩ : ∃ R, R = rdTake b e K := ⟨_, rfl⟩
  rw [← hR] at htk hsm hnum
  have NS := Lib.hid hns; have TK := Lib.hid htk; have SMA := Lib.hid hsm; have NU := Lib.hid hnum
  clear hns htk hsm hnum hR hK hr
  go_enter Try.func32, Try.ntmps32
  go_wp2_with fail
  refine (NS.out _).mono ?_
  rintro o w' ⟨rfl, rfl⟩
  go_wp2_with fail
  refine TK.out.mono ?_
  rintro o w2 ⟨a, cap, rfl, hs2, h5⟩
  by_cases hre : R.e = 0
  · have hnm := num_any R.x (.slice a R.x.length cap) w2 (by have := SMA.out; omega) hs2
    have hN64 : leN R.x < 18446744073709551616 := leN_64 _ (by have := SMA.out; omega)
    have hbt : (R.e == 0) = true := by simpa using hre
    have hfa := fail_any R.b R.e 3 br w2 h5.r (by decide)
    obtain ⟨N, hN⟩ : ∃ N, N = leN R.x := ⟨_, rfl⟩
    rw [← hN] at hnm hN64
    rw [hbt]
    by_cases hbig : most < N
    · have hnu : rdNum b e K most = (0, R.b, 3) := by rw [NU.out, if_neg (by simpa using hre), if_pos (by rw [← hN]; exact hbig)]
      have g1 : (most : Int) < (N : Int) := by omega
      have NN := Lib.hid hnu; have NM := Lib.hid hnm; have H5 := Lib.hid h5; have FA := Lib.hid hfa
      clear hnu hnm h5 hfa hs2 hre hbt hbig hN
      go_wp2_with fail
      refine NM.out.mono ?_
      rintro o w3 ⟨rfl, rfl⟩
      go_wp2_with fail
      refine FA.out.mono ?_
      rintro o w4 ⟨rfl, hp⟩
      have HP := Lib.hid hp
      clear hp
      go_wp2_with fail
      go_ret
      rw [NN.out]
      exact ⟨rfl, H5.out.trans (HP.out R.b)⟩
    · have hnu : rdNum b e K most = (N, R.b, 0) := by rw [NU.out, if_neg (by simpa using hre), if_neg (by rw [← hN]; exact hbig), ← hN]
      have g1 : ¬ (most : Int) < (N : Int) := by omega
      rw [hre] at h5
      have NN := Lib.hid hnu; have NM := Lib.hid hnm; have H5 := Lib.hid h5
      clear hnu hnm h5 hfa hs2 hre hbt hbig hN
      go_wp2_with fail
      refine NM.out.mono ?_
      rintro o w3 ⟨rfl, rfl⟩
      go_wp2_with fail
      go_ret
      rw [NN.out]
      exact ⟨rfl, H5.out⟩
  · have hnu : rdNum b e K most = (0, R.b, R.e) := by rw [NU.out, if_pos hre]
    have hbf : (R.e == 0) = false := by simpa using hre
    rw [hbf]
    have NN := Lib.hid hnu; have H5 := Lib.hid h5
    clear hnu h5 hs2 hre hbf
    go_wp2_with fail
    go_ret
    rw [NN.out]
    exact ⟨rfl, H5.out⟩
end Sha
end Go.Proofs.Ytfbhbdllbapnpaa
namespace Go.Proofs.Ytfbhbdllbapnpaa
namespace Sha
open Go.RowKit Mem
set_option maxRecDepth 100000 in
set_option maxHeartbeats 1000000 in
theorem areZeros_any (l : List (BitVec 8)) (v : Value) (w : World) (bl : l.length ≤ 9223372036854775807) (hv : Sl w v l) :
    Calls Try.prog 42 #[v] w fun e w' => e = .returned (.bool (allZ l)) ∧ w = w' := by
  have hv0 := hv
  obtain ⟨a0, cap, rfl, _, _⟩ := hv
  obtain ⟨m, hm⟩ : ∃ m, m = l.length := ⟨_, rfl⟩
  rw [← hm] at bl
  have HV := Lib.hid hv0; have HM := Lib.hid hm
  rw [← hm]
  clear hv0 hm
  go_enter Try.func42, Try.ntmps42
  go_wp2_with fail
  go_loop [7] (fun i => ∃ j : Nat, j ≤ m ∧ i = .int .i64 j ∧ Hid (allZ (l.take j) = true)) (fun i => m - (intOf i).toNat)
  case atStart => exact ⟨0, by omega, rfl, (by show allZ (l.take 0) = true; rfl)⟩
  case round =>
    obtain ⟨j, hj, rfl, hI⟩ := hrel
    by_cases hlt : j < m
    · obtain ⟨b1, o1, rfl, cx⟩ := sl_at (i := j) HV.out (by rw [← HM.out]; exact hlt)
      have hlt' : (j : Int) < (m : Int) := by omega
      have htk : l.take (j + 1) = l.take j ++ [l.getD j 0] := by
        have hjl : j < l.length := by rw [← HM.out]; exact hlt
        rw [List.take_succ_eq_append_getElem hjl]; simp [hjl]
      by_cases hx : l.getD j 0 = 0
      · have hnx : allZ (l.take (j + 1)) = true := by
          rw [htk, hx]; unfold allZ; rw [List.all_append]; have := hI.out; unfold allZ at this; rw [this]; rfl
        rw [hx, B8_zero] at cx
        have NX := Lib.hid hnx
        clear hnx htk hx hI
        go_wp2
        go_round
        case rel => exact ⟨j + 1, by omega, by go_num, NX.out⟩
        case measure => simp [intOf]; omega
      · have hno : allZ l = false := by
          unfold allZ
          rw [Bool.eq_false_iff]
          intro h
          have hjl : j < l.length := by rw [← HM.out]; exact hlt
          have := List.all_eq_true.1 h (l.getD j 0) (by simp [hjl])
          exact hx (by simpa using this)
        obtain ⟨x, hxx⟩ : ∃ x, x = l.getD j 0 := ⟨_, rfl⟩
        rw [← hxx] at cx hx
        have hbn : ¬ B8 x = 0 := fun h => hx (by have h2 := B8_eq x; rw [h] at h2; simpa using h2.symm)
        have hbe : (B8 x != 0) = true := by rw [bne_iff_ne]; exact hbn
        have NO := Lib.hid hno
        clear hno htk hx hI hxx
        go_wp2
        go_ret
        exact ⟨by rw [NO.out]; rfl, rfl⟩
    · have hjm : j = m := by omega
      have hge : ¬ (j : Int) < (m : Int) := by omega
      have hall : Hid (allZ l = true) := by
        have h := hI.out
        rw [hjm, HM.out, List.take_length] at h
        exact h
      clear hjm hlt hj hI
      go_wp2
      go_ret
      exact ⟨by rw [hall.out]; rfl, rfl⟩
end Sha
end Go.Proofs.Ytfbhbdllbapnpaa
namespace Go.Proofs.Ytfbhbdllbapnpaa
namespace Sha
open Go.RowKit Mem
set_option maxRecDepth 100000 in
set_option maxHeartbeats 1000000 in
theorem prest_any (b : List (BitVec 8)) (e : Nat) (br : Nat) (w : World) (hr : RPk w br b e) (hb : b.length ≤ 8000) :
    Calls Try.prog 35 #[rp br] w fun o w' => o = .returned (.int .i64 ((rdRest b e : Nat) : Int)) ∧ PkEnd RPk w br b (rdRest b e) w' := by
  have hpe := fun e wx h => perr0_any b e br wx h
  by_cases he : e = 0
  · subst he
    have hfa := fun wx h => fail_any b 0 3 br wx h (by decide)
    have hr0 := hr
    obtain ⟨a, cap, hat, hsl⟩ := hr.h
    rw [lv_zero] at hat hsl
    have haz := areZeros_any b (.slice a b.length cap) w (by omega) hsl
    obtain ⟨m, hm⟩ : ∃ m, m = b.length := ⟨_, rfl⟩
    rw [← hm] at hat haz
    have c0 : w.cell? ⟨br, 0, none⟩ = some (.slice a m cap) := by rw [hat.cell]; rfl
    have PE := Lib.hid hpe; have FA := Lib.hid hfa; have HR := Lib.hid hr0
    clear hpe hfa hr hr0 hat hsl hm
    cases hz : allZ b with
    | false =>
      have h1 : rdRest b 0 = 3 := by rw [rdRest, if_pos ⟨rfl, hz⟩]
      rw [h1]
      rw [hz] at haz
      have AZ := Lib.hid haz
      clear h1 haz hz
      go_enter Try.func35, Try.ntmps35
      go_wp2_with fail
      refine (PE.out 0 w HR.out).mono ?_
      rintro o w' ⟨rfl, rfl⟩
      go_wp2_with fail
      refine AZ.out.mono ?_
      rintro o w' ⟨rfl, rfl⟩
      go_wp2_with fail
      refine (FA.out w HR.out).mono ?_
      rintro o w2 ⟨rfl, hp⟩
      have HP := Lib.hid (hp b)
      clear hp
      go_wp2_with fail
      refine (PE.out 3 w2 HP.out.r).mono ?_
      rintro o w' ⟨rfl, rfl⟩
      go_wp2_with fail
      go_ret
      exact ⟨rfl, HP.out⟩
    | true =>
      have h1 : rdRest b 0 = 0 := by rw [rdRest, if_neg (by rw [hz]; simp)]
      rw [h1]
      rw [hz] at haz
      have AZ := Lib.hid haz
      clear h1 haz hz
      go_enter Try.func35, Try.ntmps35
      go_wp2_with fail
      refine (PE.out 0 w HR.out).mono ?_
      rintro o w' ⟨rfl, rfl⟩
      go_wp2_with fail
      refine AZ.out.mono ?_
      rintro o w' ⟨rfl, rfl⟩
      go_wp2_with fail
      refine (PE.out 0 _ HR.out).mono ?_
      rintro o w' ⟨rfl, rfl⟩
      go_wp2_with fail
      go_ret
      exact ⟨rfl, rpk_same HR.out⟩
  · have h1 : rdRest b e = e := by rw [rdRest, if_neg (by simp [he])]
    have g1 : ¬ (e : Int) = 0 := by omega
    rw [h1]
    have PE := Lib.hid hpe; have HR := Lib.hid hr
    clear hpe hr he h1
    go_enter Try.func35, Try.ntmps35
    go_wp2_with fail
    refine (PE.out e w HR.out).mono ?_
    rintro o w' ⟨rfl, rfl⟩
    go_wp2_with fail
    refine (PE.out e _ HR.out).mono ?_
    rintro o w' ⟨rfl, rfl⟩
    go_wp2_with fail
    go_ret
    exact ⟨rfl, rpk_same HR.out⟩
end Sha
end Go.Proofs.Ytfbhbdllbapnpaa
namespace Go.Proofs.Ytfbhbdllbapnpaa
namespace Sha
open Go.RowKit Mem
theorem rdNum_le (b : List (BitVec 8)) (e k most : Nat) : (rdNum b e k most).1 ≤ most := by
  unfold rdNum
  split
  · exact Nat.zero_le _
  · split
    · exact Nat.zero_le _
    · omega
theorem rdNum_len (b : List (BitVec 8)) (e k most : Nat) : (rdNum b e k most).2.1.length ≤ b.length := by
  have h := (rdTake_small b e k).2.2.1
  unfold rdNum
  split
  · exact h
  · split
    · exact h
    · exact h
theorem rdTake_x (b : List (BitVec 8)) (e n : Nat) : (rdTake b e n).x = [] ∨ (rdTake b e n).x.length = n := by
  by_cases h : (rdTake b e n).e = 0
  · exact .inr (rdTake_len b e n h).1
  · exact .inl (rdTake_err b e n h).1
theorem drop_mid {α : Type} (p q r : List α) (n m : Nat) (hp : p.length = n) (hq : q.length = m) : (p ++ (q ++ r)).drop (n + m) = r := by
  rw [← List.append_assoc, ← hp, ← hq, ← List.length_append, List.drop_left]
theorem take_mid {α : Type} (p r : List α) (n : Nat) (hp : p.length = n) : (p ++ r).take n = p := by rw [← hp, List.take_left]
theorem rdNum_bad (b : List (BitVec 8)) (e k most : Nat) (h : e ≠ 0) : rdNum b e k most = (0, b, e) := by
  have h2 : rdTake b e k = ⟨[], b, e⟩ := by unfold rdTake; rw [if_pos h]
  unfold rdNum
  rw [h2, if_pos h]
theorem rdNum_ok (b : List (BitVec 8)) (k most : Nat) (hk : k ≤ b.length) : rdNum b 0 k most = if most < leN (b.take k) then (0, b.drop k, 3) else (leN (b.take k), b.drop k, 0) := by
  have h2 : rdTake b 0 k = ⟨b.take k, b.drop k, 0⟩ := by unfold rdTake; rw [if_neg (by simp), if_neg (by omega)]
  unfold rdNum
  rw [h2, if_neg (by simp)]
theorem rdTake_bad (b : List (BitVec 8)) (e n : Nat) (h : e ≠ 0) : rdTake b e n = ⟨[], b, e⟩ := by unfold rdTake; rw [if_pos h]
theorem rdTake_ok (b : List (BitVec 8)) (n : Nat) (hn : n ≤ b.length) : rdTake b 0 n = ⟨b.take n, b.drop n, 0⟩ := by unfold rdTake; rw [if_neg (by simp), if_neg (by omega)]
/-- A call of a bound function value, where it comes up alone. -/
theorem plan_callv {P : Program} {ops : Array Oper} {Q : Exit → Act → World → Prop} {S : World → Prop} {i : Nat} {r : Plan} {a : Act} {w : World} {o : Oper} (f : FuncId) (x : Operand) (bd : Array Value) (xs : Array Operand) (ats : Array TypeId) (vs : Array Value) (hf : enters P f = true) (ho : ops.toList[i]? = some o) (hw : Region.wanted o (yielded ops a.tmps) = true)
    (hop : o.op = .call { callee := .value x, args := xs, argTypes := ats }) (hx : a.eval x = .func (.func f) bd #[]) (hxs : xs.map a.eval = vs)
    (h : Calls P f (bd ++ vs ++ #[]) w fun e w' => ∃ v, e = .returned v ∧ S w' ∧ wpPlan P ops Q S r (a.put o.dst v) w') : wpPlan P ops Q S (.sole i r) a w := by
  refine wpOp_at ho hw ?_
  unfold Oper.wp execOp
  have hr : (callFunc f (bd ++ vs ++ #[])).run P w = .ok (.enter f (bd ++ vs ++ #[])) w := run_enters hf _ w
  simp only [hop, resolve, hx, Deferred.ofValue, Sem.run_bind, Sem.run_pure, Result.andThen_ok, invoke, hxs, hr]
  exact h.mono fun e w' ⟨v, he, hS, hp⟩ => by subst he; exact ⟨hS, hp⟩
end Sha
end Go.Proofs.Ytfbhbdllbapnpaa
namespace Go.Proofs.Ytfbhbdllbapnpaa
namespace Sha
open Go.RowKit Mem
set_option maxRecDepth 100000 in
set_option maxHeartbeats 1000000 in
theorem pfill_own (b : List (BitVec 8)) (size : Nat) (v : Value) (w : World) (hv : Sl w v b) (hle : b.length ≤ size) (hs : size ≤ 8000) : Calls Try.prog 23 #[v, .int .i64 (size : Int)] w (TwoOwn w (fillB b size) 0) := by
  have hl := lengthen_any b (size - b.length) v w (by omega) hv
  rw [show ((size - b.length : Nat) : Int) = (size : Int) - (b.length : Int) by omega] at hl
  obtain ⟨a0, cap, rfl, _, _⟩ := hv
  obtain ⟨m, hm⟩ : ∃ m, m = b.length := ⟨_, rfl⟩
  unfold fillB
  rw [← hm] at hle hl ⊢
  have g1 : ¬ (size : Int) < (m : Int) := by omega
  have g2 : ¬ (2147483647 : Int) < (size : Int) := by omega
  have LE := Lib.hid hl
  clear hl hm
  go_enter Try.func23, Try.ntmps23
  go_wp2_with fail
  refine LE.out.mono ?_
  rintro o w2 ⟨g, rfl, ha, hg, hb2⟩
  have HA := Lib.hid ha; have HB := Lib.hid hb2; have HG := Lib.hid hg
  clear ha hb2 hg LE
  go_wp2_with fail
  go_ret2
  exact ⟨g, by rw [List.length_append, List.length_replicate]; rfl, HA.out, HG.out, HB.out⟩
end Sha
end Go.Proofs.Ytfbhbdllbapnpaa
