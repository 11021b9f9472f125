/- The document's digest, plainly: the state folded over the padded text's blocks is the digest that the program's states come to. | Over any program: in a plan, an element's address and the load of one cell that the class keeps. | In a plan: the operations on words of 32 bits, the words as bit vectors; and on small whole numbers. Over any program. The document's own turning of a word, bit by bit: its walk; turning by two is turning by their sum. The document's own product of two numbers of 64 bits, and its whole cube roots: their walks. | Plain mathematics: the primes below q as the document collects them, the first 64 of them, and that their cube roots' fractions are the listed constants. | The walk of the document's primes: an outer loop over the numbers, an inner one over those that were collected, an append to the call's own slice. The document's whole square roots, and its constants and first state reckoned at once: their walks. The document's padded text: its walk; it is the text with the padding that the program lays behind it. The document's step: a block turns a state. The document's digest: its walk; it is the program's. -/
import Derived.Test.YtjadjidjfkahpaaDoorBA
import Derived.Test.YtjadjidjfkahpaaDoorBB
import Derived.BigGuardPart
namespace Go.Proofs.YtjadjidjfkahpaaDoor
namespace Sha
theorem adds_comm (l m : List (BitVec 32)) : adds l m = adds m l := by
  unfold adds
  exact List.zipWith_comm_of_comm (fun x y => BitVec.add_comm x y)
theorem adds_assoc : ∀ l m k : List (BitVec 32), adds (adds l m) k = adds l (adds m k)
  | [], _, _ => by simp [adds]
  | _ :: _, [], _ => by simp [adds]
  | _ :: _, _ :: _, [] => by simp [adds]
  | x :: l, y :: m, z :: k => by
    have ih := adds_assoc l m k
    unfold adds at ih ⊢
    simp only [List.zipWith_cons_cons, ih, BitVec.add_assoc]
theorem addB_comp (H : List (BitVec 32)) (T : List (BitVec 8)) : adds (addB H T) IVl = comp (adds H IVl) T := by
  unfold addB comp
  rw [adds_comm IVl H, adds_comm H, adds_assoc]
/-- The state after i blocks of a text. -/
def comps (s : List (BitVec 32)) (T : List (BitVec 8)) : Nat → List (BitVec 32)
  | 0 => s
  | i + 1 => comp (comps s T i) ((T.drop (64 * i)).take 64)
theorem lay_all (T c : List (BitVec 8)) (h : T.length = c.length) : lay T 0 c = c := by simp [lay, h]
theorem feeds_comps (T : List (BitVec 8)) (m : Nat) (hT : T.length = 64 * m) : ∀ i, i ≤ m →
    (feeds fed0 (T.take (64 * i))).at' = 0 ∧ (feeds fed0 (T.take (64 * i))).T.length = 64 ∧ adds (feeds fed0 (T.take (64 * i))).H IVl = comps IVl T i
  | 0, _ => by
    rw [Nat.mul_zero, List.take_zero]
    exact ⟨rfl, by decide, by show adds (List.replicate 8 0) IVl = IVl; decide⟩
  | i + 1, hi => by
    obtain ⟨h0, h1, h2⟩ := feeds_comps T m hT i (by omega)
    have hc : ((T.drop (64 * i)).take 64).length = 64 := by rw [List.length_take, List.length_drop]; omega
    have e : T.take (64 * (i + 1)) = T.take (64 * i) ++ (T.drop (64 * i)).take 64 := by rw [Nat.mul_add, List.take_add]
    rw [e, feeds_append, feeds_full _ _ h1 (by rw [h0]; decide) (by rw [h0, hc])]
    refine ⟨rfl, by simp [zs64], ?_⟩
    rw [h0, lay_all _ _ (by rw [h1, hc]), addB_comp, h2]; rfl
theorem padded_mod (n : Nat) : ∃ m, n + (padBytes n).length = 64 * m := by
  refine ⟨(n + (padBytes n).length) / 64, ?_⟩
  rw [padBytes_length]
  unfold padQ
  split <;> omega
/-- The document's digest is the program's. -/
theorem digest_comps (b : List (BitVec 8)) (m : Nat) (hm : (b ++ padBytes b.length).length = 64 * m) : dRow (comps IVl (b ++ padBytes b.length) m) 8 = digestOf b := by
  have h := (feeds_comps _ m hm m (Nat.le_refl m)).2.2
  rw [List.take_of_length_le (by omega), feeds_append] at h
  rw [← h]; rfl
/-- A word as a sum of four bytes. -/
theorem word_sum (b0 b1 b2 b3 : BitVec 8) : (b0.toNat : Int) * 16777216 + (b1.toNat : Int) * 65536 + (b2.toNat : Int) * 256 + (b3.toNat : Int) =
    V (b0.setWidth 32 <<< 24 ||| b1.setWidth 32 <<< 16 ||| b2.setWidth 32 <<< 8 ||| b3.setWidth 32) := by
  have l0 := b0.isLt
  have l1 := b1.isLt
  have l2 := b2.isLt
  have l3 := b3.isLt
  have e (b : BitVec 8) (k : Nat) (hk : k ≤ 24) : (b.setWidth 32 <<< k).toNat = b.toNat <<< k := by
    have lb := b.isLt
    have hp : 2 ^ k ≤ 2 ^ 24 := Nat.pow_le_pow_right (by decide) hk
    rw [BitVec.toNat_shiftLeft, BitVec.toNat_setWidth, Nat.mod_eq_of_lt (Nat.lt_of_lt_of_le lb (by decide)), Nat.mod_eq_of_lt]
    rw [Nat.shiftLeft_eq]
    exact Nat.lt_of_lt_of_le (Nat.mul_lt_mul_of_lt_of_le lb hp (Nat.two_pow_pos _)) (by decide)
  have e3 : (b3.setWidth 32).toNat = b3.toNat := by rw [BitVec.toNat_setWidth]; omega
  have h2 : b2.toNat <<< 8 ||| b3.toNat = b2.toNat * 256 + b3.toNat := by rw [← Nat.shiftLeft_add_eq_or_of_lt (by omega), Nat.shiftLeft_eq]
  have h1 : b1.toNat <<< 16 ||| (b2.toNat * 256 + b3.toNat) = b1.toNat * 65536 + (b2.toNat * 256 + b3.toNat) := by rw [← Nat.shiftLeft_add_eq_or_of_lt (by omega), Nat.shiftLeft_eq]
  have h0 : b0.toNat <<< 24 ||| (b1.toNat * 65536 + (b2.toNat * 256 + b3.toNat)) = b0.toNat * 16777216 + (b1.toNat * 65536 + (b2.toNat * 256 + b3.toNat)) := by rw [← Nat.shiftLeft_add_eq_or_of_lt (by omega), Nat.shiftLeft_eq]
  unfold V
  rw [BitVec.toNat_or, BitVec.toNat_or, BitVec.toNat_or, e _ _ (by decide), e _ _ (by decide), e _ _ (by decide), e3, Nat.or_assoc, Nat.or_assoc, h2, h1, h0]
  omega
/-- The first t words of a block's schedule. -/
def sofar (b : List (BitVec 8)) (t : Nat) : List (BitVec 32) := if t ≤ 16 then wds b t else ext (wds b 16) (t - 16)
theorem sofar_length (b : List (BitVec 8)) (t : Nat) : (sofar b t).length = t := by
  unfold sofar
  split
  · rw [wds_length]
  · rw [ext_length, wds_length]; omega
theorem sofar_word (b : List (BitVec 8)) (t : Nat) (h : t < 16) : sofar b (t + 1) = sofar b t ++ [word b t] := by
  unfold sofar
  rw [if_pos (by omega), if_pos (by omega)]; rfl
theorem sofar_more (b : List (BitVec 8)) (t : Nat) (h : 16 ≤ t) : sofar b (t + 1) = sofar b t ++ [nextW (sofar b t)] := by
  have e : sofar b t = ext (wds b 16) (t - 16) := by
    unfold sofar
    split
    · have : t = 16 := by omega
      subst this; rfl
    · rfl
  rw [e]
  unfold sofar
  rw [if_neg (by omega), show t + 1 - 16 = (t - 16) + 1 by omega]; rfl
theorem sofar_all (b : List (BitVec 8)) : sofar b 64 = sched b := rfl
end Sha
end Go.Proofs.YtjadjidjfkahpaaDoor
namespace Go.Proofs.YtjadjidjfkahpaaDoor
namespace Mem
open Go.RowKit
section
variable {P : Program} {ops : Array Oper} {Q : Exit → Act → World → Prop} {S : World → Prop}
end
end Mem
end Go.Proofs.YtjadjidjfkahpaaDoor
namespace Go.Proofs.YtjadjidjfkahpaaDoor
namespace Sha
open Go.RowKit Mem
section
variable {P : Program}
theorem s0_val (x : BitVec 32) : bits .xor .u32 (bits .xor .u32 (V (x.rotateRight 7)) (V (x.rotateRight 18))) ((V x).tdiv 8 % 4294967296) = V (s0 x) := by
  have h : (V x).tdiv 8 % (4294967296 : Int) = V (x >>> 3) := by
    have := V_lo (x >>> 3); have := V_hi (x >>> 3)
    rw [Int.tdiv_eq_ediv_of_nonneg (V_lo x), shr3]; omega
  rw [h, r_xor, r_xor]; rfl
theorem s1_val (x : BitVec 32) : bits .xor .u32 (bits .xor .u32 (V (x.rotateRight 17)) (V (x.rotateRight 19))) ((V x).tdiv 1024 % 4294967296) = V (s1 x) := by
  have h : (V x).tdiv 1024 % (4294967296 : Int) = V (x >>> 10) := by
    have := V_lo (x >>> 10); have := V_hi (x >>> 10)
    rw [Int.tdiv_eq_ediv_of_nonneg (V_lo x), shr10]; omega
  rw [h, r_xor, r_xor]; rfl
end
end Sha
end Go.Proofs.YtjadjidjfkahpaaDoor
namespace Go.Proofs.YtjadjidjfkahpaaDoor
namespace Sha
open Go.RowKit Mem

/-- Turned right by r (up to 32), as a number. -/
def rN (x r : Nat) : Nat := x / 2 ^ r + x % 2 ^ r * 2 ^ (32 - r)
theorem rotr_nat (x : BitVec 32) (r : Nat) (h : r < 32) : (x.rotateRight r).toNat = rN x.toNat r := by
  have e1 : 2 ^ 32 = 2 ^ r * 2 ^ (32 - r) := by rw [← Nat.pow_add]; congr 1; omega
  have e2 : x.toNat * 2 ^ (32 - r) % 2 ^ 32 = x.toNat % 2 ^ r * 2 ^ (32 - r) := by rw [e1, Nat.mul_mod_mul_right]
  have hlt : x.toNat / 2 ^ r < 2 ^ (32 - r) := by
    have := x.isLt
    rw [e1] at this
    exact Nat.div_lt_of_lt_mul this
  rw [BitVec.toNat_rotateRight, Nat.mod_eq_of_lt h, Nat.shiftRight_eq_div_pow, Nat.shiftLeft_eq, e2, Nat.or_comm, Nat.mul_comm (x.toNat % 2 ^ r), ← Nat.two_pow_add_eq_or_of_lt hlt, rN, Nat.add_comm, Nat.mul_comm (2 ^ (32 - r))]
theorem rN_step (x r : Nat) (h : r < 32) : rN x r / 2 + rN x r % 2 * 2147483648 = rN x (r + 1) := by
  have e1 : 2 ^ (32 - r) = 2 * 2 ^ (31 - r) := by rw [← Nat.pow_succ']; congr 1; omega
  have e2 : (2147483648 : Nat) = 2 ^ r * 2 ^ (31 - r) := by
    rw [← Nat.pow_add, show r + (31 - r) = 31 by omega]
  have e3 : 32 - (r + 1) = 31 - r := by omega
  unfold rN
  rw [e1, e3, Nat.pow_succ 2 r, ← Nat.div_div_eq_div_mul, show x % (2 ^ r * 2) = x % 2 ^ (r + 1) by rw [Nat.pow_succ], Nat.mod_pow_succ, e2]
  generalize x / 2 ^ r = a
  generalize x % 2 ^ r = b
  generalize 2 ^ (31 - r) = P
  generalize 2 ^ r = q
  have e4 : b * (2 * P) = 2 * (b * P) := by rw [Nat.mul_left_comm]
  rw [e4, Nat.add_mul_div_left _ _ (by decide), Nat.add_mul_mod_self_left, Nat.add_mul]
  have e5 : q * (a % 2) * P = a % 2 * (q * P) := by rw [Nat.mul_right_comm, Nat.mul_comm]
  rw [e5]; omega
theorem rN_32 (x : Nat) (h : x < 4294967296) : rN x 32 = x := by
  unfold rN
  have : x / 2 ^ 32 = 0 := Nat.div_eq_of_lt h
  rw [this, Nat.mod_eq_of_lt h]; simp
/-- One step of the turning, bit by bit. -/
def st (x : BitVec 32) : BitVec 32 := x.rotateRight 1
def it (x : BitVec 32) : Nat → BitVec 32
  | 0 => x
  | k + 1 => st (it x k)
theorem it_nat (x : BitVec 32) : ∀ k, k ≤ 32 → (it x k).toNat = rN x.toNat k
  | 0, _ => by simp [it, rN, Nat.mod_one]
  | k + 1, h => by
    have e0 : rN (it x k).toNat 1 = (it x k).toNat / 2 + (it x k).toNat % 2 * 2147483648 := rfl
    rw [it, st, rotr_nat _ 1 (by decide), e0, it_nat x k (by omega), rN_step _ _ (by omega)]
theorem it_rotr (x : BitVec 32) (k : Nat) (h : k < 32) : it x k = x.rotateRight k :=
  BitVec.eq_of_toNat_eq (by rw [it_nat x k (by omega), rotr_nat x k h])
theorem it_32 (x : BitVec 32) : it x 32 = x := BitVec.eq_of_toNat_eq (by rw [it_nat x 32 (by decide), rN_32 _ x.isLt])
theorem it_add (x : BitVec 32) (a : Nat) : ∀ b, it x (a + b) = it (it x a) b
  | 0 => rfl
  | b + 1 => by rw [← Nat.add_assoc, it, it, it_add x a b]
theorem rotr_rotr (x : BitVec 32) (a b : Nat) (ha : a < 32) (hb : b < 32) : (x.rotateRight a).rotateRight b = x.rotateRight ((a + b) % 32) := by
  rw [← it_rotr x a ha, ← it_rotr (it x a) b hb, ← it_add, ← it_rotr x _ (Nat.mod_lt _ (by decide))]
  by_cases h : a + b < 32
  · rw [Nat.mod_eq_of_lt h]
  · have e : a + b = 32 + (a + b - 32) := by omega
    have e' : (a + b) % 32 = a + b - 32 := by omega
    rw [e', e, it_add, it_32]; congr 1; omega
theorem st_val (y : BitVec 32) : V y / (2 : Int) + V y % (2 : Int) * (2147483648 : Int) = V (y.rotateRight 1) := by
  have e0 : rN y.toNat 1 = y.toNat / 2 + y.toNat % 2 * 2147483648 := rfl
  unfold V
  rw [rotr_nat y 1 (by decide), e0]; omega
theorem st_val' (y : BitVec 32) : (V y / (2 : Int) + V y % (2 : Int) * (2147483648 : Int)) % (4294967296 : Int) = V (y.rotateRight 1) := by
  rw [st_val]; have := V_lo (y.rotateRight 1); have := V_hi (y.rotateRight 1); omega
theorem st_val3 (y : BitVec 32) : ((V y).tdiv 2 % (4294967296 : Int) + V y % (2 : Int) * (2147483648 : Int)) % (4294967296 : Int) = V (y.rotateRight 1) := by
  rw [← st_val', Int.tdiv_eq_ediv_of_nonneg (V_lo y)]; omega
set_option maxRecDepth 100000 in
set_option maxHeartbeats 400000 in
theorem rturn_any (x : BitVec 32) (n : Int) (r : Nat) (w : World) (hr : (n % 32).toNat = r) (_h0 : -9223372036854775808 ≤ n) (_h1 : n ≤ 9223372036854775807) :
    Calls Tryd.prog 76 #[.int .u32 (V x), .int .i64 n] w fun e w' => e = .returned (.int .u32 (V (x.rotateRight r))) ∧ w = w' := by
  have ht : n.tmod 32 = n % 32 ∨ (n.tmod 32 = n % 32 - 32 ∧ n % 32 ≠ 0) := by
    rw [Int.tmod_eq_emod]
    split
    · left; omega
    · rename_i h
      right
      refine ⟨by simp, fun e => h (Or.inr (Int.dvd_of_emod_eq_zero e))⟩
  have hr32 : r < 32 := by omega
  obtain ⟨c, hc⟩ : ∃ c, c = n.tmod 32 := ⟨_, rfl⟩
  have hcc : n.tmod 32 = c := hc.symm
  have hcl : -32 < c := by omega
  have hch : c < 32 := by omega
  obtain ⟨d, hd⟩ : ∃ d, d = c + 32 := ⟨_, rfl⟩
  have hcd : c + 32 = d := hd.symm
  have hd0 : 0 < d := by omega
  have hd1 : d < 64 := by omega
  have hdr : d % 32 = (r : Int) := by omega
  clear hd
  have HR := Lib.hid hr
  clear ht hc hr
  go_enter Tryd.func76, Tryd.ntmps76
  go_wp2_with fail
  rw [hdr]
  clear hdr hcd hcc
  go_loop [0, 5] (fun v i => ∃ k : Nat, k ≤ r ∧ i = .int .i64 k ∧ v = .int .u32 (V (it x k))) (fun _ i => r - (intOf i).toNat)
  case atStart => exact ⟨0, by omega, rfl, rfl⟩
  case round =>
    obtain ⟨k, hk, rfl, rfl⟩ := hrel
    obtain ⟨y, hy⟩ : ∃ y, y = it x k := ⟨_, rfl⟩
    rw [← hy]
    have v0 := V_lo y
    have HY := Lib.hid hy; clear hy
    by_cases hlt : k < r
    · have hlt' : (k : Int) < (r : Int) := by omega
      go_wp2
      go_round
      case rel => exact ⟨k + 1, by omega, by go_num, by rw [st_val3, it, st, ← HY.out]⟩
      case measure => simp [intOf]; omega
    · have hkr : k = r := by omega
      have hge : ¬ (k : Int) < (r : Int) := by omega
      have HKR := Lib.hid hkr; clear hkr hlt
      go_wp2
      go_ret
      exact ⟨by rw [← it_rotr x r hr32, ← HKR.out, ← HY.out]; rfl, rfl⟩
end Sha
end Go.Proofs.YtjadjidjfkahpaaDoor
namespace Go.Proofs.YtjadjidjfkahpaaDoor
namespace Sha
open Go.RowKit Mem

def w64 (x : Int) : Int := IntKind.u64.wrap x
def tLow (a b : Int) : Int := w64 (a % 4294967296 * (b % 4294967296))
def tMid (a b : Int) : Int := w64 (w64 (w64 (a.tdiv 4294967296) * (b % 4294967296)) + w64 ((tLow a b).tdiv 4294967296))
def tMid2 (a b : Int) : Int := w64 (w64 (a % 4294967296 * w64 (b.tdiv 4294967296)) + (tMid a b).tmod 4294967296)
def tHi (a b : Int) : Int := w64 (w64 (w64 (w64 (a.tdiv 4294967296) * w64 (b.tdiv 4294967296)) + w64 ((tMid a b).tdiv 4294967296)) + w64 ((tMid2 a b).tdiv 4294967296))
def tLo (a b : Int) : Int := w64 (w64 (tMid2 a b * 4294967296) + (tLow a b).tmod 4294967296)
theorem w64_nonneg (x : Int) : 0 ≤ w64 x := by unfold w64; simp [IntKind.wrap, IntKind.bits, IntKind.signed]; omega
set_option maxRecDepth 100000 in
set_option maxHeartbeats 400000 in
theorem times_any (a b : Int) (w : World) (ha : 0 ≤ a) (hb : 0 ≤ b) :
    Calls Tryd.prog 82 #[.int .u64 a, .int .u64 b] w fun e w' => e = .returned (.tuple #[.int .u64 (tHi a b), .int .u64 (tLo a b)]) ∧ w = w' := by
  go_enter Tryd.func82, Tryd.ntmps82
  go_wp2
  go_ret2
  exact ⟨rfl, rfl⟩
/-- Is x's cube at most p times 2^96, as the document reckons it? -/
def cubeOk (p x : Int) : Bool :=
  let hi := tHi x x
  let lo := tLo x x
  let mid := w64 (tHi lo x + tLo hi x)
  let top := if mid < tHi lo x then w64 (tHi hi x + 1) else tHi hi x
  top == 0 && (decide (mid < w64 (p * 4294967296)) || (mid == w64 (p * 4294967296) && tLo lo x == 0))
def cubeGo (p : Int) : Nat → Int → Int
  | 0, r => r
  | k + 1, r => cubeGo p k (if cubeOk p (w64 (r + w64 (2 ^ k))) then w64 (r + w64 (2 ^ k)) else r)
theorem cube_first : cubeGo 2 35 0 % 4294967296 = V (Kl.getD 0 0) := by decide +kernel
theorem cube_last : cubeGo 311 35 0 % 4294967296 = V (Kl.getD 63 0) := by decide +kernel
set_option maxRecDepth 100000 in
set_option maxHeartbeats 1000000 in
theorem cube_any (p : Int) (w : World) (_hp : 0 ≤ p) :
    Calls Tryd.prog 74 #[.int .u64 p] w fun e w' => e = .returned (.int .u32 (cubeGo p 35 0 % 4294967296)) ∧ w = w' := by
  obtain ⟨want, hw⟩ : ∃ want, want = w64 (p * 4294967296) := ⟨_, rfl⟩
  have hwant : IntKind.u64.wrap (p * 4294967296) = want := hw.symm
  have HW := Lib.hid hw; clear hw
  go_enter Tryd.func74, Tryd.ntmps74
  go_wp2_with fail
  go_loop [3, 4] (fun v3 v4 => ∃ (m : Nat) (r : Int), m ≤ 35 ∧ v4 = .int .i64 ((m : Int) - 1) ∧ v3 = .int .u64 r ∧ 0 ≤ r ∧ cubeGo p m r = cubeGo p 35 0) (fun _ v4 => (intOf v4 + 1).toNat)
  case atStart => exact ⟨35, 0, by omega, rfl, rfl, by omega, rfl⟩
  case round =>
    obtain ⟨m, r, hm, rfl, rfl, hr, hgo⟩ := hrel
    have HGO := Lib.hid hgo; clear hgo
    cases m with
    | zero =>
      have h35 : cubeGo p 35 0 = r := by rw [← HGO.out]; rfl
      have H35 := Lib.hid h35; clear h35
      go_wp2
      go_ret
      refine ⟨?_, rfl⟩
      rw [H35.out]; rfl
    | succ k =>
      rw [show (((k + 1 : Nat) : Int) - 1) = (k : Int) from by omega]
      obtain ⟨x, hx⟩ : ∃ x, x = w64 (r + w64 (2 ^ k)) := ⟨_, rfl⟩
      have hx0 : 0 ≤ x := by rw [hx]; exact w64_nonneg _
      have hxr : IntKind.u64.wrap (r + IntKind.u64.wrap (2 ^ k)) = x := hx.symm
      obtain ⟨hi, hhi⟩ : ∃ q, q = tHi x x := ⟨_, rfl⟩
      obtain ⟨lo, hlo⟩ : ∃ q, q = tLo x x := ⟨_, rfl⟩
      have hi0 : 0 ≤ hi := by rw [hhi]; exact w64_nonneg _
      have lo0 : 0 ≤ lo := by rw [hlo]; exact w64_nonneg _
      obtain ⟨h1, hh1⟩ : ∃ q, q = tHi lo x := ⟨_, rfl⟩
      obtain ⟨l1, hl1⟩ : ∃ q, q = tLo lo x := ⟨_, rfl⟩
      obtain ⟨h2, hh2⟩ : ∃ q, q = tHi hi x := ⟨_, rfl⟩
      obtain ⟨l2, hl2⟩ : ∃ q, q = tLo hi x := ⟨_, rfl⟩
      obtain ⟨mid, hmid⟩ : ∃ q, q = w64 (h1 + l2) := ⟨_, rfl⟩
      obtain ⟨u2, hu2⟩ : ∃ q, q = w64 (h2 + 1) := ⟨_, rfl⟩
      have hmr : IntKind.u64.wrap (h1 + l2) = mid := hmid.symm
      have hur : IntKind.u64.wrap (h2 + 1) = u2 := hu2.symm
      have T1 : Hid (∀ w, Calls Tryd.prog 82 #[.int .u64 x, .int .u64 x] w fun e w' => e = .returned (.tuple #[.int .u64 hi, .int .u64 lo]) ∧ w = w') := fun w => by rw [hhi, hlo]; exact times_any x x w hx0 hx0
      have T2 : Hid (∀ w, Calls Tryd.prog 82 #[.int .u64 lo, .int .u64 x] w fun e w' => e = .returned (.tuple #[.int .u64 h1, .int .u64 l1]) ∧ w = w') := fun w => by rw [hh1, hl1]; exact times_any lo x w lo0 hx0
      have T3 : Hid (∀ w, Calls Tryd.prog 82 #[.int .u64 hi, .int .u64 x] w fun e w' => e = .returned (.tuple #[.int .u64 h2, .int .u64 l2]) ∧ w = w') := fun w => by rw [hh2, hl2]; exact times_any hi x w hi0 hx0
      have hok : cubeOk p x = ((if mid < h1 then u2 else h2) == 0 && (decide (mid < want) || (mid == want && l1 == 0))) := by
        rw [hu2, hmid, hh1, hh2, hl1, hl2, hhi, hlo, HW.out]; rfl
      have hstep : cubeGo p k (if cubeOk p x then x else r) = cubeGo p 35 0 := by rw [← HGO.out, hx]; rfl
      have HOK := Lib.hid hok; have HST := Lib.hid hstep
      clear hx hhi hlo hh1 hl1 hh2 hl2 hmid hu2 hok hstep hi0 lo0
      by_cases hA : mid < h1
      · skip
        cases hB : (u2 == 0)
        case false =>
          have hv : cubeOk p x = false := by rw [HOK.out, if_pos hA, hB]; rfl
          have HVV := Lib.hid hv; clear hv
          go_wp2_with fail
          refine (T1.out _).mono ?_
          rintro e w1 ⟨rfl, rfl⟩
          go_wp2_with fail
          refine (T2.out _).mono ?_
          rintro e w1 ⟨rfl, rfl⟩
          go_wp2_with fail
          refine (T3.out _).mono ?_
          rintro e w1 ⟨rfl, rfl⟩
          go_wp2_with fail
          go_round
          case rel => exact ⟨k, r, by omega, by go_num, rfl, by assumption, by have h := HST.out; rw [HVV.out] at h; exact h⟩
          case measure => simp [intOf] <;> omega
        case true =>
          cases hC : decide (mid < want)
          case true =>
            have hv : cubeOk p x = true := by rw [HOK.out, if_pos hA, hB, hC]; rfl
            have HVV := Lib.hid hv; clear hv
            go_wp2_with fail
            refine (T1.out _).mono ?_
            rintro e w1 ⟨rfl, rfl⟩
            go_wp2_with fail
            refine (T2.out _).mono ?_
            rintro e w1 ⟨rfl, rfl⟩
            go_wp2_with fail
            refine (T3.out _).mono ?_
            rintro e w1 ⟨rfl, rfl⟩
            go_wp2_with fail
            go_round
            case rel => exact ⟨k, x, by omega, by go_num, rfl, by assumption, by have h := HST.out; rw [HVV.out] at h; exact h⟩
            case measure => simp [intOf] <;> omega
          case false =>
            cases hD : (mid == want)
            case false =>
              have hv : cubeOk p x = false := by rw [HOK.out, if_pos hA, hB, hC, hD]; rfl
              have HVV := Lib.hid hv; clear hv
              go_wp2_with fail
              refine (T1.out _).mono ?_
              rintro e w1 ⟨rfl, rfl⟩
              go_wp2_with fail
              refine (T2.out _).mono ?_
              rintro e w1 ⟨rfl, rfl⟩
              go_wp2_with fail
              refine (T3.out _).mono ?_
              rintro e w1 ⟨rfl, rfl⟩
              go_wp2_with fail
              go_round
              case rel => exact ⟨k, r, by omega, by go_num, rfl, by assumption, by have h := HST.out; rw [HVV.out] at h; exact h⟩
              case measure => simp [intOf] <;> omega
            case true =>
              cases hE : (l1 == 0)
              case false =>
                have hv : cubeOk p x = false := by rw [HOK.out, if_pos hA, hB, hC, hD, hE]; rfl
                have HVV := Lib.hid hv; clear hv
                go_wp2_with fail
                refine (T1.out _).mono ?_
                rintro e w1 ⟨rfl, rfl⟩
                go_wp2_with fail
                refine (T2.out _).mono ?_
                rintro e w1 ⟨rfl, rfl⟩
                go_wp2_with fail
                refine (T3.out _).mono ?_
                rintro e w1 ⟨rfl, rfl⟩
                go_wp2_with fail
                go_round
                case rel => exact ⟨k, r, by omega, by go_num, rfl, by assumption, by have h := HST.out; rw [HVV.out] at h; exact h⟩
                case measure => simp [intOf] <;> omega
              case true =>
                have hv : cubeOk p x = true := by rw [HOK.out, if_pos hA, hB, hC, hD, hE]; rfl
                have HVV := Lib.hid hv; clear hv
                go_wp2_with fail
                refine (T1.out _).mono ?_
                rintro e w1 ⟨rfl, rfl⟩
                go_wp2_with fail
                refine (T2.out _).mono ?_
                rintro e w1 ⟨rfl, rfl⟩
                go_wp2_with fail
                refine (T3.out _).mono ?_
                rintro e w1 ⟨rfl, rfl⟩
                go_wp2_with fail
                go_round
                case rel => exact ⟨k, x, by omega, by go_num, rfl, by assumption, by have h := HST.out; rw [HVV.out] at h; exact h⟩
                case measure => simp [intOf] <;> omega
      · skip
        cases hB : (h2 == 0)
        case false =>
          have hv : cubeOk p x = false := by rw [HOK.out, if_neg hA, hB]; rfl
          have HVV := Lib.hid hv; clear hv
          go_wp2_with fail
          refine (T1.out _).mono ?_
          rintro e w1 ⟨rfl, rfl⟩
          go_wp2_with fail
          refine (T2.out _).mono ?_
          rintro e w1 ⟨rfl, rfl⟩
          go_wp2_with fail
          refine (T3.out _).mono ?_
          rintro e w1 ⟨rfl, rfl⟩
          go_wp2_with fail
          go_round
          case rel => exact ⟨k, r, by omega, by go_num, rfl, by assumption, by have h := HST.out; rw [HVV.out] at h; exact h⟩
          case measure => simp [intOf] <;> omega
        case true =>
          cases hC : decide (mid < want)
          case true =>
            have hv : cubeOk p x = true := by rw [HOK.out, if_neg hA, hB, hC]; rfl
            have HVV := Lib.hid hv; clear hv
            go_wp2_with fail
            refine (T1.out _).mono ?_
            rintro e w1 ⟨rfl, rfl⟩
            go_wp2_with fail
            refine (T2.out _).mono ?_
            rintro e w1 ⟨rfl, rfl⟩
            go_wp2_with fail
            refine (T3.out _).mono ?_
            rintro e w1 ⟨rfl, rfl⟩
            go_wp2_with fail
            go_round
            case rel => exact ⟨k, x, by omega, by go_num, rfl, by assumption, by have h := HST.out; rw [HVV.out] at h; exact h⟩
            case measure => simp [intOf] <;> omega
          case false =>
            cases hD : (mid == want)
            case false =>
              have hv : cubeOk p x = false := by rw [HOK.out, if_neg hA, hB, hC, hD]; rfl
              have HVV := Lib.hid hv; clear hv
              go_wp2_with fail
              refine (T1.out _).mono ?_
              rintro e w1 ⟨rfl, rfl⟩
              go_wp2_with fail
              refine (T2.out _).mono ?_
              rintro e w1 ⟨rfl, rfl⟩
              go_wp2_with fail
              refine (T3.out _).mono ?_
              rintro e w1 ⟨rfl, rfl⟩
              go_wp2_with fail
              go_round
              case rel => exact ⟨k, r, by omega, by go_num, rfl, by assumption, by have h := HST.out; rw [HVV.out] at h; exact h⟩
              case measure => simp [intOf] <;> omega
            case true =>
              cases hE : (l1 == 0)
              case false =>
                have hv : cubeOk p x = false := by rw [HOK.out, if_neg hA, hB, hC, hD, hE]; rfl
                have HVV := Lib.hid hv; clear hv
                go_wp2_with fail
                refine (T1.out _).mono ?_
                rintro e w1 ⟨rfl, rfl⟩
                go_wp2_with fail
                refine (T2.out _).mono ?_
                rintro e w1 ⟨rfl, rfl⟩
                go_wp2_with fail
                refine (T3.out _).mono ?_
                rintro e w1 ⟨rfl, rfl⟩
                go_wp2_with fail
                go_round
                case rel => exact ⟨k, r, by omega, by go_num, rfl, by assumption, by have h := HST.out; rw [HVV.out] at h; exact h⟩
                case measure => simp [intOf] <;> omega
              case true =>
                have hv : cubeOk p x = true := by rw [HOK.out, if_neg hA, hB, hC, hD, hE]; rfl
                have HVV := Lib.hid hv; clear hv
                go_wp2_with fail
                refine (T1.out _).mono ?_
                rintro e w1 ⟨rfl, rfl⟩
                go_wp2_with fail
                refine (T2.out _).mono ?_
                rintro e w1 ⟨rfl, rfl⟩
                go_wp2_with fail
                refine (T3.out _).mono ?_
                rintro e w1 ⟨rfl, rfl⟩
                go_wp2_with fail
                go_round
                case rel => exact ⟨k, x, by omega, by go_num, rfl, by assumption, by have h := HST.out; rw [HVV.out] at h; exact h⟩
                case measure => simp [intOf] <;> omega
end Sha
end Go.Proofs.YtjadjidjfkahpaaDoor
namespace Go.Proofs.YtjadjidjfkahpaaDoor
namespace Sha

/-- The primes below q, as they are collected: each number that no earlier one divides. -/
def pr : Nat → List Nat
  | 0 => []
  | q + 1 => if 2 ≤ q ∧ (pr q).all (fun d => q % d != 0) then pr q ++ [q] else pr q
theorem pr_step (q : Nat) : pr (q + 1) = pr q ∨ pr (q + 1) = pr q ++ [q] := by
  rw [pr]; split
  · exact Or.inr rfl
  · exact Or.inl rfl
theorem pr_mono (q : Nat) : ∀ k, ∃ l, pr (q + k) = pr q ++ l
  | 0 => ⟨[], by simp⟩
  | k + 1 => by
    obtain ⟨l, h⟩ := pr_mono q k
    rcases pr_step (q + k) with e | e
    · exact ⟨l, by rw [← Nat.add_assoc, e, h]⟩
    · exact ⟨l ++ [q + k], by rw [← Nat.add_assoc, e, h, List.append_assoc]⟩
theorem pr_312 : (pr 312).length = 64 := by decide +kernel
/-- Where fewer than 64 are there, q is below 312. -/
theorem pr_lt (q : Nat) (h : (pr q).length < 64) : q < 312 := by
  rcases Nat.lt_or_ge q 312 with h' | h'
  · exact h'
  · obtain ⟨l, e⟩ := pr_mono 312 (q - 312)
    rw [show 312 + (q - 312) = q by omega] at e
    have := pr_312
    rw [e, List.length_append] at h
    omega
theorem pr_pos : ∀ (q d : Nat), d ∈ pr q → 2 ≤ d
  | 0, _, h => by simp [pr] at h
  | q + 1, d, h => by
    rw [pr] at h
    split at h
    · rename_i hq
      rcases List.mem_append.1 h with h | h
      · exact pr_pos q d h
      · simp at h; omega
    · exact pr_pos q d h
/-- The first n of them stand alike in every list that is long enough. -/
theorem pr_at (q t : Nat) (hq : q ≤ 312) (ht : t < (pr q).length) : (pr q).getD t 0 = (pr 312).getD t 0 := by
  obtain ⟨l, e⟩ := pr_mono q (312 - q)
  rw [show q + (312 - q) = 312 by omega] at e
  rw [e]
  simp [List.getD_eq_getElem?_getD, List.getElem?_append, ht]
theorem cubes : (List.range 64).all (fun t => cubeGo (((pr 312).getD t 0 : Nat) : Int) 35 0 % (4294967296 : Int) == V (Kl.getD t 0)) = true := by decide +kernel
theorem cube_at (t : Nat) (h : t < 64) : cubeGo (((pr 312).getD t 0 : Nat) : Int) 35 0 % (4294967296 : Int) = V (Kl.getD t 0) := by
  have := List.all_eq_true.1 cubes t (List.mem_range.2 h)
  simpa using this
end Sha
end Go.Proofs.YtjadjidjfkahpaaDoor
namespace Go.Proofs.YtjadjidjfkahpaaDoor
namespace Sha
open Go.RowKit Mem

def u64s (l : List Nat) : List Value := l.map fun (d : Nat) => Value.int .u64 (d : Int)
theorem own_open {w : World} {base : Nat} {e : TypeId} {v : Value} {l : List Nat} (h : w.ownsRow base e 1 v l.length (u64s l)) :
    ∃ a cap, v = .slice a l.length cap ∧ ∀ i, i < l.length → ∃ g, a = some ⟨g, 0, none⟩ ∧ w.cell? ⟨g, i, none⟩ = some (.int .u64 ((l.getD i 0 : Nat) : Int)) := by
  obtain ⟨_, h | ⟨g, cap, cur, rfl, hg, hh, hn, hc, hs, ht⟩⟩ := h
  · obtain ⟨rfl, h0⟩ := h
    exact ⟨none, 0, by rw [h0], fun i hi => by omega⟩
  · refine ⟨_, cap, rfl, fun i hi => ⟨g, rfl, ?_⟩⟩
    rw [cell_of_row w g i cur e (0, 0) hh]
    have h1 : (cur.toList.take (l.length * 1))[i]? = (u64s l)[i]? := by rw [ht]
    rw [List.getElem?_take, if_pos (by omega)] at h1
    rw [← Array.getElem?_toList, h1]
    simp [u64s, hi]
theorem take_all (l : List Nat) (q k : Nat) (h : k < l.length) : ((l.take (k + 1)).all (fun d => q % d != 0)) = (((l.take k).all (fun d => q % d != 0)) && (q % l.getD k 0 != 0)) := by
  have e : l.getD k 0 = l[k] := by simp [h]
  rw [List.take_succ_eq_append_getElem h, e, List.all_append]; simp
theorem ne_cast (q d : Nat) : (((q : Int) % (d : Int)) != 0) = (q % d != 0) := by
  rw [← Int.natCast_emod, Bool.eq_iff_iff]; simp; omega
theorem pr_yes (q : Nat) (h2 : 2 ≤ q) (h : (pr q).all (fun d => q % d != 0) = true) : pr (q + 1) = pr q ++ [q] := by
  rw [pr, if_pos ⟨h2, h⟩]
theorem pr_no (q : Nat) (h : (pr q).all (fun d => q % d != 0) = false) : pr (q + 1) = pr q := by
  rw [pr, if_neg (by rw [h]; simp)]
theorem info64u : (Tryd.prog.info? 66).map (fun i => (i.zero, i.size, i.bytes)) = some (some (.int .u64 0), 1, 8) := by kernel_rfl
def PRel (w : World) (v p : Value) (wr : World) : Prop :=
  ∃ q : Nat, 2 ≤ q ∧ q ≤ 312 ∧ p = .int .u64 (q : Int) ∧ wr.ownsRow w.heap.size 66 1 v (pr q).length (u64s (pr q)) ∧ Below w.heap.size w wr
def PEnd (n : Nat) (w : World) (e : Ending) (w' : World) : Prop :=
  ∃ v q, e = .returned v ∧ q ≤ 312 ∧ n ≤ (pr q).length ∧ w'.ownsRow w.heap.size 66 1 v (pr q).length (u64s (pr q)) ∧ Below w.heap.size w w'
set_option maxRecDepth 100000 in
set_option maxHeartbeats 1000000 in
theorem primes_any (n : Nat) (hn : n ≤ 64) (w : World) : Calls Tryd.prog 73 #[.int .i64 (n : Int)] w (PEnd n w) := by
  go_enter Tryd.func73, Tryd.ntmps73
  go_wp2_with fail
  go_loopw [3, 4, 5, 6] (fun v p _ _ wr => PRel w v p wr) (fun _ p _ _ _ => (312 - intOf p).toNat)
  case atStart => exact ⟨2, by omega, by omega, rfl, by have h := World.ownsRow_nil w w.heap.size 66 1; exact h, Below.refl _ _⟩
  case round =>
    obtain ⟨q, hq2, hq, rfl, hown, hb⟩ := hrel
    obtain ⟨a, cap, rfl, hcell⟩ := own_open hown
    obtain ⟨L, hL⟩ : ∃ L, L = (pr q).length := ⟨_, rfl⟩
    have hown' := hown
    rw [← hL] at hown' ⊢
    by_cases hlt : L < n
    · have hq' : q < 312 := pr_lt q (by omega)
      have HCE := Lib.hid hcell; have HOWN := Lib.hid hown'; have HB := Lib.hid hb; have HLL := Lib.hid hL
      clear hcell hown hown' hb hL
      go_wp2_with fail
      obtain ⟨wo, rfl⟩ : ∃ wo : World, wo = wr := ⟨_, rfl⟩
      go_loop [5, 6] (fun b i => ∃ k : Nat, k ≤ L ∧ i = .int .i64 k ∧ b = .bool (((pr q).take k).all (fun d => q % d != 0))) (fun _ i => L - (intOf i).toNat)
      case atStart => exact ⟨0, by omega, rfl, by simp⟩
      case round =>
        obtain ⟨k, hk, rfl, rfl⟩ := hrel
        obtain ⟨b, hbb⟩ : ∃ b, b = ((pr q).take k).all (fun d => q % d != 0) := ⟨_, rfl⟩
        rw [← hbb]
        have HBB := Lib.hid hbb; clear hbb
        by_cases hkl : k < L
        · obtain ⟨g, rfl, hc⟩ := HCE.out k (by rw [← HLL.out]; exact hkl)
          obtain ⟨d, hd⟩ : ∃ d, d = (pr q).getD k 0 := ⟨_, rfl⟩
          rw [← hd] at hc
          have hd2 : 2 ≤ d := by
            rw [hd]
            have hk' : k < (pr q).length := by rw [← HLL.out]; exact hkl
            refine pr_pos q _ ?_
            rw [List.getD_eq_getElem?_getD, List.getElem?_eq_getElem hk']; exact List.getElem_mem hk'
          have HD := Lib.hid hd; clear hd
          cases b
          · go_wp2
            go_round
            case rel => exact ⟨k + 1, by omega, by go_num, by rw [take_all _ _ _ (by rw [← HLL.out]; exact hkl), ← HBB.out]; rfl⟩
            case measure => simp [intOf]; omega
          · go_wp2
            go_round
            case rel => exact ⟨k + 1, by omega, by go_num, by rw [take_all _ _ _ (by rw [← HLL.out]; exact hkl), ← HBB.out, ← HD.out, ne_cast]; rfl⟩
            case measure => simp [intOf]; omega
        · have hkL : k = L := by omega
          have hall : (pr q).all (fun d => q % d != 0) = b := by
            rw [HBB.out, hkL, HLL.out, List.take_length]
          have hge : ¬ (k : Int) < (L : Int) := by omega
          have HALL := Lib.hid hall; have HBW := HB
          clear hkL hkl hall
          cases b
          · go_wp2_with fail
            go_roundw
            case rel =>
              refine ⟨q + 1, by omega, by omega, by go_num, ?_, HB.out⟩
              rw [pr_no q HALL.out, ← HLL.out]; exact HOWN.out
            case measure => simp [intOf]; omega
          · obtain ⟨i0, hi, hz0, hz1, hz2⟩ := info_parts info64u
            have HI0 := Lib.hid hi; have HZ0 := Lib.hid hz0; have HZ1 := Lib.hid hz1; have HZ2 := Lib.hid hz2
            clear hi hz0 hz1 hz2
            go_wp2_with (at_builtin; go_loud (refine wpList_append_own _ (by rfl) _ _ 114 (by rfl) w.heap.size 66 i0 (.int .u64 0) 1 8 Tryd.underlying114 HI0.out HZ0.out HZ1.out HZ2.out (by rfl) (by decide) _ L _ (by rfl) (HOWN.out.alloc _) ⟨wo.heap.size, 0, none⟩ 1 1 [.int .u64 (q : Int)] (by rfl) (by rfl) ?c1 ?c2 ?c3 ?c4 ?c5 ?_))
            case c2 => first | rfl | simp [Value.oneCell'] | (intro u hu; simp at hu; subst hu; rfl)
            case c3 => first | omega | (unfold maxLen; omega) | (simp [maxLen]; omega)
            case c4 => first | omega | (simp; omega)
            case c5 => have := HB.out.size; first | omega | (simp; omega)
            · intro v' w1 hown1 hgrow _
              have HO1 := Lib.hid hown1; have HG1 := Lib.hid hgrow
              clear hown1 hgrow
              go_wp2_with fail
              go_roundw
              case rel =>
                have hlen : (pr q ++ [q]).length = L + 1 := by rw [List.length_append, ← HLL.out]; rfl
                have hu : u64s (pr q ++ [q]) = u64s (pr q) ++ [Value.int .u64 (q : Int)] := by simp [u64s]
                refine ⟨q + 1, by omega, by omega, by go_num, ?_, ?_⟩
                · rw [pr_yes q hq2 HALL.out, hlen, hu]; exact HO1.out
                · have hal : Below w.heap.size w (wo.alloc (.cells #[.int .u64 (q : Int)] 66)) := HB.out.alloc HB.out.size _
                  exact hal.grown HG1.out hal.size (fun g hg => (HOWN.out.lt g hg).1)
              case measure => simp [intOf]; omega
    · have hge : ¬ (L : Int) < (n : Int) := by omega
      have HOWN := Lib.hid hown; have HB := Lib.hid hb; have HLL := Lib.hid hL
      clear hcell hown hown' hb hL
      go_wp2_with fail
      go_ret
      exact ⟨_, q, rfl, hq, by rw [← HLL.out]; omega, by first | exact HOWN.out | (have h := HOWN.out; rw [← HLL.out] at h ⊢; exact h), HB.out⟩
end Sha
end Go.Proofs.YtjadjidjfkahpaaDoor
namespace Go.Proofs.YtjadjidjfkahpaaDoor
namespace Sha
open Go.RowKit Mem

/-- Is x's square at most p times 2^64, as the document reckons it? -/
def sqOk (p x : Int) : Bool := decide (tHi x x < p) || (tHi x x == p && tLo x x == 0)
def sqGo (p : Int) : Nat → Int → Int
  | 0, r => r
  | k + 1, r => sqGo p k (if sqOk p (w64 (r + w64 (2 ^ k))) then w64 (r + w64 (2 ^ k)) else r)
theorem squares : (List.range 8).all (fun t => sqGo (((pr 312).getD t 0 : Nat) : Int) 36 0 % (4294967296 : Int) == V (IVl.getD t 0)) = true := by decide +kernel
theorem square_at (t : Nat) (h : t < 8) : sqGo (((pr 312).getD t 0 : Nat) : Int) 36 0 % (4294967296 : Int) = V (IVl.getD t 0) := by
  have := List.all_eq_true.1 squares t (List.mem_range.2 h)
  simpa using this
set_option maxRecDepth 100000 in
set_option maxHeartbeats 1000000 in
theorem square_any (p : Int) (w : World) (_hp : 0 ≤ p) :
    Calls Tryd.prog 75 #[.int .u64 p] w fun e w' => e = .returned (.int .u32 (sqGo p 36 0 % 4294967296)) ∧ w = w' := by
  go_enter Tryd.func75, Tryd.ntmps75
  go_wp2_with fail
  go_loop [3, 4] (fun v3 v4 => ∃ (m : Nat) (r : Int), m ≤ 36 ∧ v4 = .int .i64 ((m : Int) - 1) ∧ v3 = .int .u64 r ∧ 0 ≤ r ∧ sqGo p m r = sqGo p 36 0) (fun _ v4 => (intOf v4 + 1).toNat)
  case atStart => exact ⟨36, 0, by omega, rfl, rfl, by omega, rfl⟩
  case round =>
    obtain ⟨m, r, hm, rfl, rfl, hr, hgo⟩ := hrel
    have HGO := Lib.hid hgo; clear hgo
    cases m with
    | zero =>
      have h36 : sqGo p 36 0 = r := by rw [← HGO.out]; rfl
      have H36 := Lib.hid h36; clear h36
      go_wp2
      go_ret
      refine ⟨?_, rfl⟩
      rw [H36.out]; rfl
    | succ k =>
      rw [show (((k + 1 : Nat) : Int) - 1) = (k : Int) from by omega]
      obtain ⟨x, hx⟩ : ∃ x, x = w64 (r + w64 (2 ^ k)) := ⟨_, rfl⟩
      have hx0 : 0 ≤ x := by rw [hx]; exact w64_nonneg _
      have hxr : IntKind.u64.wrap (r + IntKind.u64.wrap (2 ^ k)) = x := hx.symm
      obtain ⟨hi, hhi⟩ : ∃ q, q = tHi x x := ⟨_, rfl⟩
      obtain ⟨lo, hlo⟩ : ∃ q, q = tLo x x := ⟨_, rfl⟩
      have T1 : Hid (∀ w, Calls Tryd.prog 82 #[.int .u64 x, .int .u64 x] w fun e w' => e = .returned (.tuple #[.int .u64 hi, .int .u64 lo]) ∧ w = w') := fun w => by rw [hhi, hlo]; exact times_any x x w hx0 hx0
      have hok : sqOk p x = (decide (hi < p) || (hi == p && lo == 0)) := by rw [hhi, hlo]; rfl
      have hstep : sqGo p k (if sqOk p x then x else r) = sqGo p 36 0 := by rw [← HGO.out, hx]; rfl
      have HOK := Lib.hid hok; have HST := Lib.hid hstep
      clear hx hhi hlo hok hstep
      cases hA : decide (hi < p)
      case true =>
        have hv : sqOk p x = true := by rw [HOK.out, hA]; rfl
        have HVV := Lib.hid hv; clear hv
        go_wp2_with fail
        refine (T1.out _).mono ?_
        rintro e w1 ⟨rfl, rfl⟩
        go_wp2_with fail
        go_round
        case rel => exact ⟨k, x, by omega, by go_num, rfl, by assumption, by have h := HST.out; rw [HVV.out] at h; exact h⟩
        case measure => simp [intOf] <;> omega
      case false =>
        cases hB : (hi == p)
        case false =>
          have hv : sqOk p x = false := by rw [HOK.out, hA, hB]; rfl
          have HVV := Lib.hid hv; clear hv
          go_wp2_with fail
          refine (T1.out _).mono ?_
          rintro e w1 ⟨rfl, rfl⟩
          go_wp2_with fail
          go_round
          case rel => exact ⟨k, r, by omega, by go_num, rfl, by assumption, by have h := HST.out; rw [HVV.out] at h; exact h⟩
          case measure => simp [intOf] <;> omega
        case true =>
          cases hC : (lo == 0)
          case false =>
            have hv : sqOk p x = false := by rw [HOK.out, hA, hB, hC]; rfl
            have HVV := Lib.hid hv; clear hv
            go_wp2_with fail
            refine (T1.out _).mono ?_
            rintro e w1 ⟨rfl, rfl⟩
            go_wp2_with fail
            go_round
            case rel => exact ⟨k, r, by omega, by go_num, rfl, by assumption, by have h := HST.out; rw [HVV.out] at h; exact h⟩
            case measure => simp [intOf] <;> omega
          case true =>
            have hv : sqOk p x = true := by rw [HOK.out, hA, hB, hC]; rfl
            have HVV := Lib.hid hv; clear hv
            go_wp2_with fail
            refine (T1.out _).mono ?_
            rintro e w1 ⟨rfl, rfl⟩
            go_wp2_with fail
            go_round
            case rel => exact ⟨k, x, by omega, by go_num, rfl, by assumption, by have h := HST.out; rw [HVV.out] at h; exact h⟩
            case measure => simp [intOf] <;> omega
/-- The call's own slices of words. -/
theorem elemW : elemB Tryd.prog 96 65 (.int .u32 0) 4 := ⟨Tryd.underlying96, by kernel_rfl⟩
theorem u32s_next (l : List (BitVec 32)) (t : Nat) (h : t < l.length) : u32s (l.take (t + 1)) = u32s (l.take t) ++ [.int .u32 (V (l.getD t 0))] := by
  have e : l.getD t 0 = l[t] := by simp [h]
  rw [List.take_succ_eq_append_getElem h, ← e]
  simp [u32s]
def ARel1 (w1 : World) (v i : Value) (wr : World) : Prop :=
  ∃ t : Nat, t ≤ 64 ∧ i = .int .i64 t ∧ OwnV wr w1.heap.size 65 v (u32s (Kl.take t)) ∧ Below w1.heap.size w1 wr
def ARel2 (w1 : World) (vk v i : Value) (wr : World) : Prop :=
  ∃ t : Nat, t ≤ 8 ∧ i = .int .i64 t ∧ OwnV wr w1.heap.size 65 v (u32s (IVl.take t)) ∧ OwnV wr w1.heap.size 65 vk (u32s Kl) ∧ (∀ g, vk.ownBlock = some g → v.ownBlock ≠ some g) ∧ Below w1.heap.size w1 wr
/-- What the document's all answers: the constants, and the first state, in slices of its own. -/
def AEnd (w : World) (e : Ending) (w' : World) : Prop :=
  ∃ vk vf, e = .returned (.tuple #[vk, vf]) ∧ OwnV w' w.heap.size 65 vk (u32s Kl) ∧ OwnV w' w.heap.size 65 vf (u32s IVl) ∧ Below w.heap.size w w'
theorem ownV_more {w : World} {B B' : Nat} {e : TypeId} {v : Value} {xs : List Value} (h : OwnV w B e v xs) (hB : B' ≤ B) : OwnV w B' e v xs := by
  refine ⟨h.1, ?_⟩
  rcases h.2 with hn | ⟨g, cap, cur, rfl, hg, hr⟩
  · exact .inl hn
  · exact .inr ⟨g, cap, cur, rfl, Nat.le_trans hB hg, hr⟩
set_option maxRecDepth 100000 in
set_option maxHeartbeats 1000000 in
theorem all_any (w : World) : Calls Tryd.prog 63 #[] w (AEnd w) := by
  have HP := Lib.hid (primes_any 64 (by decide) w)
  go_enter Tryd.func63, Tryd.ntmps63
  go_wp2_with fail
  refine HP.out.mono ?_
  rintro e w1 ⟨v, q, rfl, hq, hlen, hown, hb⟩
  obtain ⟨a, cap, rfl, hc⟩ := own_open hown
  obtain ⟨gp, rfl, _⟩ := hc 0 (by omega)
  have hpc : ∀ t, t < 64 → w1.cell? ⟨gp, t, none⟩ = some (.int .u64 (((pr 312).getD t 0 : Nat) : Int)) := fun t ht => by
    obtain ⟨g, e, h⟩ := hc t (by omega)
    rw [pr_at q t hq (by omega)] at h
    injection e with e
    injection e with e1
    rw [e1]; exact h
  obtain ⟨L, hL⟩ : ∃ L, L = (pr q).length := ⟨_, rfl⟩
  rw [← hL] at hlen ⊢
  have hgp : gp < w1.heap.size := block_lt_of_cell (hpc 0 (by decide))
  have PC := Lib.hid hpc; have HB := Lib.hid hb
  clear hpc hc hown hL hq hb HP
  go_wp2_with fail
  go_loopw [3, 5] (fun v i wr => ARel1 w1 v i wr) (fun _ i _ => 64 - (intOf i).toNat)
  case atStart => exact ⟨0, by omega, rfl, OwnV.nil _ _ _, Below.refl _ _⟩
  case round =>
    obtain ⟨t, ht, rfl, how, hbr⟩ := hrel
    have hol : (u32s (Kl.take t)).length = t := by rw [u32s_length, List.length_take]; exact Nat.min_eq_left ht
    by_cases hlt : t < 64
    · have cp : wr.cell? ⟨gp, t, none⟩ = some (.int .u64 (((pr 312).getD t 0 : Nat) : Int)) := by rw [hbr.cell (p := ⟨gp, t, none⟩) hgp]; exact PC.out t hlt
      obtain ⟨p, hpp⟩ : ∃ p : Int, p = (((pr 312).getD t 0 : Nat) : Int) := ⟨_, rfl⟩
      rw [← hpp] at cp
      have hcube := fun wx => cube_any p wx (by rw [hpp]; exact Int.natCast_nonneg _)
      rw [show cubeGo p 35 0 % (4294967296 : Int) = V (Kl.getD t 0) by rw [hpp]; exact cube_at t hlt] at hcube
      have hnx := u32s_next Kl t hlt
      obtain ⟨x, hx⟩ : ∃ x, x = Kl.getD t 0 := ⟨_, rfl⟩
      obtain ⟨X, hX⟩ : ∃ X, X = u32s (Kl.take t) := ⟨_, rfl⟩
      rw [← hx] at hcube hnx
      rw [← hX] at how hnx hol
      have hb4 : (X.length + 1) * 4 ≤ 140737488355328 := by omega
      have hb5 : X.length < 140737488355328 := by omega
      have hlL : (t : Int) < (L : Int) := by omega
      have CUBE := Lib.hid hcube; have NX := Lib.hid hnx; have OW := Lib.hid how; have BR := Lib.hid hbr; have H4 := Lib.hid hb4; have H5 := Lib.hid hb5
      clear hcube hnx how hbr hb4 hb5 hpp hx hX hol
      go_wp2_with (first
        | (go_at_call 74; refine (CUBE.out _).mono ?_; rintro e w' ⟨rfl, rfl⟩)
        | (at_builtin; refine wpList_append_lit (by rfl) _ _ 96 (by rfl) (.int .u32 (V x)) (.int .u32 0) 4 elemW (by rfl) (by rfl) OW.out (by rfl) (by rfl) H4.out H5.out BR.out.size ?_; intro v' w' ho' _ hb' _; have OW' := Lib.hid ho'; have BR' := Lib.hid (BR.out.trans hb'); clear ho' hb'))
      go_roundw
      case rel => exact ⟨t + 1, by omega, by go_num, by rw [NX.out]; exact OW'.out, BR'.out⟩
      case measure => simp [intOf]; omega
    · have ht64 : t = 64 := by omega
      have hall : Kl.take t = Kl := List.take_of_length_le (by rw [ht64]; decide)
      rw [hall] at how
      have hge : ¬ (t : Int) < 64 := by omega
      have OWK := Lib.hid how; have BR := Lib.hid hbr
      clear how hbr hall ht64 hlt hol ht
      go_wp2_with fail
      obtain ⟨wo, rfl⟩ : ∃ wo : World, wo = wr := ⟨_, rfl⟩
      go_loopw [4, 6] (fun v i wr => ARel2 w1 u3 v i wr) (fun _ i _ => 8 - (intOf i).toNat)
      case atStart => exact ⟨0, by omega, rfl, OwnV.nil _ _ _, OWK.out, fun g _ => by simp [Value.ownBlock], BR.out⟩
      case round =>
        obtain ⟨t2, ht, rfl, how, hok, hne, hbr⟩ := hrel
        have hol : (u32s (IVl.take t2)).length = t2 := by rw [u32s_length, List.length_take]; exact Nat.min_eq_left ht
        by_cases hlt : t2 < 8
        · have cp : wr.cell? ⟨gp, t2, none⟩ = some (.int .u64 (((pr 312).getD t2 0 : Nat) : Int)) := by rw [hbr.cell (p := ⟨gp, t2, none⟩) hgp]; exact PC.out t2 (by omega)
          obtain ⟨p, hpp⟩ : ∃ p : Int, p = (((pr 312).getD t2 0 : Nat) : Int) := ⟨_, rfl⟩
          rw [← hpp] at cp
          have hsq := fun wx => square_any p wx (by rw [hpp]; exact Int.natCast_nonneg _)
          rw [show sqGo p 36 0 % (4294967296 : Int) = V (IVl.getD t2 0) by rw [hpp]; exact square_at t2 hlt] at hsq
          have hnx := u32s_next IVl t2 hlt
          obtain ⟨x, hx⟩ : ∃ x, x = IVl.getD t2 0 := ⟨_, rfl⟩
          obtain ⟨X, hX⟩ : ∃ X, X = u32s (IVl.take t2) := ⟨_, rfl⟩
          rw [← hx] at hsq hnx
          rw [← hX] at how hnx hol
          have hb4 : (X.length + 1) * 4 ≤ 140737488355328 := by omega
          have hb5 : X.length < 140737488355328 := by omega
          have hlL : (t2 : Int) < (L : Int) := by omega
          have SQ := Lib.hid hsq; have NX := Lib.hid hnx; have OW := Lib.hid how; have OK := Lib.hid hok; have NE := Lib.hid hne; have BRR := Lib.hid hbr; have H4 := Lib.hid hb4; have H5 := Lib.hid hb5
          clear hsq hnx how hok hne hbr hb4 hb5 hpp hx hX hol
          go_wp2_with (first
            | (go_at_call 75; refine (SQ.out _).mono ?_; rintro e w' ⟨rfl, rfl⟩)
            | (at_builtin; refine wpList_append_lit (by rfl) _ _ 96 (by rfl) (.int .u32 (V x)) (.int .u32 0) 4 elemW (by rfl) (by rfl) OW.out (by rfl) (by rfl) H4.out H5.out BRR.out.size ?_; intro v' w' ho' hk' hb' hg'; have OW' := Lib.hid ho'; have OK' := Lib.hid (OK.out.keep fun g hg => hk' g (OK.out.lt g hg).2 (NE.out g hg)); have NE' : Hid (∀ g, u3.ownBlock = some g → v'.ownBlock ≠ some g) := (fun g hg => by (rcases hg' with e | ⟨g', e, hlo⟩); (rw [e]; exact NE.out g hg); (rw [e]; intro e'; injection e' with e'; have := (OK.out.lt g hg).2; omega)); have BR' := Lib.hid (BRR.out.trans hb'); clear ho' hk' hb' hg'))
          go_roundw
          case rel => exact ⟨t2 + 1, by omega, by go_num, by rw [NX.out]; exact OW'.out, OK'.out, NE'.out, BR'.out⟩
          case measure => simp [intOf]; omega
        · have ht8 : t2 = 8 := by omega
          have hall : IVl.take t2 = IVl := List.take_of_length_le (by rw [ht8]; decide)
          rw [hall] at how
          have hge : ¬ (t2 : Int) < 8 := by omega
          have OWF := Lib.hid how; have OK := Lib.hid hok; have BRR := Lib.hid hbr
          clear how hok hne hbr hall ht8 hlt hol ht
          go_wp2_with fail
          go_ret2
          exact ⟨_, _, rfl, ownV_more OK.out HB.out.size, ownV_more OWF.out HB.out.size, HB.out.trans (BRR.out.mono HB.out.size)⟩
end Sha
end Go.Proofs.YtjadjidjfkahpaaDoor
namespace Go.Proofs.YtjadjidjfkahpaaDoor
namespace Sha
open Go.RowKit Mem

/-! ### the padding, plainly -/
def lens (m : Nat) (i : Nat) : List (BitVec 8) := (List.range i).map (lenByte m)
theorem lens_next (m i : Nat) : lens m (i + 1) = lens m i ++ [lenByte m i] := by simp [lens, List.range_succ]
theorem padRow_get (q m : Nat) (hq : q ≤ 64) : ∀ i j, i ≤ 8 → (padRow q m i).getD j 0 = if q ≤ j ∧ j < q + i then lenByte m (j - q) else P0.getD j 0
  | 0, j, _ => by simp [padRow]; omega
  | i + 1, j, hi => by
    have ih := padRow_get q m hq i j (by omega)
    have hl := padRow_length q m i
    rw [padRow]
    by_cases hj : j = q + i
    · subst hj
      rw [if_pos (by omega), List.getD_eq_getElem?_getD, List.getElem?_set_self (by rw [hl]; omega)]
      simp
    · rw [List.getD_eq_getElem?_getD, List.getElem?_set_ne (Ne.symm hj), ← List.getD_eq_getElem?_getD, ih]
      by_cases h : q ≤ j ∧ j < q + i
      · rw [if_pos h, if_pos (by omega)]
      · rw [if_neg h, if_neg (by omega)]
theorem P0_get (j : Nat) (h : j < 72) : P0.getD j 0 = if j = 0 then 128 else 0 := by
  cases j with
  | zero => rfl
  | succ j =>
    rw [if_neg (by omega)]
    unfold P0
    rw [List.getD_cons_succ, List.getD_eq_getElem?_getD, List.getElem?_replicate, if_pos (by omega)]; rfl
theorem padBytes_eq (n : Nat) : padBytes n = (128 :: List.replicate (padQ (n % 64) - 1) 0) ++ lens (n * 8) 8 := by
  have hq := padQ_bd (n % 64) (Nat.mod_lt _ (by decide))
  unfold padBytes
  generalize padQ (n % 64) = q at *
  apply List.ext_getElem (by simp [padRow_length, lens]; omega)
  intro j h1 h2
  have hj : j < q + 8 := by simpa [padRow_length] using (by simp at h1; omega)
  have e1 : (List.take (q + 8) (padRow q (n * 8) 8))[j] = (padRow q (n * 8) 8).getD j 0 := by
    simp [List.getD_eq_getElem?_getD, List.getElem_take, padRow_length, show j < 72 by omega]
  rw [e1, padRow_get q (n * 8) hq.2 8 j (Nat.le_refl _), P0_get j (by omega)]
  by_cases hqj : q ≤ j
  · rw [if_pos ⟨hqj, hj⟩, List.getElem_append_right (by simp; omega)]
    simp [lens, show q - 1 + 1 = q by omega]
  · rw [if_neg (by omega), List.getElem_append_left (by simp; omega)]
    cases j with
    | zero => rfl
    | succ j => simp
/-- The text with 128 and z bytes 0. -/
def padZ (b : List (BitVec 8)) (z : Nat) : List (BitVec 8) := b ++ 128 :: List.replicate z 0
theorem padZ_next (b : List (BitVec 8)) (z : Nat) : padZ b (z + 1) = padZ b z ++ [0] := by
  unfold padZ
  rw [List.replicate_succ', List.append_assoc]; rfl
theorem padZ_length (b : List (BitVec 8)) (z : Nat) : (padZ b z).length = b.length + 1 + z := by simp [padZ]; omega
def ZRel (w : World) (b : List (BitVec 8)) (z0 : Nat) (v : Value) (wr : World) : Prop := ∃ z : Nat, z ≤ z0 ∧ OwnB wr w.heap.size v (padZ b z) ∧ Below w.heap.size w wr
def LRel (w : World) (T : List (BitVec 8)) (m : Nat) (v i : Value) (wr : World) : Prop :=
  ∃ k : Nat, k ≤ 8 ∧ i = .int .i64 (56 - 8 * (k : Int)) ∧ OwnB wr w.heap.size v (T ++ lens m k) ∧ Below w.heap.size w wr
set_option maxRecDepth 100000 in
set_option maxHeartbeats 1000000 in
theorem pad_ref (b : List (BitVec 8)) (v : Value) (w : World) (hb : Sl w v b) (lb : b.length ≤ 1099511627776) : Calls Tryd.prog 64 #[v] w (PadEnd w (b ++ padBytes b.length)) := by
  have HB := Lib.hid hb
  obtain ⟨a0, c0, rfl, _, _⟩ := hb
  obtain ⟨n, hn⟩ : ∃ n, n = b.length := ⟨_, rfl⟩
  have hq := padQ_bd (n % 64) (Nat.mod_lt _ (by decide))
  obtain ⟨q, hqq⟩ : ∃ q, q = padQ (n % 64) := ⟨_, rfl⟩
  rw [← hqq] at hq
  have hmod : ∀ z, z + 1 ≤ q → ((n + 1 + z) % 64 = 56 ↔ z + 1 = q) := fun z hz => by
    rw [hqq] at hz ⊢
    unfold padQ at hz ⊢
    split at hz <;> split <;> omega
  have hfin : b ++ padBytes n = padZ b (q - 1) ++ lens (n * 8) 8 := by
    rw [padBytes_eq, ← hqq, padZ, List.append_assoc]
  rw [← hn] at lb HB ⊢
  rw [hfin]
  have HN := Lib.hid hn; have MOD := Lib.hid hmod; have HQ := Lib.hid hq
  clear hn hmod hqq hfin hq
  go_enter Tryd.func64, Tryd.ntmps64
  go_wp2_with (first
    | (at_builtin; refine wpList_append_bytes (by rfl) (.const (.slice none 0 0)) _ (by rfl) w.heap.size (.slice none 0 0) (.slice a0 n c0) [] b (by rfl) (OwnB.nil _ _) (by rfl) HB.out (by have := HN.out; simp; omega) (Nat.le_refl _) ?_; intro v5 w5 ho5 hk5 hb5; have HO5 := Lib.hid (ownB_V ho5); have B5 := Lib.hid hb5; clear ho5 hk5 hb5)
    | (at_builtin; refine wpList_append_lit (by rfl) _ _ 22 (by rfl) (.int .u8 128) (.int .u8 0) 1 elemB8 (by rfl) (by rfl) HO5.out (by rfl) (by rfl) (by have := HN.out; simp [u8s_length]; omega) (by have := HN.out; simp [u8s_length]; omega) B5.out.size ?_; intro v6 w6 ho6 hk6 hb6 _; have HO6 := Lib.hid ho6; have B6 := Lib.hid (B5.out.trans hb6); clear ho6 hk6 hb6))
  have h0 : ZRel w b (q - 1) v6 w6 := ⟨0, Nat.zero_le _, ownV_B ((show u8s (padZ b 0) = u8s ([] ++ b) ++ [.int .u8 128] by simp [padZ, u8s]) ▸ HO6.out), B6.out⟩
  have H0 := Lib.hid h0
  clear h0 HO5 HO6 B5 B6
  go_loopw [3] (fun v wr => ZRel w b (q - 1) v wr) (fun v _ => 200 + n - (match v with | .slice _ l _ => l | _ => 0))
  case atStart => exact H0.out
  case round =>
    obtain ⟨z, hz, how, hbr⟩ := hrel
    have hov := ownB_V how
    obtain ⟨a1, c1, hv1, -, -⟩ := how.open
    have hl := padZ_length b z
    rw [← HN.out] at hl
    rw [hl] at hv1
    subst hv1
    have hmz := MOD.out z (by have := HQ.out; omega)
    by_cases hlt : z < q - 1
    · have hm : ¬ (((n + 1 + z : Nat) : Int) % 64 = 56) := by have := hmz; omega
      have hl1 : (u8s (padZ b z)).length = n + 1 + z := by rw [u8s_length, hl]
      have H1 := Lib.hid (show ((u8s (padZ b z)).length + 1) * 1 ≤ 140737488355328 by have := HQ.out; omega)
      have H2 := Lib.hid (show (u8s (padZ b z)).length < 140737488355328 by have := HQ.out; omega)
      have OV := Lib.hid hov; have BR := Lib.hid hbr
      clear hov hbr how hmz hl hl1
      go_wp2_with (first
        | (at_builtin; refine wpList_append_lit (by rfl) _ _ 22 (by rfl) (.int .u8 0) (.int .u8 0) 1 elemB8 (by rfl) (by rfl) OV.out (by rfl) (by rfl) H1.out H2.out BR.out.size ?_; intro v' w' ho' _ hb' _; have OV' := Lib.hid ho'; have BR' := Lib.hid (BR.out.trans hb'); clear ho' hb'))
      go_roundw
      case rel =>
        have e : u8s (padZ b (z + 1)) = u8s (padZ b z) ++ [.int .u8 0] := by rw [padZ_next]; simp [u8s]
        exact ⟨z + 1, by omega, ownV_B (e ▸ OV'.out), BR'.out⟩
      case measure =>
        have e : u8s (padZ b (z + 1)) = u8s (padZ b z) ++ [.int .u8 0] := by rw [padZ_next]; simp [u8s]
        obtain ⟨a2, c2, hv2, -, -⟩ := (ownV_B (e ▸ OV'.out)).open
        have hl2 := padZ_length b (z + 1)
        rw [← HN.out] at hl2
        rw [hl2] at hv2
        subst hv2
        have := HQ.out
        simp only
        omega
    · have hm : ((n + 1 + z : Nat) : Int) % 64 = 56 := by have := hmz; have := HQ.out; omega
      have hzq : z = q - 1 := by omega
      obtain ⟨T, hT⟩ : ∃ T, T = padZ b z := ⟨_, rfl⟩
      have hTl : T.length ≤ n + 64 := by rw [hT, hl]; have := HQ.out; omega
      rw [← hT] at how
      have HT := Lib.hid (hzq ▸ hT)
      have OW := Lib.hid how; have BR := Lib.hid hbr
      clear hov hbr how hmz hl hzq hT
      go_wp2_with fail
      obtain ⟨wo, rfl⟩ : ∃ wo : World, wo = wr := ⟨_, rfl⟩
      clear hm
      generalize Value.bool (((n : Int) + 1 + (z : Int)) % 64 != 56) = u13'
      go_loopw [3, 5] (fun v i wr => LRel w T (n * 8) v i wr) (fun _ i _ => (intOf i + 8).toNat)
      case atStart => exact ⟨0, by omega, rfl, by simpa [lens] using OW.out, BR.out⟩
      case round =>
        obtain ⟨k, hk, rfl, how, hbr⟩ := hrel
        have hov := ownB_V how
        obtain ⟨a2, c2, hv2, -, -⟩ := how.open
        have hl2 : (T ++ lens (n * 8) k).length = T.length + k := by simp [lens]
        rw [hl2] at hv2
        subst hv2
        by_cases hlt : k < 8
        · have hge : (56 - 8 * (k : Int)) ≥ 0 := by omega
          have H1 := Lib.hid (show ((u8s (T ++ lens (n * 8) k)).length + 1) * 1 ≤ 140737488355328 by rw [u8s_length, hl2]; omega)
          have H2 := Lib.hid (show (u8s (T ++ lens (n * 8) k)).length < 140737488355328 by rw [u8s_length, hl2]; omega)
          have OV := Lib.hid hov; have BRR := Lib.hid hbr
          clear hov hbr how hl2
          go_wp2_with (first
            | (at_builtin; refine wpList_append_lit (by rfl) _ _ 22 (by rfl) (.int .u8 ((n : Int) * 8 / 2 ^ (56 - 8 * k) % 256)) (.int .u8 0) 1 elemB8 (by rfl) (by rfl) OV.out (by rfl) (by rfl) H1.out H2.out BRR.out.size ?_; intro v' w' ho' _ hb' _; have OV' := Lib.hid ho'; have BR' := Lib.hid (BRR.out.trans hb'); clear ho' hb'))
          go_roundw
          case rel =>
            have e : u8s (T ++ lens (n * 8) (k + 1)) = u8s (T ++ lens (n * 8) k) ++ [.int .u8 ((n : Int) * 8 / 2 ^ (56 - 8 * k) % 256)] := by rw [lens_next, ← List.append_assoc, u8s_snoc, lenByte_val]
            exact ⟨k + 1, by omega, by go_num, ownV_B (e ▸ OV'.out), BR'.out⟩
          case measure => simp [intOf]; omega
        · have hge : ¬ (56 - 8 * (k : Int)) ≥ 0 := by omega
          have hk8 : k = 8 := by omega
          have hLk : lens (n * 8) 8 = lens (n * 8) k := by rw [hk8]
          have OWF := Lib.hid how; have BRR := Lib.hid hbr
          clear hov hbr how hl2 hk8
          go_wp2_with fail
          go_ret
          exact ⟨_, rfl, by rw [← HT.out]; first | exact OWF.out | (rw [hLk]; exact OWF.out), BRR.out⟩
end Sha
end Go.Proofs.YtjadjidjfkahpaaDoor
namespace Go.Proofs.YtjadjidjfkahpaaDoor
namespace Sha
open Go.RowKit Mem
/-- A slice of words from its block's head on. -/
def Wl (w : World) (v : Value) (l : List (BitVec 32)) : Prop := ∃ g c, v = .slice (some ⟨g, 0, none⟩) l.length c ∧ g < w.heap.size ∧ ∀ i, i < l.length → w.cell? ⟨g, i, none⟩ = some (.int .u32 (V (l.getD i 0)))
def SRel (w : World) (Bk : List (BitVec 8)) (v i : Value) (wr : World) : Prop := ∃ t : Nat, t ≤ 64 ∧ i = .int .i64 t ∧ OwnV wr w.heap.size 65 v (u32s (sofar Bk t)) ∧ Below w.heap.size w wr
def StepEnd (w : World) (H : List (BitVec 32)) (Bk : List (BitVec 8)) (e : Ending) (w' : World) : Prop := ∃ v, e = .returned v ∧ OwnV w' w.heap.size 65 v (u32s (comp H Bk)) ∧ Below w.heap.size w w'
def XRel (w : World) (H : List (BitVec 32)) (Bk : List (BitVec 8)) (vw vx i : Value) (wr : World) : Prop :=
  ∃ t : Nat, t ≤ 64 ∧ i = .int .i64 t ∧ Wl wr vx (rnds (sched Bk) (regOf H) t).list ∧ OwnV wr w.heap.size 65 vw (u32s (sched Bk)) ∧ Below w.heap.size w wr
def ORel (w3 : World) (L : List (BitVec 32)) (v i : Value) (wr : World) : Prop :=
  ∃ t : Nat, t ≤ 8 ∧ i = .int .i64 t ∧ OwnV wr w3.heap.size 65 v (u32s (L.take t)) ∧ Below w3.heap.size w3 wr
theorem regOf_list (H : List (BitVec 32)) (h : H.length = 8) : (regOf H).list = H := by
  match H, h with
  | [_, _, _, _, _, _, _, _], _ => rfl
theorem list_len (r : Reg) : r.list.length = 8 := rfl
theorem OwnV.wl {w : World} {B : Nat} {e : TypeId} {v : Value} {l : List (BitVec 32)} (h : OwnV w B e v (u32s l)) (hl : l.length = 8) : Wl w v l := by
  obtain ⟨a, c, rfl, _, hr⟩ := h.open
  obtain ⟨g, rfl, _, hg, hc⟩ := hr (by intro e; rw [← u32s_length, e] at hl; simp at hl)
  exact ⟨g, c, by rw [u32s_length], hg, fun i hi => hc i _ (u32s_get l i hi)⟩
theorem wl_new (W : World) (l : List (BitVec 32)) (e : TypeId) : Wl (W.alloc (.cells (u32s l).toArray e)) (.slice (some ⟨W.heap.size, 0, none⟩) l.length l.length) l :=
  ⟨_, _, rfl, (at_new W _ e).lt, fun i hi => by rw [(at_new W _ e).cell, List.getElem?_toArray]; exact u32s_get l i hi⟩
theorem comp_len (H : List (BitVec 32)) (Bk : List (BitVec 8)) (h : H.length = 8) : (comp H Bk).length = 8 := by
  unfold comp
  rw [adds_length _ _ (by rw [list_len, h]), list_len]
set_option maxRecDepth 100000 in
set_option maxHeartbeats 4000000 in
theorem step_ref (H : List (BitVec 32)) (Bk : List (BitVec 8)) (k s bv : Value) (w : World) (hk : Wl w k Kl) (hs : Wl w s H) (hb : Sl w bv Bk) (lH : H.length = 8) (lB : Bk.length = 64) :
    Calls Tryd.prog 65 #[k, s, bv] w (StepEnd w H Bk) := by
  obtain ⟨gk, ck, rfl, hgk, hkc⟩ := hk
  obtain ⟨gs, cs, rfl, hgs, hsc⟩ := hs
  obtain ⟨ab, cb, rfl, hbc, hbr⟩ := hb
  obtain ⟨gb, ob, rfl, hgb, hbcell⟩ := hbr (by intro h; rw [h] at lB; simp at lB)
  rw [lH] at hsc ⊢
  rw [lB] at hbcell ⊢
  have GK := Lib.hid hgk; have KC := Lib.hid hkc; have GS := Lib.hid hgs; have SC := Lib.hid hsc; have GB := Lib.hid hgb; have BC := Lib.hid hbcell
  clear hgk hkc hgs hsc hgb hbcell hbr hbc
  go_enter Tryd.func65, Tryd.ntmps65
  go_wp2_with fail
  go_loopw [7, 8] (fun v i wr => SRel w Bk v i wr) (fun _ i _ => 64 - (intOf i).toNat)
  case atStart => exact ⟨0, by omega, rfl, OwnV.nil _ _ _, Below.refl _ _⟩
  case round =>
    obtain ⟨t, ht, rfl, how, hbr⟩ := hrel
    by_cases hlt : t < 64
    · by_cases h16 : t < 16
      · have hcb : ∀ w', Below w.heap.size w w' → ∀ (j : Nat) (x : BitVec 8), 4 * t + j < 64 → x = Bk.getD (4 * t + j) 0 → w'.cell? ⟨gb, ob + (4 * t + j), none⟩ = some (.int .u8 (x.toNat : Int)) := fun w' h j x hj e => by
          rw [h.cell (p := ⟨gb, ob + (4 * t + j), none⟩) GB.out, e]; exact BC.out _ hj
        obtain ⟨b0, he0⟩ : ∃ x, x = Bk.getD (4 * t + 0) 0 := ⟨_, rfl⟩
        have l0 := b0.isLt
        obtain ⟨b1, he1⟩ : ∃ x, x = Bk.getD (4 * t + 1) 0 := ⟨_, rfl⟩
        have l1 := b1.isLt
        obtain ⟨b2, he2⟩ : ∃ x, x = Bk.getD (4 * t + 2) 0 := ⟨_, rfl⟩
        have l2 := b2.isLt
        obtain ⟨b3, he3⟩ : ∃ x, x = Bk.getD (4 * t + 3) 0 := ⟨_, rfl⟩
        have l3 := b3.isLt
        have CB := Lib.hid hcb; have E0 := Lib.hid he0; have E1 := Lib.hid he1; have E2 := Lib.hid he2; have E3 := Lib.hid he3; have OW := Lib.hid (how.keep (w' := wr.drew) fun _ _ => rfl); have BR := Lib.hid hbr; have WD := Lib.hid (show (b0.toNat : Int) * 16777216 + (b1.toNat : Int) * 65536 + (b2.toNat : Int) * 256 + (b3.toNat : Int) = V (word Bk t) from (word_sum b0 b1 b2 b3).trans (by rw [he0, he1, he2, he3]; rfl))
        clear hcb he0 he1 he2 he3 how hbr
        go_wp2_with fail
        refine wp_region_plan_in (fun w' => Below w.heap.size w w') (.take 0 (.take 1 (.take 2 (.take 3 (.take 4 (.take 5 (.take 6 (.take 7 (.take 8 (.take 9 (.take 10 (.take 11 (.take 12 (.take 13 (.take 14 (.take 15 (.take 16 (.take 17 (.take 18 (.take 19 (.take 20 (.take 21 (.take 22 (.take 23 (.take 24 (.take 25 (.take 26 (.take 27 (.take 28 (.take 29 (.take 30 (.take 31 (.take 32 (.take 33 (.sole 34 (.sole 35 (.take 36 .done))))))))))))))))))))))))))))))))))))) (by kernel_rfl) (by kernel_rfl) (by kernel_rfl) BR.out.drew ?_
        have B : Hid (Below w.heap.size w wr.drew) := BR.out.drew
        generalize wr.drew = W at *
        (first | (refine plan_move _ _ (by rfl) (by rfl) (.inl (by rfl)) (by first | (with_reducible exact Mem.ev_const _ _) | (with_reducible exact Mem.ev_zero _ _ _) | (with_reducible (apply Eq.trans (Mem.ev_tmp _ _ _)); simp only [List.getD_cons_succ, List.getD_cons_zero] <;> rfl)) ?_) | (refine plan_move _ _ (by rfl) (by rfl) (.inr (by rfl)) (by first | (with_reducible exact Mem.ev_const _ _) | (with_reducible exact Mem.ev_zero _ _ _) | (with_reducible (apply Eq.trans (Mem.ev_tmp _ _ _)); simp only [List.getD_cons_succ, List.getD_cons_zero] <;> rfl)) ?_) | (refine plan_pick_t _ _ _ _ (by rfl) (by rfl) (by rfl) (by first | (with_reducible exact Mem.ev_const _ _) | (with_reducible exact Mem.ev_zero _ _ _) | (with_reducible (apply Eq.trans (Mem.ev_tmp _ _ _)); simp only [List.getD_cons_succ, List.getD_cons_zero] <;> rfl)) (by first | (with_reducible exact Mem.ev_const _ _) | (with_reducible exact Mem.ev_zero _ _ _) | (with_reducible (apply Eq.trans (Mem.ev_tmp _ _ _)); simp only [List.getD_cons_succ, List.getD_cons_zero] <;> rfl)) ?_) | (refine plan_pick_f _ _ _ _ (by rfl) (by rfl) (by rfl) (by first | (with_reducible exact Mem.ev_const _ _) | (with_reducible exact Mem.ev_zero _ _ _) | (with_reducible (apply Eq.trans (Mem.ev_tmp _ _ _)); simp only [List.getD_cons_succ, List.getD_cons_zero] <;> rfl)) (by first | (with_reducible exact Mem.ev_const _ _) | (with_reducible exact Mem.ev_zero _ _ _) | (with_reducible (apply Eq.trans (Mem.ev_tmp _ _ _)); simp only [List.getD_cons_succ, List.getD_cons_zero] <;> rfl)) ?_))
        (simp only [Act.put, List.setIfInBounds_toArray, List.set_cons_zero, List.set_cons_succ])
        (first | (refine plan_move _ _ (by rfl) (by rfl) (.inl (by rfl)) (by first | (with_reducible exact Mem.ev_const _ _) | (with_reducible exact Mem.ev_zero _ _ _) | (with_reducible (apply Eq.trans (Mem.ev_tmp _ _ _)); simp only [List.getD_cons_succ, List.getD_cons_zero] <;> rfl)) ?_) | (refine plan_move _ _ (by rfl) (by rfl) (.inr (by rfl)) (by first | (with_reducible exact Mem.ev_const _ _) | (with_reducible exact Mem.ev_zero _ _ _) | (with_reducible (apply Eq.trans (Mem.ev_tmp _ _ _)); simp only [List.getD_cons_succ, List.getD_cons_zero] <;> rfl)) ?_) | (refine plan_pick_t _ _ _ _ (by rfl) (by rfl) (by rfl) (by first | (with_reducible exact Mem.ev_const _ _) | (with_reducible exact Mem.ev_zero _ _ _) | (with_reducible (apply Eq.trans (Mem.ev_tmp _ _ _)); simp only [List.getD_cons_succ, List.getD_cons_zero] <;> rfl)) (by first | (with_reducible exact Mem.ev_const _ _) | (with_reducible exact Mem.ev_zero _ _ _) | (with_reducible (apply Eq.trans (Mem.ev_tmp _ _ _)); simp only [List.getD_cons_succ, List.getD_cons_zero] <;> rfl)) ?_) | (refine plan_pick_f _ _ _ _ (by rfl) (by rfl) (by rfl) (by first | (with_reducible exact Mem.ev_const _ _) | (with_reducible exact Mem.ev_zero _ _ _) | (with_reducible (apply Eq.trans (Mem.ev_tmp _ _ _)); simp only [List.getD_cons_succ, List.getD_cons_zero] <;> rfl)) (by first | (with_reducible exact Mem.ev_const _ _) | (with_reducible exact Mem.ev_zero _ _ _) | (with_reducible (apply Eq.trans (Mem.ev_tmp _ _ _)); simp only [List.getD_cons_succ, List.getD_cons_zero] <;> rfl)) ?_))
        (simp only [Act.put, List.setIfInBounds_toArray, List.set_cons_zero, List.set_cons_succ])
        (first | (refine plan_move _ _ (by rfl) (by rfl) (.inl (by rfl)) (by first | (with_reducible exact Mem.ev_const _ _) | (with_reducible exact Mem.ev_zero _ _ _) | (with_reducible (apply Eq.trans (Mem.ev_tmp _ _ _)); simp only [List.getD_cons_succ, List.getD_cons_zero] <;> rfl)) ?_) | (refine plan_move _ _ (by rfl) (by rfl) (.inr (by rfl)) (by first | (with_reducible exact Mem.ev_const _ _) | (with_reducible exact Mem.ev_zero _ _ _) | (with_reducible (apply Eq.trans (Mem.ev_tmp _ _ _)); simp only [List.getD_cons_succ, List.getD_cons_zero] <;> rfl)) ?_) | (refine plan_pick_t _ _ _ _ (by rfl) (by rfl) (by rfl) (by first | (with_reducible exact Mem.ev_const _ _) | (with_reducible exact Mem.ev_zero _ _ _) | (with_reducible (apply Eq.trans (Mem.ev_tmp _ _ _)); simp only [List.getD_cons_succ, List.getD_cons_zero] <;> rfl)) (by first | (with_reducible exact Mem.ev_const _ _) | (with_reducible exact Mem.ev_zero _ _ _) | (with_reducible (apply Eq.trans (Mem.ev_tmp _ _ _)); simp only [List.getD_cons_succ, List.getD_cons_zero] <;> rfl)) ?_) | (refine plan_pick_f _ _ _ _ (by rfl) (by rfl) (by rfl) (by first | (with_reducible exact Mem.ev_const _ _) | (with_reducible exact Mem.ev_zero _ _ _) | (with_reducible (apply Eq.trans (Mem.ev_tmp _ _ _)); simp only [List.getD_cons_succ, List.getD_cons_zero] <;> rfl)) (by first | (with_reducible exact Mem.ev_const _ _) | (with_reducible exact Mem.ev_zero _ _ _) | (with_reducible (apply Eq.trans (Mem.ev_tmp _ _ _)); simp only [List.getD_cons_succ, List.getD_cons_zero] <;> rfl)) ?_))
        (simp only [Act.put, List.setIfInBounds_toArray, List.set_cons_zero, List.set_cons_succ])
        refine plan_bin _ _ _ _ _ _ _ _ (by rfl) (by rfl) (by rfl) (by first | (with_reducible exact Mem.ev_const _ _) | (with_reducible exact Mem.ev_zero _ _ _) | (with_reducible (apply Eq.trans (Mem.ev_tmp _ _ _)); simp only [List.getD_cons_succ, List.getD_cons_zero] <;> rfl)) (by first | (with_reducible exact Mem.ev_const _ _) | (with_reducible exact Mem.ev_zero _ _ _) | (with_reducible (apply Eq.trans (Mem.ev_tmp _ _ _)); simp only [List.getD_cons_succ, List.getD_cons_zero] <;> rfl)) (fun wx => o_imul _ _ _ _ 4 (t : Int) ((4 * t + 0 : Nat) : Int) (by omega) (by omega) (by omega) wx) ?_
        (simp only [Act.put, List.setIfInBounds_toArray, List.set_cons_zero, List.set_cons_succ])
        refine plan_index 22 5 _ _ gb ob 64 cb (4 * t + 0) (by rfl) (by rfl) (by rfl) (by first | (with_reducible exact Mem.ev_const _ _) | (with_reducible exact Mem.ev_zero _ _ _) | (with_reducible (apply Eq.trans (Mem.ev_tmp _ _ _)); simp only [List.getD_cons_succ, List.getD_cons_zero] <;> rfl)) (by first | (with_reducible exact Mem.ev_const _ _) | (with_reducible exact Mem.ev_zero _ _ _) | (with_reducible (apply Eq.trans (Mem.ev_tmp _ _ _)); simp only [List.getD_cons_succ, List.getD_cons_zero] <;> rfl)) (by omega) Tryd.underlying22 (by kernel_rfl) ?_
        (simp only [Act.put, List.setIfInBounds_toArray, List.set_cons_zero, List.set_cons_succ])
        refine plan_cell 5 _ ⟨gb, ob + (4 * t + 0), none⟩ (.int .u8 (b0.toNat : Int)) _ (by rfl) (by rfl) (by rfl) (by first | (with_reducible exact Mem.ev_const _ _) | (with_reducible exact Mem.ev_zero _ _ _) | (with_reducible (apply Eq.trans (Mem.ev_tmp _ _ _)); simp only [List.getD_cons_succ, List.getD_cons_zero] <;> rfl)) (fun w' hw' => CB.out w' hw' 0 b0 (by omega) E0.out) Tryd.underlying5 (by rfl) ?_
        (simp only [Act.put, List.setIfInBounds_toArray, List.set_cons_zero, List.set_cons_succ])
        refine plan_conv _ _ _ (.int .u8 (b0.toNat : Int)) (.int .u32 (b0.toNat : Int)) (by rfl) (by rfl) (by rfl) (by first | (with_reducible exact Mem.ev_const _ _) | (with_reducible exact Mem.ev_zero _ _ _) | (with_reducible (apply Eq.trans (Mem.ev_tmp _ _ _)); simp only [List.getD_cons_succ, List.getD_cons_zero] <;> rfl)) (fun wx => by go_simp; exact u32_id _ (by omega) (by omega)) ?_
        (simp only [Act.put, List.setIfInBounds_toArray, List.set_cons_zero, List.set_cons_succ])
        refine plan_bin _ _ _ _ _ _ _ _ (by rfl) (by rfl) (by rfl) (by first | (with_reducible exact Mem.ev_const _ _) | (with_reducible exact Mem.ev_zero _ _ _) | (with_reducible (apply Eq.trans (Mem.ev_tmp _ _ _)); simp only [List.getD_cons_succ, List.getD_cons_zero] <;> rfl)) (by first | (with_reducible exact Mem.ev_const _ _) | (with_reducible exact Mem.ev_zero _ _ _) | (with_reducible (apply Eq.trans (Mem.ev_tmp _ _ _)); simp only [List.getD_cons_succ, List.getD_cons_zero] <;> rfl)) (fun wx => o_umul _ _ _ _ (b0.toNat : Int) 16777216 ((b0.toNat : Int) * 16777216) rfl (by omega) (by omega) wx) ?_
        (simp only [Act.put, List.setIfInBounds_toArray, List.set_cons_zero, List.set_cons_succ])
        (first | (refine plan_move _ _ (by rfl) (by rfl) (.inl (by rfl)) (by first | (with_reducible exact Mem.ev_const _ _) | (with_reducible exact Mem.ev_zero _ _ _) | (with_reducible (apply Eq.trans (Mem.ev_tmp _ _ _)); simp only [List.getD_cons_succ, List.getD_cons_zero] <;> rfl)) ?_) | (refine plan_move _ _ (by rfl) (by rfl) (.inr (by rfl)) (by first | (with_reducible exact Mem.ev_const _ _) | (with_reducible exact Mem.ev_zero _ _ _) | (with_reducible (apply Eq.trans (Mem.ev_tmp _ _ _)); simp only [List.getD_cons_succ, List.getD_cons_zero] <;> rfl)) ?_) | (refine plan_pick_t _ _ _ _ (by rfl) (by rfl) (by rfl) (by first | (with_reducible exact Mem.ev_const _ _) | (with_reducible exact Mem.ev_zero _ _ _) | (with_reducible (apply Eq.trans (Mem.ev_tmp _ _ _)); simp only [List.getD_cons_succ, List.getD_cons_zero] <;> rfl)) (by first | (with_reducible exact Mem.ev_const _ _) | (with_reducible exact Mem.ev_zero _ _ _) | (with_reducible (apply Eq.trans (Mem.ev_tmp _ _ _)); simp only [List.getD_cons_succ, List.getD_cons_zero] <;> rfl)) ?_) | (refine plan_pick_f _ _ _ _ (by rfl) (by rfl) (by rfl) (by first | (with_reducible exact Mem.ev_const _ _) | (with_reducible exact Mem.ev_zero _ _ _) | (with_reducible (apply Eq.trans (Mem.ev_tmp _ _ _)); simp only [List.getD_cons_succ, List.getD_cons_zero] <;> rfl)) (by first | (with_reducible exact Mem.ev_const _ _) | (with_reducible exact Mem.ev_zero _ _ _) | (with_reducible (apply Eq.trans (Mem.ev_tmp _ _ _)); simp only [List.getD_cons_succ, List.getD_cons_zero] <;> rfl)) ?_))
        (simp only [Act.put, List.setIfInBounds_toArray, List.set_cons_zero, List.set_cons_succ])
        (first | (refine plan_move _ _ (by rfl) (by rfl) (.inl (by rfl)) (by first | (with_reducible exact Mem.ev_const _ _) | (with_reducible exact Mem.ev_zero _ _ _) | (with_reducible (apply Eq.trans (Mem.ev_tmp _ _ _)); simp only [List.getD_cons_succ, List.getD_cons_zero] <;> rfl)) ?_) | (refine plan_move _ _ (by rfl) (by rfl) (.inr (by rfl)) (by first | (with_reducible exact Mem.ev_const _ _) | (with_reducible exact Mem.ev_zero _ _ _) | (with_reducible (apply Eq.trans (Mem.ev_tmp _ _ _)); simp only [List.getD_cons_succ, List.getD_cons_zero] <;> rfl)) ?_) | (refine plan_pick_t _ _ _ _ (by rfl) (by rfl) (by rfl) (by first | (with_reducible exact Mem.ev_const _ _) | (with_reducible exact Mem.ev_zero _ _ _) | (with_reducible (apply Eq.trans (Mem.ev_tmp _ _ _)); simp only [List.getD_cons_succ, List.getD_cons_zero] <;> rfl)) (by first | (with_reducible exact Mem.ev_const _ _) | (with_reducible exact Mem.ev_zero _ _ _) | (with_reducible (apply Eq.trans (Mem.ev_tmp _ _ _)); simp only [List.getD_cons_succ, List.getD_cons_zero] <;> rfl)) ?_) | (refine plan_pick_f _ _ _ _ (by rfl) (by rfl) (by rfl) (by first | (with_reducible exact Mem.ev_const _ _) | (with_reducible exact Mem.ev_zero _ _ _) | (with_reducible (apply Eq.trans (Mem.ev_tmp _ _ _)); simp only [List.getD_cons_succ, List.getD_cons_zero] <;> rfl)) (by first | (with_reducible exact Mem.ev_const _ _) | (with_reducible exact Mem.ev_zero _ _ _) | (with_reducible (apply Eq.trans (Mem.ev_tmp _ _ _)); simp only [List.getD_cons_succ, List.getD_cons_zero] <;> rfl)) ?_))
        (simp only [Act.put, List.setIfInBounds_toArray, List.set_cons_zero, List.set_cons_succ])
        refine plan_bin _ _ _ _ _ _ _ _ (by rfl) (by rfl) (by rfl) (by first | (with_reducible exact Mem.ev_const _ _) | (with_reducible exact Mem.ev_zero _ _ _) | (with_reducible (apply Eq.trans (Mem.ev_tmp _ _ _)); simp only [List.getD_cons_succ, List.getD_cons_zero] <;> rfl)) (by first | (with_reducible exact Mem.ev_const _ _) | (with_reducible exact Mem.ev_zero _ _ _) | (with_reducible (apply Eq.trans (Mem.ev_tmp _ _ _)); simp only [List.getD_cons_succ, List.getD_cons_zero] <;> rfl)) (fun wx => o_imul _ _ _ _ 4 (t : Int) ((4 * t : Nat) : Int) (by omega) (by omega) (by omega) wx) ?_
        (simp only [Act.put, List.setIfInBounds_toArray, List.set_cons_zero, List.set_cons_succ])
        refine plan_bin _ _ _ _ _ _ _ _ (by rfl) (by rfl) (by rfl) (by first | (with_reducible exact Mem.ev_const _ _) | (with_reducible exact Mem.ev_zero _ _ _) | (with_reducible (apply Eq.trans (Mem.ev_tmp _ _ _)); simp only [List.getD_cons_succ, List.getD_cons_zero] <;> rfl)) (by first | (with_reducible exact Mem.ev_const _ _) | (with_reducible exact Mem.ev_zero _ _ _) | (with_reducible (apply Eq.trans (Mem.ev_tmp _ _ _)); simp only [List.getD_cons_succ, List.getD_cons_zero] <;> rfl)) (fun wx => o_iadd _ _ _ _ ((4 * t : Nat) : Int) 1 ((4 * t + 1 : Nat) : Int) (by omega) (by omega) (by omega) wx) ?_
        (simp only [Act.put, List.setIfInBounds_toArray, List.set_cons_zero, List.set_cons_succ])
        refine plan_index 22 5 _ _ gb ob 64 cb (4 * t + 1) (by rfl) (by rfl) (by rfl) (by first | (with_reducible exact Mem.ev_const _ _) | (with_reducible exact Mem.ev_zero _ _ _) | (with_reducible (apply Eq.trans (Mem.ev_tmp _ _ _)); simp only [List.getD_cons_succ, List.getD_cons_zero] <;> rfl)) (by first | (with_reducible exact Mem.ev_const _ _) | (with_reducible exact Mem.ev_zero _ _ _) | (with_reducible (apply Eq.trans (Mem.ev_tmp _ _ _)); simp only [List.getD_cons_succ, List.getD_cons_zero] <;> rfl)) (by omega) Tryd.underlying22 (by kernel_rfl) ?_
        (simp only [Act.put, List.setIfInBounds_toArray, List.set_cons_zero, List.set_cons_succ])
        refine plan_cell 5 _ ⟨gb, ob + (4 * t + 1), none⟩ (.int .u8 (b1.toNat : Int)) _ (by rfl) (by rfl) (by rfl) (by first | (with_reducible exact Mem.ev_const _ _) | (with_reducible exact Mem.ev_zero _ _ _) | (with_reducible (apply Eq.trans (Mem.ev_tmp _ _ _)); simp only [List.getD_cons_succ, List.getD_cons_zero] <;> rfl)) (fun w' hw' => CB.out w' hw' 1 b1 (by omega) E1.out) Tryd.underlying5 (by rfl) ?_
        (simp only [Act.put, List.setIfInBounds_toArray, List.set_cons_zero, List.set_cons_succ])
        refine plan_conv _ _ _ (.int .u8 (b1.toNat : Int)) (.int .u32 (b1.toNat : Int)) (by rfl) (by rfl) (by rfl) (by first | (with_reducible exact Mem.ev_const _ _) | (with_reducible exact Mem.ev_zero _ _ _) | (with_reducible (apply Eq.trans (Mem.ev_tmp _ _ _)); simp only [List.getD_cons_succ, List.getD_cons_zero] <;> rfl)) (fun wx => by go_simp; exact u32_id _ (by omega) (by omega)) ?_
        (simp only [Act.put, List.setIfInBounds_toArray, List.set_cons_zero, List.set_cons_succ])
        refine plan_bin _ _ _ _ _ _ _ _ (by rfl) (by rfl) (by rfl) (by first | (with_reducible exact Mem.ev_const _ _) | (with_reducible exact Mem.ev_zero _ _ _) | (with_reducible (apply Eq.trans (Mem.ev_tmp _ _ _)); simp only [List.getD_cons_succ, List.getD_cons_zero] <;> rfl)) (by first | (with_reducible exact Mem.ev_const _ _) | (with_reducible exact Mem.ev_zero _ _ _) | (with_reducible (apply Eq.trans (Mem.ev_tmp _ _ _)); simp only [List.getD_cons_succ, List.getD_cons_zero] <;> rfl)) (fun wx => o_umul _ _ _ _ (b1.toNat : Int) 65536 ((b1.toNat : Int) * 65536) rfl (by omega) (by omega) wx) ?_
        (simp only [Act.put, List.setIfInBounds_toArray, List.set_cons_zero, List.set_cons_succ])
        refine plan_bin _ _ _ _ _ _ _ _ (by rfl) (by rfl) (by rfl) (by first | (with_reducible exact Mem.ev_const _ _) | (with_reducible exact Mem.ev_zero _ _ _) | (with_reducible (apply Eq.trans (Mem.ev_tmp _ _ _)); simp only [List.getD_cons_succ, List.getD_cons_zero] <;> rfl)) (by first | (with_reducible exact Mem.ev_const _ _) | (with_reducible exact Mem.ev_zero _ _ _) | (with_reducible (apply Eq.trans (Mem.ev_tmp _ _ _)); simp only [List.getD_cons_succ, List.getD_cons_zero] <;> rfl)) (fun wx => o_uadd _ _ _ _ ((b0.toNat : Int) * 16777216) ((b1.toNat : Int) * 65536) _ rfl (by omega) (by omega) wx) ?_
        (simp only [Act.put, List.setIfInBounds_toArray, List.set_cons_zero, List.set_cons_succ])
        (first | (refine plan_move _ _ (by rfl) (by rfl) (.inl (by rfl)) (by first | (with_reducible exact Mem.ev_const _ _) | (with_reducible exact Mem.ev_zero _ _ _) | (with_reducible (apply Eq.trans (Mem.ev_tmp _ _ _)); simp only [List.getD_cons_succ, List.getD_cons_zero] <;> rfl)) ?_) | (refine plan_move _ _ (by rfl) (by rfl) (.inr (by rfl)) (by first | (with_reducible exact Mem.ev_const _ _) | (with_reducible exact Mem.ev_zero _ _ _) | (with_reducible (apply Eq.trans (Mem.ev_tmp _ _ _)); simp only [List.getD_cons_succ, List.getD_cons_zero] <;> rfl)) ?_) | (refine plan_pick_t _ _ _ _ (by rfl) (by rfl) (by rfl) (by first | (with_reducible exact Mem.ev_const _ _) | (with_reducible exact Mem.ev_zero _ _ _) | (with_reducible (apply Eq.trans (Mem.ev_tmp _ _ _)); simp only [List.getD_cons_succ, List.getD_cons_zero] <;> rfl)) (by first | (with_reducible exact Mem.ev_const _ _) | (with_reducible exact Mem.ev_zero _ _ _) | (with_reducible (apply Eq.trans (Mem.ev_tmp _ _ _)); simp only [List.getD_cons_succ, List.getD_cons_zero] <;> rfl)) ?_) | (refine plan_pick_f _ _ _ _ (by rfl) (by rfl) (by rfl) (by first | (with_reducible exact Mem.ev_const _ _) | (with_reducible exact Mem.ev_zero _ _ _) | (with_reducible (apply Eq.trans (Mem.ev_tmp _ _ _)); simp only [List.getD_cons_succ, List.getD_cons_zero] <;> rfl)) (by first | (with_reducible exact Mem.ev_const _ _) | (with_reducible exact Mem.ev_zero _ _ _) | (with_reducible (apply Eq.trans (Mem.ev_tmp _ _ _)); simp only [List.getD_cons_succ, List.getD_cons_zero] <;> rfl)) ?_))
        (simp only [Act.put, List.setIfInBounds_toArray, List.set_cons_zero, List.set_cons_succ])
        (first | (refine plan_move _ _ (by rfl) (by rfl) (.inl (by rfl)) (by first | (with_reducible exact Mem.ev_const _ _) | (with_reducible exact Mem.ev_zero _ _ _) | (with_reducible (apply Eq.trans (Mem.ev_tmp _ _ _)); simp only [List.getD_cons_succ, List.getD_cons_zero] <;> rfl)) ?_) | (refine plan_move _ _ (by rfl) (by rfl) (.inr (by rfl)) (by first | (with_reducible exact Mem.ev_const _ _) | (with_reducible exact Mem.ev_zero _ _ _) | (with_reducible (apply Eq.trans (Mem.ev_tmp _ _ _)); simp only [List.getD_cons_succ, List.getD_cons_zero] <;> rfl)) ?_) | (refine plan_pick_t _ _ _ _ (by rfl) (by rfl) (by rfl) (by first | (with_reducible exact Mem.ev_const _ _) | (with_reducible exact Mem.ev_zero _ _ _) | (with_reducible (apply Eq.trans (Mem.ev_tmp _ _ _)); simp only [List.getD_cons_succ, List.getD_cons_zero] <;> rfl)) (by first | (with_reducible exact Mem.ev_const _ _) | (with_reducible exact Mem.ev_zero _ _ _) | (with_reducible (apply Eq.trans (Mem.ev_tmp _ _ _)); simp only [List.getD_cons_succ, List.getD_cons_zero] <;> rfl)) ?_) | (refine plan_pick_f _ _ _ _ (by rfl) (by rfl) (by rfl) (by first | (with_reducible exact Mem.ev_const _ _) | (with_reducible exact Mem.ev_zero _ _ _) | (with_reducible (apply Eq.trans (Mem.ev_tmp _ _ _)); simp only [List.getD_cons_succ, List.getD_cons_zero] <;> rfl)) (by first | (with_reducible exact Mem.ev_const _ _) | (with_reducible exact Mem.ev_zero _ _ _) | (with_reducible (apply Eq.trans (Mem.ev_tmp _ _ _)); simp only [List.getD_cons_succ, List.getD_cons_zero] <;> rfl)) ?_))
        (simp only [Act.put, List.setIfInBounds_toArray, List.set_cons_zero, List.set_cons_succ])
        refine plan_bin _ _ _ _ _ _ _ _ (by rfl) (by rfl) (by rfl) (by first | (with_reducible exact Mem.ev_const _ _) | (with_reducible exact Mem.ev_zero _ _ _) | (with_reducible (apply Eq.trans (Mem.ev_tmp _ _ _)); simp only [List.getD_cons_succ, List.getD_cons_zero] <;> rfl)) (by first | (with_reducible exact Mem.ev_const _ _) | (with_reducible exact Mem.ev_zero _ _ _) | (with_reducible (apply Eq.trans (Mem.ev_tmp _ _ _)); simp only [List.getD_cons_succ, List.getD_cons_zero] <;> rfl)) (fun wx => o_imul _ _ _ _ 4 (t : Int) ((4 * t : Nat) : Int) (by omega) (by omega) (by omega) wx) ?_
        (simp only [Act.put, List.setIfInBounds_toArray, List.set_cons_zero, List.set_cons_succ])
        refine plan_bin _ _ _ _ _ _ _ _ (by rfl) (by rfl) (by rfl) (by first | (with_reducible exact Mem.ev_const _ _) | (with_reducible exact Mem.ev_zero _ _ _) | (with_reducible (apply Eq.trans (Mem.ev_tmp _ _ _)); simp only [List.getD_cons_succ, List.getD_cons_zero] <;> rfl)) (by first | (with_reducible exact Mem.ev_const _ _) | (with_reducible exact Mem.ev_zero _ _ _) | (with_reducible (apply Eq.trans (Mem.ev_tmp _ _ _)); simp only [List.getD_cons_succ, List.getD_cons_zero] <;> rfl)) (fun wx => o_iadd _ _ _ _ ((4 * t : Nat) : Int) 2 ((4 * t + 2 : Nat) : Int) (by omega) (by omega) (by omega) wx) ?_
        (simp only [Act.put, List.setIfInBounds_toArray, List.set_cons_zero, List.set_cons_succ])
        refine plan_index 22 5 _ _ gb ob 64 cb (4 * t + 2) (by rfl) (by rfl) (by rfl) (by first | (with_reducible exact Mem.ev_const _ _) | (with_reducible exact Mem.ev_zero _ _ _) | (with_reducible (apply Eq.trans (Mem.ev_tmp _ _ _)); simp only [List.getD_cons_succ, List.getD_cons_zero] <;> rfl)) (by first | (with_reducible exact Mem.ev_const _ _) | (with_reducible exact Mem.ev_zero _ _ _) | (with_reducible (apply Eq.trans (Mem.ev_tmp _ _ _)); simp only [List.getD_cons_succ, List.getD_cons_zero] <;> rfl)) (by omega) Tryd.underlying22 (by kernel_rfl) ?_
        (simp only [Act.put, List.setIfInBounds_toArray, List.set_cons_zero, List.set_cons_succ])
        refine plan_cell 5 _ ⟨gb, ob + (4 * t + 2), none⟩ (.int .u8 (b2.toNat : Int)) _ (by rfl) (by rfl) (by rfl) (by first | (with_reducible exact Mem.ev_const _ _) | (with_reducible exact Mem.ev_zero _ _ _) | (with_reducible (apply Eq.trans (Mem.ev_tmp _ _ _)); simp only [List.getD_cons_succ, List.getD_cons_zero] <;> rfl)) (fun w' hw' => CB.out w' hw' 2 b2 (by omega) E2.out) Tryd.underlying5 (by rfl) ?_
        (simp only [Act.put, List.setIfInBounds_toArray, List.set_cons_zero, List.set_cons_succ])
        refine plan_conv _ _ _ (.int .u8 (b2.toNat : Int)) (.int .u32 (b2.toNat : Int)) (by rfl) (by rfl) (by rfl) (by first | (with_reducible exact Mem.ev_const _ _) | (with_reducible exact Mem.ev_zero _ _ _) | (with_reducible (apply Eq.trans (Mem.ev_tmp _ _ _)); simp only [List.getD_cons_succ, List.getD_cons_zero] <;> rfl)) (fun wx => by go_simp; exact u32_id _ (by omega) (by omega)) ?_
        (simp only [Act.put, List.setIfInBounds_toArray, List.set_cons_zero, List.set_cons_succ])
        refine plan_bin _ _ _ _ _ _ _ _ (by rfl) (by rfl) (by rfl) (by first | (with_reducible exact Mem.ev_const _ _) | (with_reducible exact Mem.ev_zero _ _ _) | (with_reducible (apply Eq.trans (Mem.ev_tmp _ _ _)); simp only [List.getD_cons_succ, List.getD_cons_zero] <;> rfl)) (by first | (with_reducible exact Mem.ev_const _ _) | (with_reducible exact Mem.ev_zero _ _ _) | (with_reducible (apply Eq.trans (Mem.ev_tmp _ _ _)); simp only [List.getD_cons_succ, List.getD_cons_zero] <;> rfl)) (fun wx => o_umul _ _ _ _ (b2.toNat : Int) 256 ((b2.toNat : Int) * 256) rfl (by omega) (by omega) wx) ?_
        (simp only [Act.put, List.setIfInBounds_toArray, List.set_cons_zero, List.set_cons_succ])
        refine plan_bin _ _ _ _ _ _ _ _ (by rfl) (by rfl) (by rfl) (by first | (with_reducible exact Mem.ev_const _ _) | (with_reducible exact Mem.ev_zero _ _ _) | (with_reducible (apply Eq.trans (Mem.ev_tmp _ _ _)); simp only [List.getD_cons_succ, List.getD_cons_zero] <;> rfl)) (by first | (with_reducible exact Mem.ev_const _ _) | (with_reducible exact Mem.ev_zero _ _ _) | (with_reducible (apply Eq.trans (Mem.ev_tmp _ _ _)); simp only [List.getD_cons_succ, List.getD_cons_zero] <;> rfl)) (fun wx => o_uadd _ _ _ _ ((b0.toNat : Int) * 16777216 + (b1.toNat : Int) * 65536) ((b2.toNat : Int) * 256) _ rfl (by omega) (by omega) wx) ?_
        (simp only [Act.put, List.setIfInBounds_toArray, List.set_cons_zero, List.set_cons_succ])
        (first | (refine plan_move _ _ (by rfl) (by rfl) (.inl (by rfl)) (by first | (with_reducible exact Mem.ev_const _ _) | (with_reducible exact Mem.ev_zero _ _ _) | (with_reducible (apply Eq.trans (Mem.ev_tmp _ _ _)); simp only [List.getD_cons_succ, List.getD_cons_zero] <;> rfl)) ?_) | (refine plan_move _ _ (by rfl) (by rfl) (.inr (by rfl)) (by first | (with_reducible exact Mem.ev_const _ _) | (with_reducible exact Mem.ev_zero _ _ _) | (with_reducible (apply Eq.trans (Mem.ev_tmp _ _ _)); simp only [List.getD_cons_succ, List.getD_cons_zero] <;> rfl)) ?_) | (refine plan_pick_t _ _ _ _ (by rfl) (by rfl) (by rfl) (by first | (with_reducible exact Mem.ev_const _ _) | (with_reducible exact Mem.ev_zero _ _ _) | (with_reducible (apply Eq.trans (Mem.ev_tmp _ _ _)); simp only [List.getD_cons_succ, List.getD_cons_zero] <;> rfl)) (by first | (with_reducible exact Mem.ev_const _ _) | (with_reducible exact Mem.ev_zero _ _ _) | (with_reducible (apply Eq.trans (Mem.ev_tmp _ _ _)); simp only [List.getD_cons_succ, List.getD_cons_zero] <;> rfl)) ?_) | (refine plan_pick_f _ _ _ _ (by rfl) (by rfl) (by rfl) (by first | (with_reducible exact Mem.ev_const _ _) | (with_reducible exact Mem.ev_zero _ _ _) | (with_reducible (apply Eq.trans (Mem.ev_tmp _ _ _)); simp only [List.getD_cons_succ, List.getD_cons_zero] <;> rfl)) (by first | (with_reducible exact Mem.ev_const _ _) | (with_reducible exact Mem.ev_zero _ _ _) | (with_reducible (apply Eq.trans (Mem.ev_tmp _ _ _)); simp only [List.getD_cons_succ, List.getD_cons_zero] <;> rfl)) ?_))
        (simp only [Act.put, List.setIfInBounds_toArray, List.set_cons_zero, List.set_cons_succ])
        (first | (refine plan_move _ _ (by rfl) (by rfl) (.inl (by rfl)) (by first | (with_reducible exact Mem.ev_const _ _) | (with_reducible exact Mem.ev_zero _ _ _) | (with_reducible (apply Eq.trans (Mem.ev_tmp _ _ _)); simp only [List.getD_cons_succ, List.getD_cons_zero] <;> rfl)) ?_) | (refine plan_move _ _ (by rfl) (by rfl) (.inr (by rfl)) (by first | (with_reducible exact Mem.ev_const _ _) | (with_reducible exact Mem.ev_zero _ _ _) | (with_reducible (apply Eq.trans (Mem.ev_tmp _ _ _)); simp only [List.getD_cons_succ, List.getD_cons_zero] <;> rfl)) ?_) | (refine plan_pick_t _ _ _ _ (by rfl) (by rfl) (by rfl) (by first | (with_reducible exact Mem.ev_const _ _) | (with_reducible exact Mem.ev_zero _ _ _) | (with_reducible (apply Eq.trans (Mem.ev_tmp _ _ _)); simp only [List.getD_cons_succ, List.getD_cons_zero] <;> rfl)) (by first | (with_reducible exact Mem.ev_const _ _) | (with_reducible exact Mem.ev_zero _ _ _) | (with_reducible (apply Eq.trans (Mem.ev_tmp _ _ _)); simp only [List.getD_cons_succ, List.getD_cons_zero] <;> rfl)) ?_) | (refine plan_pick_f _ _ _ _ (by rfl) (by rfl) (by rfl) (by first | (with_reducible exact Mem.ev_const _ _) | (with_reducible exact Mem.ev_zero _ _ _) | (with_reducible (apply Eq.trans (Mem.ev_tmp _ _ _)); simp only [List.getD_cons_succ, List.getD_cons_zero] <;> rfl)) (by first | (with_reducible exact Mem.ev_const _ _) | (with_reducible exact Mem.ev_zero _ _ _) | (with_reducible (apply Eq.trans (Mem.ev_tmp _ _ _)); simp only [List.getD_cons_succ, List.getD_cons_zero] <;> rfl)) ?_))
        (simp only [Act.put, List.setIfInBounds_toArray, List.set_cons_zero, List.set_cons_succ])
        refine plan_bin _ _ _ _ _ _ _ _ (by rfl) (by rfl) (by rfl) (by first | (with_reducible exact Mem.ev_const _ _) | (with_reducible exact Mem.ev_zero _ _ _) | (with_reducible (apply Eq.trans (Mem.ev_tmp _ _ _)); simp only [List.getD_cons_succ, List.getD_cons_zero] <;> rfl)) (by first | (with_reducible exact Mem.ev_const _ _) | (with_reducible exact Mem.ev_zero _ _ _) | (with_reducible (apply Eq.trans (Mem.ev_tmp _ _ _)); simp only [List.getD_cons_succ, List.getD_cons_zero] <;> rfl)) (fun wx => o_imul _ _ _ _ 4 (t : Int) ((4 * t : Nat) : Int) (by omega) (by omega) (by omega) wx) ?_
        (simp only [Act.put, List.setIfInBounds_toArray, List.set_cons_zero, List.set_cons_succ])
        refine plan_bin _ _ _ _ _ _ _ _ (by rfl) (by rfl) (by rfl) (by first | (with_reducible exact Mem.ev_const _ _) | (with_reducible exact Mem.ev_zero _ _ _) | (with_reducible (apply Eq.trans (Mem.ev_tmp _ _ _)); simp only [List.getD_cons_succ, List.getD_cons_zero] <;> rfl)) (by first | (with_reducible exact Mem.ev_const _ _) | (with_reducible exact Mem.ev_zero _ _ _) | (with_reducible (apply Eq.trans (Mem.ev_tmp _ _ _)); simp only [List.getD_cons_succ, List.getD_cons_zero] <;> rfl)) (fun wx => o_iadd _ _ _ _ ((4 * t : Nat) : Int) 3 ((4 * t + 3 : Nat) : Int) (by omega) (by omega) (by omega) wx) ?_
        (simp only [Act.put, List.setIfInBounds_toArray, List.set_cons_zero, List.set_cons_succ])
        refine plan_index 22 5 _ _ gb ob 64 cb (4 * t + 3) (by rfl) (by rfl) (by rfl) (by first | (with_reducible exact Mem.ev_const _ _) | (with_reducible exact Mem.ev_zero _ _ _) | (with_reducible (apply Eq.trans (Mem.ev_tmp _ _ _)); simp only [List.getD_cons_succ, List.getD_cons_zero] <;> rfl)) (by first | (with_reducible exact Mem.ev_const _ _) | (with_reducible exact Mem.ev_zero _ _ _) | (with_reducible (apply Eq.trans (Mem.ev_tmp _ _ _)); simp only [List.getD_cons_succ, List.getD_cons_zero] <;> rfl)) (by omega) Tryd.underlying22 (by kernel_rfl) ?_
        (simp only [Act.put, List.setIfInBounds_toArray, List.set_cons_zero, List.set_cons_succ])
        refine plan_cell 5 _ ⟨gb, ob + (4 * t + 3), none⟩ (.int .u8 (b3.toNat : Int)) _ (by rfl) (by rfl) (by rfl) (by first | (with_reducible exact Mem.ev_const _ _) | (with_reducible exact Mem.ev_zero _ _ _) | (with_reducible (apply Eq.trans (Mem.ev_tmp _ _ _)); simp only [List.getD_cons_succ, List.getD_cons_zero] <;> rfl)) (fun w' hw' => CB.out w' hw' 3 b3 (by omega) E3.out) Tryd.underlying5 (by rfl) ?_
        (simp only [Act.put, List.setIfInBounds_toArray, List.set_cons_zero, List.set_cons_succ])
        refine plan_conv _ _ _ (.int .u8 (b3.toNat : Int)) (.int .u32 (b3.toNat : Int)) (by rfl) (by rfl) (by rfl) (by first | (with_reducible exact Mem.ev_const _ _) | (with_reducible exact Mem.ev_zero _ _ _) | (with_reducible (apply Eq.trans (Mem.ev_tmp _ _ _)); simp only [List.getD_cons_succ, List.getD_cons_zero] <;> rfl)) (fun wx => by go_simp; exact u32_id _ (by omega) (by omega)) ?_
        (simp only [Act.put, List.setIfInBounds_toArray, List.set_cons_zero, List.set_cons_succ])
        refine plan_bin _ _ _ _ _ _ _ _ (by rfl) (by rfl) (by rfl) (by first | (with_reducible exact Mem.ev_const _ _) | (with_reducible exact Mem.ev_zero _ _ _) | (with_reducible (apply Eq.trans (Mem.ev_tmp _ _ _)); simp only [List.getD_cons_succ, List.getD_cons_zero] <;> rfl)) (by first | (with_reducible exact Mem.ev_const _ _) | (with_reducible exact Mem.ev_zero _ _ _) | (with_reducible (apply Eq.trans (Mem.ev_tmp _ _ _)); simp only [List.getD_cons_succ, List.getD_cons_zero] <;> rfl)) (fun wx => o_uadd _ _ _ _ ((b0.toNat : Int) * 16777216 + (b1.toNat : Int) * 65536 + (b2.toNat : Int) * 256) (b3.toNat : Int) (V (word Bk t)) WD.out (V_lo _) (V_hi _) wx) ?_
        (simp only [Act.put, List.setIfInBounds_toArray, List.set_cons_zero, List.set_cons_succ])
        refine plan_slice 96 65 1 _ #[.int .u32 (V (word Bk t))] (by rfl) (by rfl) (by rfl) Tryd.underlying96 (by kernel_rfl) (B.out.alloc B.out.size _) ?_
        (simp only [Act.put, List.setIfInBounds_toArray, List.set_cons_zero, List.set_cons_succ])
        refine plan_append_lit _ _ 96 (by rfl) (by rfl) (by rfl) (.int .u32 (V (word Bk t))) (.int .u32 0) 4 elemW (by rfl) (by first | (with_reducible exact Mem.ev_const _ _) | (with_reducible exact Mem.ev_zero _ _ _) | (with_reducible (apply Eq.trans (Mem.ev_tmp _ _ _)); simp only [List.getD_cons_succ, List.getD_cons_zero] <;> rfl)) OW.out (by first | (with_reducible exact Mem.ev_const _ _) | (with_reducible exact Mem.ev_zero _ _ _) | (with_reducible (apply Eq.trans (Mem.ev_tmp _ _ _)); simp only [List.getD_cons_succ, List.getD_cons_zero] <;> rfl)) (by rfl) (by rw [u32s_length, sofar_length]; omega) (by rw [u32s_length, sofar_length]; omega) B.out.size ?_
        intro v' w' ho' _ hb' _ _
        refine ⟨B.out.trans hb', ?_⟩
        have OW' := Lib.hid ho'; have BR' := Lib.hid (B.out.trans hb')
        clear ho' hb'
        (simp only [Act.put, List.setIfInBounds_toArray, List.set_cons_zero, List.set_cons_succ])
        (first | (refine plan_move _ _ (by rfl) (by rfl) (.inl (by rfl)) (by first | (with_reducible exact Mem.ev_const _ _) | (with_reducible exact Mem.ev_zero _ _ _) | (with_reducible (apply Eq.trans (Mem.ev_tmp _ _ _)); simp only [List.getD_cons_succ, List.getD_cons_zero] <;> rfl)) ?_) | (refine plan_move _ _ (by rfl) (by rfl) (.inr (by rfl)) (by first | (with_reducible exact Mem.ev_const _ _) | (with_reducible exact Mem.ev_zero _ _ _) | (with_reducible (apply Eq.trans (Mem.ev_tmp _ _ _)); simp only [List.getD_cons_succ, List.getD_cons_zero] <;> rfl)) ?_) | (refine plan_pick_t _ _ _ _ (by rfl) (by rfl) (by rfl) (by first | (with_reducible exact Mem.ev_const _ _) | (with_reducible exact Mem.ev_zero _ _ _) | (with_reducible (apply Eq.trans (Mem.ev_tmp _ _ _)); simp only [List.getD_cons_succ, List.getD_cons_zero] <;> rfl)) (by first | (with_reducible exact Mem.ev_const _ _) | (with_reducible exact Mem.ev_zero _ _ _) | (with_reducible (apply Eq.trans (Mem.ev_tmp _ _ _)); simp only [List.getD_cons_succ, List.getD_cons_zero] <;> rfl)) ?_) | (refine plan_pick_f _ _ _ _ (by rfl) (by rfl) (by rfl) (by first | (with_reducible exact Mem.ev_const _ _) | (with_reducible exact Mem.ev_zero _ _ _) | (with_reducible (apply Eq.trans (Mem.ev_tmp _ _ _)); simp only [List.getD_cons_succ, List.getD_cons_zero] <;> rfl)) (by first | (with_reducible exact Mem.ev_const _ _) | (with_reducible exact Mem.ev_zero _ _ _) | (with_reducible (apply Eq.trans (Mem.ev_tmp _ _ _)); simp only [List.getD_cons_succ, List.getD_cons_zero] <;> rfl)) ?_))
        (simp only [Act.put, List.setIfInBounds_toArray, List.set_cons_zero, List.set_cons_succ])
        refine plan_nil ?_
        go_wp2_with fail
        go_roundw
        case rel => exact ⟨t + 1, by omega, by go_num, by rw [sofar_word _ _ h16]; simpa [u32s] using OW'.out, BR'.out⟩
        case measure => simp [intOf]; omega
      · -- t from 16 on
        obtain ⟨a1, c1, hv1, _, hcc⟩ := how.open
        have hls : (u32s (sofar Bk t)).length = t := by rw [u32s_length, sofar_length]
        obtain ⟨g1, rfl, hg1, hg1l, hcell⟩ := hcc (by intro e; rw [e] at hls; simp at hls; omega)
        rw [hls] at hv1
        subst hv1
        have hcl : ∀ k : Nat, k < t → wr.cell? ⟨g1, 0 + k, none⟩ = some (.int .u32 (V ((sofar Bk t).getD k 0))) := fun k hk => by rw [Nat.zero_add]; exact hcell k _ (u32s_get _ k (by rw [sofar_length]; exact hk))
        obtain ⟨y, hy⟩ : ∃ y, y = (sofar Bk t).getD (t - 2) 0 := ⟨_, rfl⟩
        obtain ⟨x, hx⟩ : ∃ x, x = (sofar Bk t).getD (t - 15) 0 := ⟨_, rfl⟩
        obtain ⟨m7, hm7⟩ : ∃ x, x = (sofar Bk t).getD (t - 7) 0 := ⟨_, rfl⟩
        obtain ⟨m16, hm16⟩ : ∃ x, x = (sofar Bk t).getD (t - 16) 0 := ⟨_, rfl⟩
        have hnx : sofar Bk (t + 1) = sofar Bk t ++ [s1 y + m7 + s0 x + m16] := by rw [sofar_more _ _ (by omega), nextW, sofar_length, hy, hx, hm7, hm16]
        have hcx := hcl (t - 15) (by omega); have hcy := hcl (t - 2) (by omega); have hc7 := hcl (t - 7) (by omega); have hc16 := hcl (t - 16) (by omega)
        rw [← hx] at hcx; rw [← hy] at hcy; rw [← hm7] at hc7; rw [← hm16] at hc16
        have NX := Lib.hid hnx; have CX := Lib.hid hcx; have CY := Lib.hid hcy; have C7 := Lib.hid hc7; have C16 := Lib.hid hc16; have G1 := Lib.hid hg1l
        have T7 := Lib.hid (fun w => rturn_any x 7 7 w (by decide) (by decide) (by decide)); have T18 := Lib.hid (fun w => rturn_any x 18 18 w (by decide) (by decide) (by decide))
        have T17 := Lib.hid (fun w => rturn_any y 17 17 w (by decide) (by decide) (by decide)); have T19 := Lib.hid (fun w => rturn_any y 19 19 w (by decide) (by decide) (by decide))
        have hx7 : (u32s (sofar Bk t))[t - 7]? = some (.int .u32 (V m7)) := by rw [u32s_get _ _ (by rw [sofar_length]; omega), hm7]
        have hx16 : (u32s (sofar Bk t))[t - 16]? = some (.int .u32 (V m16)) := by rw [u32s_get _ _ (by rw [sofar_length]; omega), hm16]
        have X7 := Lib.hid hx7; have X16 := Lib.hid hx16; clear hx7 hx16
        have h16' : 16 ≤ t := by omega
        have OW := Lib.hid how; have BR := Lib.hid hbr; have LS := Lib.hid hls
        clear hcl hcell hcc hx hy hm7 hm16 hnx hcx hcy hc7 hc16 how hbr hls hg1l
        go_wp2_with fail
        refine wp_region_plan (.take 0 (.take 1 (.take 2 (.take 3 (.take 4 (.take 5 (.take 6 (.take 7 (.take 8 (.take 9 (.take 10 (.take 11 .done)))))))))))) (by kernel_rfl) (by kernel_rfl) (by kernel_rfl) ?_
        (first | (refine plan_move _ _ (by rfl) (by rfl) (.inl (by rfl)) (by first | (with_reducible exact Mem.ev_const _ _) | (with_reducible exact Mem.ev_zero _ _ _) | (with_reducible (apply Eq.trans (Mem.ev_tmp _ _ _)); simp only [List.getD_cons_succ, List.getD_cons_zero] <;> rfl)) ?_) | (refine plan_move _ _ (by rfl) (by rfl) (.inr (by rfl)) (by first | (with_reducible exact Mem.ev_const _ _) | (with_reducible exact Mem.ev_zero _ _ _) | (with_reducible (apply Eq.trans (Mem.ev_tmp _ _ _)); simp only [List.getD_cons_succ, List.getD_cons_zero] <;> rfl)) ?_) | (refine plan_pick_t _ _ _ _ (by rfl) (by rfl) (by rfl) (by first | (with_reducible exact Mem.ev_const _ _) | (with_reducible exact Mem.ev_zero _ _ _) | (with_reducible (apply Eq.trans (Mem.ev_tmp _ _ _)); simp only [List.getD_cons_succ, List.getD_cons_zero] <;> rfl)) (by first | (with_reducible exact Mem.ev_const _ _) | (with_reducible exact Mem.ev_zero _ _ _) | (with_reducible (apply Eq.trans (Mem.ev_tmp _ _ _)); simp only [List.getD_cons_succ, List.getD_cons_zero] <;> rfl)) ?_) | (refine plan_pick_f _ _ _ _ (by rfl) (by rfl) (by rfl) (by first | (with_reducible exact Mem.ev_const _ _) | (with_reducible exact Mem.ev_zero _ _ _) | (with_reducible (apply Eq.trans (Mem.ev_tmp _ _ _)); simp only [List.getD_cons_succ, List.getD_cons_zero] <;> rfl)) (by first | (with_reducible exact Mem.ev_const _ _) | (with_reducible exact Mem.ev_zero _ _ _) | (with_reducible (apply Eq.trans (Mem.ev_tmp _ _ _)); simp only [List.getD_cons_succ, List.getD_cons_zero] <;> rfl)) ?_))
        (simp only [Act.put, List.setIfInBounds_toArray, List.set_cons_zero, List.set_cons_succ])
        (first | (refine plan_move _ _ (by rfl) (by rfl) (.inl (by rfl)) (by first | (with_reducible exact Mem.ev_const _ _) | (with_reducible exact Mem.ev_zero _ _ _) | (with_reducible (apply Eq.trans (Mem.ev_tmp _ _ _)); simp only [List.getD_cons_succ, List.getD_cons_zero] <;> rfl)) ?_) | (refine plan_move _ _ (by rfl) (by rfl) (.inr (by rfl)) (by first | (with_reducible exact Mem.ev_const _ _) | (with_reducible exact Mem.ev_zero _ _ _) | (with_reducible (apply Eq.trans (Mem.ev_tmp _ _ _)); simp only [List.getD_cons_succ, List.getD_cons_zero] <;> rfl)) ?_) | (refine plan_pick_t _ _ _ _ (by rfl) (by rfl) (by rfl) (by first | (with_reducible exact Mem.ev_const _ _) | (with_reducible exact Mem.ev_zero _ _ _) | (with_reducible (apply Eq.trans (Mem.ev_tmp _ _ _)); simp only [List.getD_cons_succ, List.getD_cons_zero] <;> rfl)) (by first | (with_reducible exact Mem.ev_const _ _) | (with_reducible exact Mem.ev_zero _ _ _) | (with_reducible (apply Eq.trans (Mem.ev_tmp _ _ _)); simp only [List.getD_cons_succ, List.getD_cons_zero] <;> rfl)) ?_) | (refine plan_pick_f _ _ _ _ (by rfl) (by rfl) (by rfl) (by first | (with_reducible exact Mem.ev_const _ _) | (with_reducible exact Mem.ev_zero _ _ _) | (with_reducible (apply Eq.trans (Mem.ev_tmp _ _ _)); simp only [List.getD_cons_succ, List.getD_cons_zero] <;> rfl)) (by first | (with_reducible exact Mem.ev_const _ _) | (with_reducible exact Mem.ev_zero _ _ _) | (with_reducible (apply Eq.trans (Mem.ev_tmp _ _ _)); simp only [List.getD_cons_succ, List.getD_cons_zero] <;> rfl)) ?_))
        (simp only [Act.put, List.setIfInBounds_toArray, List.set_cons_zero, List.set_cons_succ])
        refine plan_bin _ _ _ _ _ _ _ _ (by rfl) (by rfl) (by rfl) (by first | (with_reducible exact Mem.ev_const _ _) | (with_reducible exact Mem.ev_zero _ _ _) | (with_reducible (apply Eq.trans (Mem.ev_tmp _ _ _)); simp only [List.getD_cons_succ, List.getD_cons_zero] <;> rfl)) (by first | (with_reducible exact Mem.ev_const _ _) | (with_reducible exact Mem.ev_zero _ _ _) | (with_reducible (apply Eq.trans (Mem.ev_tmp _ _ _)); simp only [List.getD_cons_succ, List.getD_cons_zero] <;> rfl)) (fun wx => o_isub _ _ _ _ (t : Int) 15 ((t - 15 : Nat) : Int) (by omega) (by omega) (by omega) wx) ?_
        (simp only [Act.put, List.setIfInBounds_toArray, List.set_cons_zero, List.set_cons_succ])
        refine plan_index 96 65 _ _ g1 0 t c1 (t - 15) (by rfl) (by rfl) (by rfl) (by first | (with_reducible exact Mem.ev_const _ _) | (with_reducible exact Mem.ev_zero _ _ _) | (with_reducible (apply Eq.trans (Mem.ev_tmp _ _ _)); simp only [List.getD_cons_succ, List.getD_cons_zero] <;> rfl)) (by first | (with_reducible exact Mem.ev_const _ _) | (with_reducible exact Mem.ev_zero _ _ _) | (with_reducible (apply Eq.trans (Mem.ev_tmp _ _ _)); simp only [List.getD_cons_succ, List.getD_cons_zero] <;> rfl)) (by omega) Tryd.underlying96 (by kernel_rfl) ?_
        (simp only [Act.put, List.setIfInBounds_toArray, List.set_cons_zero, List.set_cons_succ])
        refine plan_cell 65 _ _ _ _ (by rfl) (by rfl) (by rfl) (by first | (with_reducible exact Mem.ev_const _ _) | (with_reducible exact Mem.ev_zero _ _ _) | (with_reducible (apply Eq.trans (Mem.ev_tmp _ _ _)); simp only [List.getD_cons_succ, List.getD_cons_zero] <;> rfl)) (fun w' hw' => (World.cell?_of_block (a := ⟨g1, _, none⟩) (hw'.block g1 G1.out)).trans CX.out) Tryd.underlying65 (by rfl) ?_
        (simp only [Act.put, List.setIfInBounds_toArray, List.set_cons_zero, List.set_cons_succ])
        (first | (refine plan_move _ _ (by rfl) (by rfl) (.inl (by rfl)) (by first | (with_reducible exact Mem.ev_const _ _) | (with_reducible exact Mem.ev_zero _ _ _) | (with_reducible (apply Eq.trans (Mem.ev_tmp _ _ _)); simp only [List.getD_cons_succ, List.getD_cons_zero] <;> rfl)) ?_) | (refine plan_move _ _ (by rfl) (by rfl) (.inr (by rfl)) (by first | (with_reducible exact Mem.ev_const _ _) | (with_reducible exact Mem.ev_zero _ _ _) | (with_reducible (apply Eq.trans (Mem.ev_tmp _ _ _)); simp only [List.getD_cons_succ, List.getD_cons_zero] <;> rfl)) ?_) | (refine plan_pick_t _ _ _ _ (by rfl) (by rfl) (by rfl) (by first | (with_reducible exact Mem.ev_const _ _) | (with_reducible exact Mem.ev_zero _ _ _) | (with_reducible (apply Eq.trans (Mem.ev_tmp _ _ _)); simp only [List.getD_cons_succ, List.getD_cons_zero] <;> rfl)) (by first | (with_reducible exact Mem.ev_const _ _) | (with_reducible exact Mem.ev_zero _ _ _) | (with_reducible (apply Eq.trans (Mem.ev_tmp _ _ _)); simp only [List.getD_cons_succ, List.getD_cons_zero] <;> rfl)) ?_) | (refine plan_pick_f _ _ _ _ (by rfl) (by rfl) (by rfl) (by first | (with_reducible exact Mem.ev_const _ _) | (with_reducible exact Mem.ev_zero _ _ _) | (with_reducible (apply Eq.trans (Mem.ev_tmp _ _ _)); simp only [List.getD_cons_succ, List.getD_cons_zero] <;> rfl)) (by first | (with_reducible exact Mem.ev_const _ _) | (with_reducible exact Mem.ev_zero _ _ _) | (with_reducible (apply Eq.trans (Mem.ev_tmp _ _ _)); simp only [List.getD_cons_succ, List.getD_cons_zero] <;> rfl)) ?_))
        (simp only [Act.put, List.setIfInBounds_toArray, List.set_cons_zero, List.set_cons_succ])
        (first | (refine plan_move _ _ (by rfl) (by rfl) (.inl (by rfl)) (by first | (with_reducible exact Mem.ev_const _ _) | (with_reducible exact Mem.ev_zero _ _ _) | (with_reducible (apply Eq.trans (Mem.ev_tmp _ _ _)); simp only [List.getD_cons_succ, List.getD_cons_zero] <;> rfl)) ?_) | (refine plan_move _ _ (by rfl) (by rfl) (.inr (by rfl)) (by first | (with_reducible exact Mem.ev_const _ _) | (with_reducible exact Mem.ev_zero _ _ _) | (with_reducible (apply Eq.trans (Mem.ev_tmp _ _ _)); simp only [List.getD_cons_succ, List.getD_cons_zero] <;> rfl)) ?_) | (refine plan_pick_t _ _ _ _ (by rfl) (by rfl) (by rfl) (by first | (with_reducible exact Mem.ev_const _ _) | (with_reducible exact Mem.ev_zero _ _ _) | (with_reducible (apply Eq.trans (Mem.ev_tmp _ _ _)); simp only [List.getD_cons_succ, List.getD_cons_zero] <;> rfl)) (by first | (with_reducible exact Mem.ev_const _ _) | (with_reducible exact Mem.ev_zero _ _ _) | (with_reducible (apply Eq.trans (Mem.ev_tmp _ _ _)); simp only [List.getD_cons_succ, List.getD_cons_zero] <;> rfl)) ?_) | (refine plan_pick_f _ _ _ _ (by rfl) (by rfl) (by rfl) (by first | (with_reducible exact Mem.ev_const _ _) | (with_reducible exact Mem.ev_zero _ _ _) | (with_reducible (apply Eq.trans (Mem.ev_tmp _ _ _)); simp only [List.getD_cons_succ, List.getD_cons_zero] <;> rfl)) (by first | (with_reducible exact Mem.ev_const _ _) | (with_reducible exact Mem.ev_zero _ _ _) | (with_reducible (apply Eq.trans (Mem.ev_tmp _ _ _)); simp only [List.getD_cons_succ, List.getD_cons_zero] <;> rfl)) ?_))
        (simp only [Act.put, List.setIfInBounds_toArray, List.set_cons_zero, List.set_cons_succ])
        refine plan_bin _ _ _ _ _ _ _ _ (by rfl) (by rfl) (by rfl) (by first | (with_reducible exact Mem.ev_const _ _) | (with_reducible exact Mem.ev_zero _ _ _) | (with_reducible (apply Eq.trans (Mem.ev_tmp _ _ _)); simp only [List.getD_cons_succ, List.getD_cons_zero] <;> rfl)) (by first | (with_reducible exact Mem.ev_const _ _) | (with_reducible exact Mem.ev_zero _ _ _) | (with_reducible (apply Eq.trans (Mem.ev_tmp _ _ _)); simp only [List.getD_cons_succ, List.getD_cons_zero] <;> rfl)) (fun wx => o_isub _ _ _ _ (t : Int) 2 ((t - 2 : Nat) : Int) (by omega) (by omega) (by omega) wx) ?_
        (simp only [Act.put, List.setIfInBounds_toArray, List.set_cons_zero, List.set_cons_succ])
        refine plan_index 96 65 _ _ g1 0 t c1 (t - 2) (by rfl) (by rfl) (by rfl) (by first | (with_reducible exact Mem.ev_const _ _) | (with_reducible exact Mem.ev_zero _ _ _) | (with_reducible (apply Eq.trans (Mem.ev_tmp _ _ _)); simp only [List.getD_cons_succ, List.getD_cons_zero] <;> rfl)) (by first | (with_reducible exact Mem.ev_const _ _) | (with_reducible exact Mem.ev_zero _ _ _) | (with_reducible (apply Eq.trans (Mem.ev_tmp _ _ _)); simp only [List.getD_cons_succ, List.getD_cons_zero] <;> rfl)) (by omega) Tryd.underlying96 (by kernel_rfl) ?_
        (simp only [Act.put, List.setIfInBounds_toArray, List.set_cons_zero, List.set_cons_succ])
        refine plan_cell 65 _ _ _ _ (by rfl) (by rfl) (by rfl) (by first | (with_reducible exact Mem.ev_const _ _) | (with_reducible exact Mem.ev_zero _ _ _) | (with_reducible (apply Eq.trans (Mem.ev_tmp _ _ _)); simp only [List.getD_cons_succ, List.getD_cons_zero] <;> rfl)) (fun w' hw' => (World.cell?_of_block (a := ⟨g1, _, none⟩) (hw'.block g1 G1.out)).trans CY.out) Tryd.underlying65 (by rfl) ?_
        (simp only [Act.put, List.setIfInBounds_toArray, List.set_cons_zero, List.set_cons_succ])
        (first | (refine plan_move _ _ (by rfl) (by rfl) (.inl (by rfl)) (by first | (with_reducible exact Mem.ev_const _ _) | (with_reducible exact Mem.ev_zero _ _ _) | (with_reducible (apply Eq.trans (Mem.ev_tmp _ _ _)); simp only [List.getD_cons_succ, List.getD_cons_zero] <;> rfl)) ?_) | (refine plan_move _ _ (by rfl) (by rfl) (.inr (by rfl)) (by first | (with_reducible exact Mem.ev_const _ _) | (with_reducible exact Mem.ev_zero _ _ _) | (with_reducible (apply Eq.trans (Mem.ev_tmp _ _ _)); simp only [List.getD_cons_succ, List.getD_cons_zero] <;> rfl)) ?_) | (refine plan_pick_t _ _ _ _ (by rfl) (by rfl) (by rfl) (by first | (with_reducible exact Mem.ev_const _ _) | (with_reducible exact Mem.ev_zero _ _ _) | (with_reducible (apply Eq.trans (Mem.ev_tmp _ _ _)); simp only [List.getD_cons_succ, List.getD_cons_zero] <;> rfl)) (by first | (with_reducible exact Mem.ev_const _ _) | (with_reducible exact Mem.ev_zero _ _ _) | (with_reducible (apply Eq.trans (Mem.ev_tmp _ _ _)); simp only [List.getD_cons_succ, List.getD_cons_zero] <;> rfl)) ?_) | (refine plan_pick_f _ _ _ _ (by rfl) (by rfl) (by rfl) (by first | (with_reducible exact Mem.ev_const _ _) | (with_reducible exact Mem.ev_zero _ _ _) | (with_reducible (apply Eq.trans (Mem.ev_tmp _ _ _)); simp only [List.getD_cons_succ, List.getD_cons_zero] <;> rfl)) (by first | (with_reducible exact Mem.ev_const _ _) | (with_reducible exact Mem.ev_zero _ _ _) | (with_reducible (apply Eq.trans (Mem.ev_tmp _ _ _)); simp only [List.getD_cons_succ, List.getD_cons_zero] <;> rfl)) ?_))
        (simp only [Act.put, List.setIfInBounds_toArray, List.set_cons_zero, List.set_cons_succ])
        (first | (refine plan_move _ _ (by rfl) (by rfl) (.inl (by rfl)) (by first | (with_reducible exact Mem.ev_const _ _) | (with_reducible exact Mem.ev_zero _ _ _) | (with_reducible (apply Eq.trans (Mem.ev_tmp _ _ _)); simp only [List.getD_cons_succ, List.getD_cons_zero] <;> rfl)) ?_) | (refine plan_move _ _ (by rfl) (by rfl) (.inr (by rfl)) (by first | (with_reducible exact Mem.ev_const _ _) | (with_reducible exact Mem.ev_zero _ _ _) | (with_reducible (apply Eq.trans (Mem.ev_tmp _ _ _)); simp only [List.getD_cons_succ, List.getD_cons_zero] <;> rfl)) ?_) | (refine plan_pick_t _ _ _ _ (by rfl) (by rfl) (by rfl) (by first | (with_reducible exact Mem.ev_const _ _) | (with_reducible exact Mem.ev_zero _ _ _) | (with_reducible (apply Eq.trans (Mem.ev_tmp _ _ _)); simp only [List.getD_cons_succ, List.getD_cons_zero] <;> rfl)) (by first | (with_reducible exact Mem.ev_const _ _) | (with_reducible exact Mem.ev_zero _ _ _) | (with_reducible (apply Eq.trans (Mem.ev_tmp _ _ _)); simp only [List.getD_cons_succ, List.getD_cons_zero] <;> rfl)) ?_) | (refine plan_pick_f _ _ _ _ (by rfl) (by rfl) (by rfl) (by first | (with_reducible exact Mem.ev_const _ _) | (with_reducible exact Mem.ev_zero _ _ _) | (with_reducible (apply Eq.trans (Mem.ev_tmp _ _ _)); simp only [List.getD_cons_succ, List.getD_cons_zero] <;> rfl)) (by first | (with_reducible exact Mem.ev_const _ _) | (with_reducible exact Mem.ev_zero _ _ _) | (with_reducible (apply Eq.trans (Mem.ev_tmp _ _ _)); simp only [List.getD_cons_succ, List.getD_cons_zero] <;> rfl)) ?_))
        (simp only [Act.put, List.setIfInBounds_toArray, List.set_cons_zero, List.set_cons_succ])
        refine plan_nil ?_
        have C7p : Hid (wr.drew.cell? ⟨g1, 0 + (t - 7), none⟩ = some (.int .u32 (V m7))) := C7.out; have C16p : Hid (wr.drew.cell? ⟨g1, 0 + (t - 16), none⟩ = some (.int .u32 (V m16))) := C16.out; have G1p : Hid (g1 < wr.drew.heap.size) := G1.out; have OWp := Lib.hid (OW.out.keep (w' := wr.drew) fun _ _ => rfl); have BRp : Hid (Below w.heap.size w wr.drew) := BR.out.drew
        clear C7 C16 G1 OW BR CX CY
        generalize wr.drew = W1 at *
        go_wp2_with (first | (go_at_call 76; with_reducible refine (T7.out _).mono ?_; rintro e w' ⟨rfl, rfl⟩) | (go_at_call 76; with_reducible refine (T18.out _).mono ?_; rintro e w' ⟨rfl, rfl⟩) | (go_at_call 76; with_reducible refine (T17.out _).mono ?_; rintro e w' ⟨rfl, rfl⟩) | (go_at_call 76; with_reducible refine (T19.out _).mono ?_; rintro e w' ⟨rfl, rfl⟩))
        rw [s0_val, s1_val]
        refine wp_region_plan_in (fun w' => Below w.heap.size w w' ∧ w'.cell? ⟨g1, 0 + (t - 7), none⟩ = some (.int .u32 (V m7)) ∧ w'.cell? ⟨g1, 0 + (t - 16), none⟩ = some (.int .u32 (V m16))) (.take 0 (.take 1 (.take 2 (.take 3 (.take 4 (.take 5 (.take 6 (.take 7 (.take 8 (.take 9 (.take 10 (.take 11 (.take 12 (.take 13 (.take 14 (.take 15 (.sole 16 (.sole 17 (.take 18 .done))))))))))))))))))) (by kernel_rfl) (by kernel_rfl) (by kernel_rfl) ⟨BRp.out.drew, C7p.out, C16p.out⟩ ?_
        have B : Hid (Below w.heap.size w W1.drew) := BRp.out.drew; have D7 : Hid (W1.drew.cell? ⟨g1, 0 + (t - 7), none⟩ = some (.int .u32 (V m7))) := C7p.out; have D16 : Hid (W1.drew.cell? ⟨g1, 0 + (t - 16), none⟩ = some (.int .u32 (V m16))) := C16p.out; have GD : Hid (g1 < W1.drew.heap.size) := G1p.out; have OW2 := Lib.hid (OWp.out.keep (w' := W1.drew) fun _ _ => rfl)
        clear BRp C7p C16p G1p OWp
        generalize W1.drew = W2 at *
        (first | (refine plan_move _ _ (by rfl) (by rfl) (.inl (by rfl)) (by first | (with_reducible exact Mem.ev_const _ _) | (with_reducible exact Mem.ev_zero _ _ _) | (with_reducible (apply Eq.trans (Mem.ev_tmp _ _ _)); simp only [List.getD_cons_succ, List.getD_cons_zero] <;> rfl)) ?_) | (refine plan_move _ _ (by rfl) (by rfl) (.inr (by rfl)) (by first | (with_reducible exact Mem.ev_const _ _) | (with_reducible exact Mem.ev_zero _ _ _) | (with_reducible (apply Eq.trans (Mem.ev_tmp _ _ _)); simp only [List.getD_cons_succ, List.getD_cons_zero] <;> rfl)) ?_) | (refine plan_pick_t _ _ _ _ (by rfl) (by rfl) (by rfl) (by first | (with_reducible exact Mem.ev_const _ _) | (with_reducible exact Mem.ev_zero _ _ _) | (with_reducible (apply Eq.trans (Mem.ev_tmp _ _ _)); simp only [List.getD_cons_succ, List.getD_cons_zero] <;> rfl)) (by first | (with_reducible exact Mem.ev_const _ _) | (with_reducible exact Mem.ev_zero _ _ _) | (with_reducible (apply Eq.trans (Mem.ev_tmp _ _ _)); simp only [List.getD_cons_succ, List.getD_cons_zero] <;> rfl)) ?_) | (refine plan_pick_f _ _ _ _ (by rfl) (by rfl) (by rfl) (by first | (with_reducible exact Mem.ev_const _ _) | (with_reducible exact Mem.ev_zero _ _ _) | (with_reducible (apply Eq.trans (Mem.ev_tmp _ _ _)); simp only [List.getD_cons_succ, List.getD_cons_zero] <;> rfl)) (by first | (with_reducible exact Mem.ev_const _ _) | (with_reducible exact Mem.ev_zero _ _ _) | (with_reducible (apply Eq.trans (Mem.ev_tmp _ _ _)); simp only [List.getD_cons_succ, List.getD_cons_zero] <;> rfl)) ?_))
        (simp only [Act.put, List.setIfInBounds_toArray, List.set_cons_zero, List.set_cons_succ])
        (first | (refine plan_move _ _ (by rfl) (by rfl) (.inl (by rfl)) (by first | (with_reducible exact Mem.ev_const _ _) | (with_reducible exact Mem.ev_zero _ _ _) | (with_reducible (apply Eq.trans (Mem.ev_tmp _ _ _)); simp only [List.getD_cons_succ, List.getD_cons_zero] <;> rfl)) ?_) | (refine plan_move _ _ (by rfl) (by rfl) (.inr (by rfl)) (by first | (with_reducible exact Mem.ev_const _ _) | (with_reducible exact Mem.ev_zero _ _ _) | (with_reducible (apply Eq.trans (Mem.ev_tmp _ _ _)); simp only [List.getD_cons_succ, List.getD_cons_zero] <;> rfl)) ?_) | (refine plan_pick_t _ _ _ _ (by rfl) (by rfl) (by rfl) (by first | (with_reducible exact Mem.ev_const _ _) | (with_reducible exact Mem.ev_zero _ _ _) | (with_reducible (apply Eq.trans (Mem.ev_tmp _ _ _)); simp only [List.getD_cons_succ, List.getD_cons_zero] <;> rfl)) (by first | (with_reducible exact Mem.ev_const _ _) | (with_reducible exact Mem.ev_zero _ _ _) | (with_reducible (apply Eq.trans (Mem.ev_tmp _ _ _)); simp only [List.getD_cons_succ, List.getD_cons_zero] <;> rfl)) ?_) | (refine plan_pick_f _ _ _ _ (by rfl) (by rfl) (by rfl) (by first | (with_reducible exact Mem.ev_const _ _) | (with_reducible exact Mem.ev_zero _ _ _) | (with_reducible (apply Eq.trans (Mem.ev_tmp _ _ _)); simp only [List.getD_cons_succ, List.getD_cons_zero] <;> rfl)) (by first | (with_reducible exact Mem.ev_const _ _) | (with_reducible exact Mem.ev_zero _ _ _) | (with_reducible (apply Eq.trans (Mem.ev_tmp _ _ _)); simp only [List.getD_cons_succ, List.getD_cons_zero] <;> rfl)) ?_))
        (simp only [Act.put, List.setIfInBounds_toArray, List.set_cons_zero, List.set_cons_succ])
        (first | (refine plan_move _ _ (by rfl) (by rfl) (.inl (by rfl)) (by first | (with_reducible exact Mem.ev_const _ _) | (with_reducible exact Mem.ev_zero _ _ _) | (with_reducible (apply Eq.trans (Mem.ev_tmp _ _ _)); simp only [List.getD_cons_succ, List.getD_cons_zero] <;> rfl)) ?_) | (refine plan_move _ _ (by rfl) (by rfl) (.inr (by rfl)) (by first | (with_reducible exact Mem.ev_const _ _) | (with_reducible exact Mem.ev_zero _ _ _) | (with_reducible (apply Eq.trans (Mem.ev_tmp _ _ _)); simp only [List.getD_cons_succ, List.getD_cons_zero] <;> rfl)) ?_) | (refine plan_pick_t _ _ _ _ (by rfl) (by rfl) (by rfl) (by first | (with_reducible exact Mem.ev_const _ _) | (with_reducible exact Mem.ev_zero _ _ _) | (with_reducible (apply Eq.trans (Mem.ev_tmp _ _ _)); simp only [List.getD_cons_succ, List.getD_cons_zero] <;> rfl)) (by first | (with_reducible exact Mem.ev_const _ _) | (with_reducible exact Mem.ev_zero _ _ _) | (with_reducible (apply Eq.trans (Mem.ev_tmp _ _ _)); simp only [List.getD_cons_succ, List.getD_cons_zero] <;> rfl)) ?_) | (refine plan_pick_f _ _ _ _ (by rfl) (by rfl) (by rfl) (by first | (with_reducible exact Mem.ev_const _ _) | (with_reducible exact Mem.ev_zero _ _ _) | (with_reducible (apply Eq.trans (Mem.ev_tmp _ _ _)); simp only [List.getD_cons_succ, List.getD_cons_zero] <;> rfl)) (by first | (with_reducible exact Mem.ev_const _ _) | (with_reducible exact Mem.ev_zero _ _ _) | (with_reducible (apply Eq.trans (Mem.ev_tmp _ _ _)); simp only [List.getD_cons_succ, List.getD_cons_zero] <;> rfl)) ?_))
        (simp only [Act.put, List.setIfInBounds_toArray, List.set_cons_zero, List.set_cons_succ])
        (first | (refine plan_move _ _ (by rfl) (by rfl) (.inl (by rfl)) (by first | (with_reducible exact Mem.ev_const _ _) | (with_reducible exact Mem.ev_zero _ _ _) | (with_reducible (apply Eq.trans (Mem.ev_tmp _ _ _)); simp only [List.getD_cons_succ, List.getD_cons_zero] <;> rfl)) ?_) | (refine plan_move _ _ (by rfl) (by rfl) (.inr (by rfl)) (by first | (with_reducible exact Mem.ev_const _ _) | (with_reducible exact Mem.ev_zero _ _ _) | (with_reducible (apply Eq.trans (Mem.ev_tmp _ _ _)); simp only [List.getD_cons_succ, List.getD_cons_zero] <;> rfl)) ?_) | (refine plan_pick_t _ _ _ _ (by rfl) (by rfl) (by rfl) (by first | (with_reducible exact Mem.ev_const _ _) | (with_reducible exact Mem.ev_zero _ _ _) | (with_reducible (apply Eq.trans (Mem.ev_tmp _ _ _)); simp only [List.getD_cons_succ, List.getD_cons_zero] <;> rfl)) (by first | (with_reducible exact Mem.ev_const _ _) | (with_reducible exact Mem.ev_zero _ _ _) | (with_reducible (apply Eq.trans (Mem.ev_tmp _ _ _)); simp only [List.getD_cons_succ, List.getD_cons_zero] <;> rfl)) ?_) | (refine plan_pick_f _ _ _ _ (by rfl) (by rfl) (by rfl) (by first | (with_reducible exact Mem.ev_const _ _) | (with_reducible exact Mem.ev_zero _ _ _) | (with_reducible (apply Eq.trans (Mem.ev_tmp _ _ _)); simp only [List.getD_cons_succ, List.getD_cons_zero] <;> rfl)) (by first | (with_reducible exact Mem.ev_const _ _) | (with_reducible exact Mem.ev_zero _ _ _) | (with_reducible (apply Eq.trans (Mem.ev_tmp _ _ _)); simp only [List.getD_cons_succ, List.getD_cons_zero] <;> rfl)) ?_))
        (simp only [Act.put, List.setIfInBounds_toArray, List.set_cons_zero, List.set_cons_succ])
        refine plan_bin _ _ _ _ _ _ _ _ (by rfl) (by rfl) (by rfl) (by first | (with_reducible exact Mem.ev_const _ _) | (with_reducible exact Mem.ev_zero _ _ _) | (with_reducible (apply Eq.trans (Mem.ev_tmp _ _ _)); simp only [List.getD_cons_succ, List.getD_cons_zero] <;> rfl)) (by first | (with_reducible exact Mem.ev_const _ _) | (with_reducible exact Mem.ev_zero _ _ _) | (with_reducible (apply Eq.trans (Mem.ev_tmp _ _ _)); simp only [List.getD_cons_succ, List.getD_cons_zero] <;> rfl)) (fun wx => o_isub _ _ _ _ (t : Int) 7 ((t - 7 : Nat) : Int) (by omega) (by omega) (by omega) wx) ?_
        (simp only [Act.put, List.setIfInBounds_toArray, List.set_cons_zero, List.set_cons_succ])
        refine plan_index 96 65 _ _ g1 0 t c1 (t - 7) (by rfl) (by rfl) (by rfl) (by first | (with_reducible exact Mem.ev_const _ _) | (with_reducible exact Mem.ev_zero _ _ _) | (with_reducible (apply Eq.trans (Mem.ev_tmp _ _ _)); simp only [List.getD_cons_succ, List.getD_cons_zero] <;> rfl)) (by first | (with_reducible exact Mem.ev_const _ _) | (with_reducible exact Mem.ev_zero _ _ _) | (with_reducible (apply Eq.trans (Mem.ev_tmp _ _ _)); simp only [List.getD_cons_succ, List.getD_cons_zero] <;> rfl)) (by omega) Tryd.underlying96 (by kernel_rfl) ?_
        (simp only [Act.put, List.setIfInBounds_toArray, List.set_cons_zero, List.set_cons_succ])
        refine plan_cell 65 _ _ _ _ (by rfl) (by rfl) (by rfl) (by first | (with_reducible exact Mem.ev_const _ _) | (with_reducible exact Mem.ev_zero _ _ _) | (with_reducible (apply Eq.trans (Mem.ev_tmp _ _ _)); simp only [List.getD_cons_succ, List.getD_cons_zero] <;> rfl)) (fun w' hw' => hw'.2.1) Tryd.underlying65 (by rfl) ?_
        (simp only [Act.put, List.setIfInBounds_toArray, List.set_cons_zero, List.set_cons_succ])
        refine plan_bin _ _ _ _ _ _ _ _ (by rfl) (by rfl) (by rfl) (by first | (with_reducible exact Mem.ev_const _ _) | (with_reducible exact Mem.ev_zero _ _ _) | (with_reducible (apply Eq.trans (Mem.ev_tmp _ _ _)); simp only [List.getD_cons_succ, List.getD_cons_zero] <;> rfl)) (by first | (with_reducible exact Mem.ev_const _ _) | (with_reducible exact Mem.ev_zero _ _ _) | (with_reducible (apply Eq.trans (Mem.ev_tmp _ _ _)); simp only [List.getD_cons_succ, List.getD_cons_zero] <;> rfl)) (fun wx => o_add _ _ _ _ _ _ wx) ?_
        (simp only [Act.put, List.setIfInBounds_toArray, List.set_cons_zero, List.set_cons_succ])
        (first | (refine plan_move _ _ (by rfl) (by rfl) (.inl (by rfl)) (by first | (with_reducible exact Mem.ev_const _ _) | (with_reducible exact Mem.ev_zero _ _ _) | (with_reducible (apply Eq.trans (Mem.ev_tmp _ _ _)); simp only [List.getD_cons_succ, List.getD_cons_zero] <;> rfl)) ?_) | (refine plan_move _ _ (by rfl) (by rfl) (.inr (by rfl)) (by first | (with_reducible exact Mem.ev_const _ _) | (with_reducible exact Mem.ev_zero _ _ _) | (with_reducible (apply Eq.trans (Mem.ev_tmp _ _ _)); simp only [List.getD_cons_succ, List.getD_cons_zero] <;> rfl)) ?_) | (refine plan_pick_t _ _ _ _ (by rfl) (by rfl) (by rfl) (by first | (with_reducible exact Mem.ev_const _ _) | (with_reducible exact Mem.ev_zero _ _ _) | (with_reducible (apply Eq.trans (Mem.ev_tmp _ _ _)); simp only [List.getD_cons_succ, List.getD_cons_zero] <;> rfl)) (by first | (with_reducible exact Mem.ev_const _ _) | (with_reducible exact Mem.ev_zero _ _ _) | (with_reducible (apply Eq.trans (Mem.ev_tmp _ _ _)); simp only [List.getD_cons_succ, List.getD_cons_zero] <;> rfl)) ?_) | (refine plan_pick_f _ _ _ _ (by rfl) (by rfl) (by rfl) (by first | (with_reducible exact Mem.ev_const _ _) | (with_reducible exact Mem.ev_zero _ _ _) | (with_reducible (apply Eq.trans (Mem.ev_tmp _ _ _)); simp only [List.getD_cons_succ, List.getD_cons_zero] <;> rfl)) (by first | (with_reducible exact Mem.ev_const _ _) | (with_reducible exact Mem.ev_zero _ _ _) | (with_reducible (apply Eq.trans (Mem.ev_tmp _ _ _)); simp only [List.getD_cons_succ, List.getD_cons_zero] <;> rfl)) ?_))
        (simp only [Act.put, List.setIfInBounds_toArray, List.set_cons_zero, List.set_cons_succ])
        refine plan_bin _ _ _ _ _ _ _ _ (by rfl) (by rfl) (by rfl) (by first | (with_reducible exact Mem.ev_const _ _) | (with_reducible exact Mem.ev_zero _ _ _) | (with_reducible (apply Eq.trans (Mem.ev_tmp _ _ _)); simp only [List.getD_cons_succ, List.getD_cons_zero] <;> rfl)) (by first | (with_reducible exact Mem.ev_const _ _) | (with_reducible exact Mem.ev_zero _ _ _) | (with_reducible (apply Eq.trans (Mem.ev_tmp _ _ _)); simp only [List.getD_cons_succ, List.getD_cons_zero] <;> rfl)) (fun wx => o_add _ _ _ _ _ _ wx) ?_
        (simp only [Act.put, List.setIfInBounds_toArray, List.set_cons_zero, List.set_cons_succ])
        (first | (refine plan_move _ _ (by rfl) (by rfl) (.inl (by rfl)) (by first | (with_reducible exact Mem.ev_const _ _) | (with_reducible exact Mem.ev_zero _ _ _) | (with_reducible (apply Eq.trans (Mem.ev_tmp _ _ _)); simp only [List.getD_cons_succ, List.getD_cons_zero] <;> rfl)) ?_) | (refine plan_move _ _ (by rfl) (by rfl) (.inr (by rfl)) (by first | (with_reducible exact Mem.ev_const _ _) | (with_reducible exact Mem.ev_zero _ _ _) | (with_reducible (apply Eq.trans (Mem.ev_tmp _ _ _)); simp only [List.getD_cons_succ, List.getD_cons_zero] <;> rfl)) ?_) | (refine plan_pick_t _ _ _ _ (by rfl) (by rfl) (by rfl) (by first | (with_reducible exact Mem.ev_const _ _) | (with_reducible exact Mem.ev_zero _ _ _) | (with_reducible (apply Eq.trans (Mem.ev_tmp _ _ _)); simp only [List.getD_cons_succ, List.getD_cons_zero] <;> rfl)) (by first | (with_reducible exact Mem.ev_const _ _) | (with_reducible exact Mem.ev_zero _ _ _) | (with_reducible (apply Eq.trans (Mem.ev_tmp _ _ _)); simp only [List.getD_cons_succ, List.getD_cons_zero] <;> rfl)) ?_) | (refine plan_pick_f _ _ _ _ (by rfl) (by rfl) (by rfl) (by first | (with_reducible exact Mem.ev_const _ _) | (with_reducible exact Mem.ev_zero _ _ _) | (with_reducible (apply Eq.trans (Mem.ev_tmp _ _ _)); simp only [List.getD_cons_succ, List.getD_cons_zero] <;> rfl)) (by first | (with_reducible exact Mem.ev_const _ _) | (with_reducible exact Mem.ev_zero _ _ _) | (with_reducible (apply Eq.trans (Mem.ev_tmp _ _ _)); simp only [List.getD_cons_succ, List.getD_cons_zero] <;> rfl)) ?_))
        (simp only [Act.put, List.setIfInBounds_toArray, List.set_cons_zero, List.set_cons_succ])
        (first | (refine plan_move _ _ (by rfl) (by rfl) (.inl (by rfl)) (by first | (with_reducible exact Mem.ev_const _ _) | (with_reducible exact Mem.ev_zero _ _ _) | (with_reducible (apply Eq.trans (Mem.ev_tmp _ _ _)); simp only [List.getD_cons_succ, List.getD_cons_zero] <;> rfl)) ?_) | (refine plan_move _ _ (by rfl) (by rfl) (.inr (by rfl)) (by first | (with_reducible exact Mem.ev_const _ _) | (with_reducible exact Mem.ev_zero _ _ _) | (with_reducible (apply Eq.trans (Mem.ev_tmp _ _ _)); simp only [List.getD_cons_succ, List.getD_cons_zero] <;> rfl)) ?_) | (refine plan_pick_t _ _ _ _ (by rfl) (by rfl) (by rfl) (by first | (with_reducible exact Mem.ev_const _ _) | (with_reducible exact Mem.ev_zero _ _ _) | (with_reducible (apply Eq.trans (Mem.ev_tmp _ _ _)); simp only [List.getD_cons_succ, List.getD_cons_zero] <;> rfl)) (by first | (with_reducible exact Mem.ev_const _ _) | (with_reducible exact Mem.ev_zero _ _ _) | (with_reducible (apply Eq.trans (Mem.ev_tmp _ _ _)); simp only [List.getD_cons_succ, List.getD_cons_zero] <;> rfl)) ?_) | (refine plan_pick_f _ _ _ _ (by rfl) (by rfl) (by rfl) (by first | (with_reducible exact Mem.ev_const _ _) | (with_reducible exact Mem.ev_zero _ _ _) | (with_reducible (apply Eq.trans (Mem.ev_tmp _ _ _)); simp only [List.getD_cons_succ, List.getD_cons_zero] <;> rfl)) (by first | (with_reducible exact Mem.ev_const _ _) | (with_reducible exact Mem.ev_zero _ _ _) | (with_reducible (apply Eq.trans (Mem.ev_tmp _ _ _)); simp only [List.getD_cons_succ, List.getD_cons_zero] <;> rfl)) ?_))
        (simp only [Act.put, List.setIfInBounds_toArray, List.set_cons_zero, List.set_cons_succ])
        refine plan_bin _ _ _ _ _ _ _ _ (by rfl) (by rfl) (by rfl) (by first | (with_reducible exact Mem.ev_const _ _) | (with_reducible exact Mem.ev_zero _ _ _) | (with_reducible (apply Eq.trans (Mem.ev_tmp _ _ _)); simp only [List.getD_cons_succ, List.getD_cons_zero] <;> rfl)) (by first | (with_reducible exact Mem.ev_const _ _) | (with_reducible exact Mem.ev_zero _ _ _) | (with_reducible (apply Eq.trans (Mem.ev_tmp _ _ _)); simp only [List.getD_cons_succ, List.getD_cons_zero] <;> rfl)) (fun wx => o_isub _ _ _ _ (t : Int) 16 ((t - 16 : Nat) : Int) (by omega) (by omega) (by omega) wx) ?_
        (simp only [Act.put, List.setIfInBounds_toArray, List.set_cons_zero, List.set_cons_succ])
        refine plan_index 96 65 _ _ g1 0 t c1 (t - 16) (by rfl) (by rfl) (by rfl) (by first | (with_reducible exact Mem.ev_const _ _) | (with_reducible exact Mem.ev_zero _ _ _) | (with_reducible (apply Eq.trans (Mem.ev_tmp _ _ _)); simp only [List.getD_cons_succ, List.getD_cons_zero] <;> rfl)) (by first | (with_reducible exact Mem.ev_const _ _) | (with_reducible exact Mem.ev_zero _ _ _) | (with_reducible (apply Eq.trans (Mem.ev_tmp _ _ _)); simp only [List.getD_cons_succ, List.getD_cons_zero] <;> rfl)) (by omega) Tryd.underlying96 (by kernel_rfl) ?_
        (simp only [Act.put, List.setIfInBounds_toArray, List.set_cons_zero, List.set_cons_succ])
        refine plan_cell 65 _ _ _ _ (by rfl) (by rfl) (by rfl) (by first | (with_reducible exact Mem.ev_const _ _) | (with_reducible exact Mem.ev_zero _ _ _) | (with_reducible (apply Eq.trans (Mem.ev_tmp _ _ _)); simp only [List.getD_cons_succ, List.getD_cons_zero] <;> rfl)) (fun w' hw' => hw'.2.2) Tryd.underlying65 (by rfl) ?_
        (simp only [Act.put, List.setIfInBounds_toArray, List.set_cons_zero, List.set_cons_succ])
        refine plan_bin _ _ _ _ _ _ _ _ (by rfl) (by rfl) (by rfl) (by first | (with_reducible exact Mem.ev_const _ _) | (with_reducible exact Mem.ev_zero _ _ _) | (with_reducible (apply Eq.trans (Mem.ev_tmp _ _ _)); simp only [List.getD_cons_succ, List.getD_cons_zero] <;> rfl)) (by first | (with_reducible exact Mem.ev_const _ _) | (with_reducible exact Mem.ev_zero _ _ _) | (with_reducible (apply Eq.trans (Mem.ev_tmp _ _ _)); simp only [List.getD_cons_succ, List.getD_cons_zero] <;> rfl)) (fun wx => o_add _ _ _ _ _ _ wx) ?_
        (simp only [Act.put, List.setIfInBounds_toArray, List.set_cons_zero, List.set_cons_succ])
        refine plan_slice 96 65 1 _ #[.int .u32 (V (s1 y + m7 + s0 x + m16))] (by rfl) (by rfl) (by rfl) Tryd.underlying96 (by kernel_rfl) ⟨B.out.alloc B.out.size _, (cell_alloc (p := ⟨g1, _, none⟩) GD.out).trans D7.out, (cell_alloc (p := ⟨g1, _, none⟩) GD.out).trans D16.out⟩ ?_
        (simp only [Act.put, List.setIfInBounds_toArray, List.set_cons_zero, List.set_cons_succ])
        refine plan_append_lit _ _ 96 (by rfl) (by rfl) (by rfl) (.int .u32 (V (s1 y + m7 + s0 x + m16))) (.int .u32 0) 4 elemW (by rfl) (by first | (with_reducible exact Mem.ev_const _ _) | (with_reducible exact Mem.ev_zero _ _ _) | (with_reducible (apply Eq.trans (Mem.ev_tmp _ _ _)); simp only [List.getD_cons_succ, List.getD_cons_zero] <;> rfl)) OW2.out (by first | (with_reducible exact Mem.ev_const _ _) | (with_reducible exact Mem.ev_zero _ _ _) | (with_reducible (apply Eq.trans (Mem.ev_tmp _ _ _)); simp only [List.getD_cons_succ, List.getD_cons_zero] <;> rfl)) (by rfl) (by rw [LS.out]; omega) (by rw [LS.out]; omega) B.out.size ?_
        intro v' w' ho' _ hb' _ hst
        refine ⟨⟨B.out.trans hb', by rw [Nat.zero_add]; exact hst g1 (t - 7) _ rfl X7.out, by rw [Nat.zero_add]; exact hst g1 (t - 16) _ rfl X16.out⟩, ?_⟩
        have OW3 := Lib.hid ho'; have BR' := Lib.hid (B.out.trans hb')
        clear ho' hb' hst
        (simp only [Act.put, List.setIfInBounds_toArray, List.set_cons_zero, List.set_cons_succ])
        (first | (refine plan_move _ _ (by rfl) (by rfl) (.inl (by rfl)) (by first | (with_reducible exact Mem.ev_const _ _) | (with_reducible exact Mem.ev_zero _ _ _) | (with_reducible (apply Eq.trans (Mem.ev_tmp _ _ _)); simp only [List.getD_cons_succ, List.getD_cons_zero] <;> rfl)) ?_) | (refine plan_move _ _ (by rfl) (by rfl) (.inr (by rfl)) (by first | (with_reducible exact Mem.ev_const _ _) | (with_reducible exact Mem.ev_zero _ _ _) | (with_reducible (apply Eq.trans (Mem.ev_tmp _ _ _)); simp only [List.getD_cons_succ, List.getD_cons_zero] <;> rfl)) ?_) | (refine plan_pick_t _ _ _ _ (by rfl) (by rfl) (by rfl) (by first | (with_reducible exact Mem.ev_const _ _) | (with_reducible exact Mem.ev_zero _ _ _) | (with_reducible (apply Eq.trans (Mem.ev_tmp _ _ _)); simp only [List.getD_cons_succ, List.getD_cons_zero] <;> rfl)) (by first | (with_reducible exact Mem.ev_const _ _) | (with_reducible exact Mem.ev_zero _ _ _) | (with_reducible (apply Eq.trans (Mem.ev_tmp _ _ _)); simp only [List.getD_cons_succ, List.getD_cons_zero] <;> rfl)) ?_) | (refine plan_pick_f _ _ _ _ (by rfl) (by rfl) (by rfl) (by first | (with_reducible exact Mem.ev_const _ _) | (with_reducible exact Mem.ev_zero _ _ _) | (with_reducible (apply Eq.trans (Mem.ev_tmp _ _ _)); simp only [List.getD_cons_succ, List.getD_cons_zero] <;> rfl)) (by first | (with_reducible exact Mem.ev_const _ _) | (with_reducible exact Mem.ev_zero _ _ _) | (with_reducible (apply Eq.trans (Mem.ev_tmp _ _ _)); simp only [List.getD_cons_succ, List.getD_cons_zero] <;> rfl)) ?_))
        (simp only [Act.put, List.setIfInBounds_toArray, List.set_cons_zero, List.set_cons_succ])
        refine plan_nil ?_
        go_wp2_with fail
        go_roundw
        case rel => exact ⟨t + 1, by omega, by go_num, by rw [NX.out]; simpa [u32s] using OW3.out, BR'.out⟩
        case measure => simp [intOf]; omega
    · have ht64 : t = 64 := by omega
      have hso : sofar Bk t = sched Bk := by rw [ht64, sofar_all]
      rw [hso] at how
      have hs8 : Rd wr (.slice (some ⟨gs, 0, none⟩) 8 cs) (u32s H) := ⟨_, cs, by rw [u32s_length, lH], fun _ => ⟨_, rfl, fun i u hu => by
        have hi : i < 8 := by
          have := (List.getElem?_eq_some_iff.1 hu).1
          rwa [u32s_length, lH] at this
        rw [Addr.add_mid, Nat.zero_add, hbr.cell (p := ⟨gs, i, none⟩) GS.out, SC.out i hi, ← u32s_get H i (by rw [lH]; exact hi), hu]⟩⟩
      have S8 := Lib.hid hs8; have OW := Lib.hid how; have BR := Lib.hid hbr; have hge : ¬ (t : Int) < 64 := by omega
      clear hs8 how hbr hso ht64 hlt ht
      go_wp2_with (first | (at_builtin; refine wpList_append_rd (by rfl) _ _ 96 (by rfl) _ (u32s H) (.int .u32 0) 4 elemW (by rfl) (by rfl) (OwnV.nil _ w.heap.size _) (by rfl) S8.out (u32s_cells H) (by simp [u32s_length, lH]) (by simp [u32s_length, lH]) BR.out.size ?_; intro v' w' ho' hk' hb' _; have OX := Lib.hid ho'; have OW' := Lib.hid (OW.out.keep fun g hg => hk' g (OW.out.lt g hg).2 (by simp [Value.ownBlock])); have BR' := Lib.hid (BR.out.trans hb'); clear ho' hk' hb'))
      obtain ⟨wo, rfl⟩ : ∃ wo : World, wo = w' := ⟨_, rfl⟩
      go_loopw [13, 14] (fun v i wr => XRel w H Bk u7 v i wr) (fun _ i _ => 64 - (intOf i).toNat)
      case atStart => exact ⟨0, by omega, rfl, by rw [show rnds (sched Bk) (regOf H) 0 = regOf H from rfl, regOf_list H lH]; exact OwnV.wl (by simpa using OX.out) lH, OW'.out, BR'.out⟩
      case round =>
        clear OX OW' BR' S8 OW BR
        obtain ⟨t2, ht, rfl, hwl, how, hbr⟩ := hrel
        obtain ⟨r, hr⟩ : ∃ r, r = rnds (sched Bk) (regOf H) t2 := ⟨_, rfl⟩
        rw [← hr] at hwl
        by_cases hlt : t2 < 64
        · obtain ⟨gx, cx, rfl, hgx, hxc⟩ := hwl
          rw [list_len]
          obtain ⟨aw, cw, hvw, _, hwc⟩ := how.open
          have hls : (u32s (sched Bk)).length = 64 := by rw [u32s_length, ← sofar_all, sofar_length]
          obtain ⟨gw, rfl, _, hgw, hwcell⟩ := hwc (by intro e; rw [e] at hls; simp at hls)
          rw [hls] at hvw
          subst hvw
          obtain ⟨K, hK⟩ : ∃ x, x = Kl.getD t2 0 := ⟨_, rfl⟩
          obtain ⟨Wt, hW⟩ : ∃ x, x = (sched Bk).getD t2 0 := ⟨_, rfl⟩
          have hnx : rnds (sched Bk) (regOf H) (t2 + 1) = rnd K Wt r := by rw [hK, hW, hr]; rfl
          have ck : wr.cell? ⟨gk, 0 + t2, none⟩ = some (.int .u32 (V K)) := by rw [Nat.zero_add, hbr.cell (p := ⟨gk, t2, none⟩) GK.out, hK]; exact KC.out t2 hlt
          have hgk' : gk < wr.heap.size := Nat.lt_of_lt_of_le GK.out hbr.size
          have cwt : wr.cell? ⟨gw, 0 + t2, none⟩ = some (.int .u32 (V Wt)) := by rw [Nat.zero_add, hW]; exact hwcell t2 _ (u32s_get _ t2 (by rw [u32s_length] at hls; omega))
          have X0 : Hid (wr.cell? ⟨gx, 0 + 0, none⟩ = some (.int .u32 (V r.a))) := hxc 0 (by rw [list_len]; omega)
          have X1 : Hid (wr.cell? ⟨gx, 0 + 1, none⟩ = some (.int .u32 (V r.b))) := hxc 1 (by rw [list_len]; omega)
          have X2 : Hid (wr.cell? ⟨gx, 0 + 2, none⟩ = some (.int .u32 (V r.c))) := hxc 2 (by rw [list_len]; omega)
          have X3 : Hid (wr.cell? ⟨gx, 0 + 3, none⟩ = some (.int .u32 (V r.d))) := hxc 3 (by rw [list_len]; omega)
          have X4 : Hid (wr.cell? ⟨gx, 0 + 4, none⟩ = some (.int .u32 (V r.e))) := hxc 4 (by rw [list_len]; omega)
          have X5 : Hid (wr.cell? ⟨gx, 0 + 5, none⟩ = some (.int .u32 (V r.f))) := hxc 5 (by rw [list_len]; omega)
          have X6 : Hid (wr.cell? ⟨gx, 0 + 6, none⟩ = some (.int .u32 (V r.g))) := hxc 6 (by rw [list_len]; omega)
          have X7 : Hid (wr.cell? ⟨gx, 0 + 7, none⟩ = some (.int .u32 (V r.h))) := hxc 7 (by rw [list_len]; omega)
          have CK := Lib.hid ck; have CW := Lib.hid cwt; have NX := Lib.hid hnx; have GX := Lib.hid hgx; have GW := Lib.hid hgw; have GK' := Lib.hid hgk'; have OW := Lib.hid how; have BR := Lib.hid hbr
          clear ck cwt hnx hgx hgw hgk' how hbr hxc hwc hwcell hls hr hK hW
          have T6 := Lib.hid (fun w => rturn_any r.e 6 6 w (by decide) (by decide) (by decide))
          have T11 := Lib.hid (fun w => rturn_any r.e 11 11 w (by decide) (by decide) (by decide))
          have T25 := Lib.hid (fun w => rturn_any r.e 25 25 w (by decide) (by decide) (by decide))
          have T2 := Lib.hid (fun w => rturn_any r.a 2 2 w (by decide) (by decide) (by decide))
          have T13 := Lib.hid (fun w => rturn_any r.a 13 13 w (by decide) (by decide) (by decide))
          have T22 := Lib.hid (fun w => rturn_any r.a 22 22 w (by decide) (by decide) (by decide))
          have hlt' : (t2 : Int) < 64 := by omega
          have hKl : 64 ≤ Kl.length := by decide
          go_wp2_with fail
          refine wp_region_plan_in (fun w' => Below wr.heap.size wr w') (.take 0 (.take 1 (.take 2 (.take 3 (.take 4 (.take 5 (.take 6 (.take 7 .done)))))))) (by kernel_rfl) (by kernel_rfl) (by kernel_rfl) (Below.refl _ _).drew ?_
          have B : Hid (Below wr.heap.size wr wr.drew) := (Below.refl _ _).drew
          generalize wr.drew = W at *
          (first | (refine plan_move _ _ (by rfl) (by rfl) (.inl (by rfl)) (by first | (with_reducible exact Mem.ev_const _ _) | (with_reducible exact Mem.ev_zero _ _ _) | (with_reducible (apply Eq.trans (Mem.ev_tmp _ _ _)); simp only [List.getD_cons_succ, List.getD_cons_zero] <;> rfl)) ?_) | (refine plan_move _ _ (by rfl) (by rfl) (.inr (by rfl)) (by first | (with_reducible exact Mem.ev_const _ _) | (with_reducible exact Mem.ev_zero _ _ _) | (with_reducible (apply Eq.trans (Mem.ev_tmp _ _ _)); simp only [List.getD_cons_succ, List.getD_cons_zero] <;> rfl)) ?_) | (refine plan_pick_t _ _ _ _ (by rfl) (by rfl) (by rfl) (by first | (with_reducible exact Mem.ev_const _ _) | (with_reducible exact Mem.ev_zero _ _ _) | (with_reducible (apply Eq.trans (Mem.ev_tmp _ _ _)); simp only [List.getD_cons_succ, List.getD_cons_zero] <;> rfl)) (by first | (with_reducible exact Mem.ev_const _ _) | (with_reducible exact Mem.ev_zero _ _ _) | (with_reducible (apply Eq.trans (Mem.ev_tmp _ _ _)); simp only [List.getD_cons_succ, List.getD_cons_zero] <;> rfl)) ?_) | (refine plan_pick_f _ _ _ _ (by rfl) (by rfl) (by rfl) (by first | (with_reducible exact Mem.ev_const _ _) | (with_reducible exact Mem.ev_zero _ _ _) | (with_reducible (apply Eq.trans (Mem.ev_tmp _ _ _)); simp only [List.getD_cons_succ, List.getD_cons_zero] <;> rfl)) (by first | (with_reducible exact Mem.ev_const _ _) | (with_reducible exact Mem.ev_zero _ _ _) | (with_reducible (apply Eq.trans (Mem.ev_tmp _ _ _)); simp only [List.getD_cons_succ, List.getD_cons_zero] <;> rfl)) ?_))
          (simp only [Act.put, List.setIfInBounds_toArray, List.set_cons_zero, List.set_cons_succ])
          refine plan_index 96 65 _ _ gx 0 8 cx 0 (by rfl) (by rfl) (by rfl) (by first | (with_reducible exact Mem.ev_const _ _) | (with_reducible exact Mem.ev_zero _ _ _) | (with_reducible (apply Eq.trans (Mem.ev_tmp _ _ _)); simp only [List.getD_cons_succ, List.getD_cons_zero] <;> rfl)) (by rfl) (by omega) Tryd.underlying96 (by kernel_rfl) ?_
          (simp only [Act.put, List.setIfInBounds_toArray, List.set_cons_zero, List.set_cons_succ])
          refine plan_cell 65 _ _ _ _ (by rfl) (by rfl) (by rfl) (by first | (with_reducible exact Mem.ev_const _ _) | (with_reducible exact Mem.ev_zero _ _ _) | (with_reducible (apply Eq.trans (Mem.ev_tmp _ _ _)); simp only [List.getD_cons_succ, List.getD_cons_zero] <;> rfl)) (fun w' hw' => (hw'.cell (p := ⟨_, _, none⟩) GX.out).trans X0.out) Tryd.underlying65 (by rfl) ?_
          (simp only [Act.put, List.setIfInBounds_toArray, List.set_cons_zero, List.set_cons_succ])
          (first | (refine plan_move _ _ (by rfl) (by rfl) (.inl (by rfl)) (by first | (with_reducible exact Mem.ev_const _ _) | (with_reducible exact Mem.ev_zero _ _ _) | (with_reducible (apply Eq.trans (Mem.ev_tmp _ _ _)); simp only [List.getD_cons_succ, List.getD_cons_zero] <;> rfl)) ?_) | (refine plan_move _ _ (by rfl) (by rfl) (.inr (by rfl)) (by first | (with_reducible exact Mem.ev_const _ _) | (with_reducible exact Mem.ev_zero _ _ _) | (with_reducible (apply Eq.trans (Mem.ev_tmp _ _ _)); simp only [List.getD_cons_succ, List.getD_cons_zero] <;> rfl)) ?_) | (refine plan_pick_t _ _ _ _ (by rfl) (by rfl) (by rfl) (by first | (with_reducible exact Mem.ev_const _ _) | (with_reducible exact Mem.ev_zero _ _ _) | (with_reducible (apply Eq.trans (Mem.ev_tmp _ _ _)); simp only [List.getD_cons_succ, List.getD_cons_zero] <;> rfl)) (by first | (with_reducible exact Mem.ev_const _ _) | (with_reducible exact Mem.ev_zero _ _ _) | (with_reducible (apply Eq.trans (Mem.ev_tmp _ _ _)); simp only [List.getD_cons_succ, List.getD_cons_zero] <;> rfl)) ?_) | (refine plan_pick_f _ _ _ _ (by rfl) (by rfl) (by rfl) (by first | (with_reducible exact Mem.ev_const _ _) | (with_reducible exact Mem.ev_zero _ _ _) | (with_reducible (apply Eq.trans (Mem.ev_tmp _ _ _)); simp only [List.getD_cons_succ, List.getD_cons_zero] <;> rfl)) (by first | (with_reducible exact Mem.ev_const _ _) | (with_reducible exact Mem.ev_zero _ _ _) | (with_reducible (apply Eq.trans (Mem.ev_tmp _ _ _)); simp only [List.getD_cons_succ, List.getD_cons_zero] <;> rfl)) ?_))
          (simp only [Act.put, List.setIfInBounds_toArray, List.set_cons_zero, List.set_cons_succ])
          refine plan_index 96 65 _ _ gx 0 8 cx 4 (by rfl) (by rfl) (by rfl) (by first | (with_reducible exact Mem.ev_const _ _) | (with_reducible exact Mem.ev_zero _ _ _) | (with_reducible (apply Eq.trans (Mem.ev_tmp _ _ _)); simp only [List.getD_cons_succ, List.getD_cons_zero] <;> rfl)) (by rfl) (by omega) Tryd.underlying96 (by kernel_rfl) ?_
          (simp only [Act.put, List.setIfInBounds_toArray, List.set_cons_zero, List.set_cons_succ])
          refine plan_cell 65 _ _ _ _ (by rfl) (by rfl) (by rfl) (by first | (with_reducible exact Mem.ev_const _ _) | (with_reducible exact Mem.ev_zero _ _ _) | (with_reducible (apply Eq.trans (Mem.ev_tmp _ _ _)); simp only [List.getD_cons_succ, List.getD_cons_zero] <;> rfl)) (fun w' hw' => (hw'.cell (p := ⟨_, _, none⟩) GX.out).trans X4.out) Tryd.underlying65 (by rfl) ?_
          (simp only [Act.put, List.setIfInBounds_toArray, List.set_cons_zero, List.set_cons_succ])
          (first | (refine plan_move _ _ (by rfl) (by rfl) (.inl (by rfl)) (by first | (with_reducible exact Mem.ev_const _ _) | (with_reducible exact Mem.ev_zero _ _ _) | (with_reducible (apply Eq.trans (Mem.ev_tmp _ _ _)); simp only [List.getD_cons_succ, List.getD_cons_zero] <;> rfl)) ?_) | (refine plan_move _ _ (by rfl) (by rfl) (.inr (by rfl)) (by first | (with_reducible exact Mem.ev_const _ _) | (with_reducible exact Mem.ev_zero _ _ _) | (with_reducible (apply Eq.trans (Mem.ev_tmp _ _ _)); simp only [List.getD_cons_succ, List.getD_cons_zero] <;> rfl)) ?_) | (refine plan_pick_t _ _ _ _ (by rfl) (by rfl) (by rfl) (by first | (with_reducible exact Mem.ev_const _ _) | (with_reducible exact Mem.ev_zero _ _ _) | (with_reducible (apply Eq.trans (Mem.ev_tmp _ _ _)); simp only [List.getD_cons_succ, List.getD_cons_zero] <;> rfl)) (by first | (with_reducible exact Mem.ev_const _ _) | (with_reducible exact Mem.ev_zero _ _ _) | (with_reducible (apply Eq.trans (Mem.ev_tmp _ _ _)); simp only [List.getD_cons_succ, List.getD_cons_zero] <;> rfl)) ?_) | (refine plan_pick_f _ _ _ _ (by rfl) (by rfl) (by rfl) (by first | (with_reducible exact Mem.ev_const _ _) | (with_reducible exact Mem.ev_zero _ _ _) | (with_reducible (apply Eq.trans (Mem.ev_tmp _ _ _)); simp only [List.getD_cons_succ, List.getD_cons_zero] <;> rfl)) (by first | (with_reducible exact Mem.ev_const _ _) | (with_reducible exact Mem.ev_zero _ _ _) | (with_reducible (apply Eq.trans (Mem.ev_tmp _ _ _)); simp only [List.getD_cons_succ, List.getD_cons_zero] <;> rfl)) ?_))
          (simp only [Act.put, List.setIfInBounds_toArray, List.set_cons_zero, List.set_cons_succ])
          (first | (refine plan_move _ _ (by rfl) (by rfl) (.inl (by rfl)) (by first | (with_reducible exact Mem.ev_const _ _) | (with_reducible exact Mem.ev_zero _ _ _) | (with_reducible (apply Eq.trans (Mem.ev_tmp _ _ _)); simp only [List.getD_cons_succ, List.getD_cons_zero] <;> rfl)) ?_) | (refine plan_move _ _ (by rfl) (by rfl) (.inr (by rfl)) (by first | (with_reducible exact Mem.ev_const _ _) | (with_reducible exact Mem.ev_zero _ _ _) | (with_reducible (apply Eq.trans (Mem.ev_tmp _ _ _)); simp only [List.getD_cons_succ, List.getD_cons_zero] <;> rfl)) ?_) | (refine plan_pick_t _ _ _ _ (by rfl) (by rfl) (by rfl) (by first | (with_reducible exact Mem.ev_const _ _) | (with_reducible exact Mem.ev_zero _ _ _) | (with_reducible (apply Eq.trans (Mem.ev_tmp _ _ _)); simp only [List.getD_cons_succ, List.getD_cons_zero] <;> rfl)) (by first | (with_reducible exact Mem.ev_const _ _) | (with_reducible exact Mem.ev_zero _ _ _) | (with_reducible (apply Eq.trans (Mem.ev_tmp _ _ _)); simp only [List.getD_cons_succ, List.getD_cons_zero] <;> rfl)) ?_) | (refine plan_pick_f _ _ _ _ (by rfl) (by rfl) (by rfl) (by first | (with_reducible exact Mem.ev_const _ _) | (with_reducible exact Mem.ev_zero _ _ _) | (with_reducible (apply Eq.trans (Mem.ev_tmp _ _ _)); simp only [List.getD_cons_succ, List.getD_cons_zero] <;> rfl)) (by first | (with_reducible exact Mem.ev_const _ _) | (with_reducible exact Mem.ev_zero _ _ _) | (with_reducible (apply Eq.trans (Mem.ev_tmp _ _ _)); simp only [List.getD_cons_succ, List.getD_cons_zero] <;> rfl)) ?_))
          (simp only [Act.put, List.setIfInBounds_toArray, List.set_cons_zero, List.set_cons_succ])
          refine plan_nil ?_
          go_wp2_with fail
          refine wp_region_plan_in (fun w' => Below wr.heap.size wr w') (.take 0 (.take 1 (.take 2 (.take 3 (.take 5 (.take 8 (.take 12 (.take 13 (.take 14 (.take 15 (.take 16 (.take 17 (.take 18 (.take 19 (.take 20 (.take 21 (.take 22 (.take 23 (.take 25 (.take 26 (.take 27 (.take 28 (.take 30 (.take 31 (.take 32 (.take 33 (.sole 4 (.sole 6 (.take 7 (.sole 9 (.take 10 (.take 11 (.take 24 (.take 29 (.take 34 (.take 35 .done)))))))))))))))))))))))))))))))))))) (by kernel_rfl) (by kernel_rfl) (by kernel_rfl) B.out.drew ?_
          replace B := Lib.hid B.out.drew
          generalize World.drew _ = W at *
          (first | (refine plan_move _ _ (by rfl) (by rfl) (.inl (by rfl)) (by first | (with_reducible exact Mem.ev_const _ _) | (with_reducible exact Mem.ev_zero _ _ _) | (with_reducible (apply Eq.trans (Mem.ev_tmp _ _ _)); simp only [List.getD_cons_succ, List.getD_cons_zero] <;> rfl)) ?_) | (refine plan_move _ _ (by rfl) (by rfl) (.inr (by rfl)) (by first | (with_reducible exact Mem.ev_const _ _) | (with_reducible exact Mem.ev_zero _ _ _) | (with_reducible (apply Eq.trans (Mem.ev_tmp _ _ _)); simp only [List.getD_cons_succ, List.getD_cons_zero] <;> rfl)) ?_) | (refine plan_pick_t _ _ _ _ (by rfl) (by rfl) (by rfl) (by first | (with_reducible exact Mem.ev_const _ _) | (with_reducible exact Mem.ev_zero _ _ _) | (with_reducible (apply Eq.trans (Mem.ev_tmp _ _ _)); simp only [List.getD_cons_succ, List.getD_cons_zero] <;> rfl)) (by first | (with_reducible exact Mem.ev_const _ _) | (with_reducible exact Mem.ev_zero _ _ _) | (with_reducible (apply Eq.trans (Mem.ev_tmp _ _ _)); simp only [List.getD_cons_succ, List.getD_cons_zero] <;> rfl)) ?_) | (refine plan_pick_f _ _ _ _ (by rfl) (by rfl) (by rfl) (by first | (with_reducible exact Mem.ev_const _ _) | (with_reducible exact Mem.ev_zero _ _ _) | (with_reducible (apply Eq.trans (Mem.ev_tmp _ _ _)); simp only [List.getD_cons_succ, List.getD_cons_zero] <;> rfl)) (by first | (with_reducible exact Mem.ev_const _ _) | (with_reducible exact Mem.ev_zero _ _ _) | (with_reducible (apply Eq.trans (Mem.ev_tmp _ _ _)); simp only [List.getD_cons_succ, List.getD_cons_zero] <;> rfl)) ?_))
          (simp only [Act.put, List.setIfInBounds_toArray, List.set_cons_zero, List.set_cons_succ])
          refine plan_index 96 65 _ _ gx 0 8 cx 7 (by rfl) (by rfl) (by rfl) (by first | (with_reducible exact Mem.ev_const _ _) | (with_reducible exact Mem.ev_zero _ _ _) | (with_reducible (apply Eq.trans (Mem.ev_tmp _ _ _)); simp only [List.getD_cons_succ, List.getD_cons_zero] <;> rfl)) (by rfl) (by omega) Tryd.underlying96 (by kernel_rfl) ?_
          (simp only [Act.put, List.setIfInBounds_toArray, List.set_cons_zero, List.set_cons_succ])
          refine plan_cell 65 _ _ _ _ (by rfl) (by rfl) (by rfl) (by first | (with_reducible exact Mem.ev_const _ _) | (with_reducible exact Mem.ev_zero _ _ _) | (with_reducible (apply Eq.trans (Mem.ev_tmp _ _ _)); simp only [List.getD_cons_succ, List.getD_cons_zero] <;> rfl)) (fun w' hw' => (hw'.cell (p := ⟨_, _, none⟩) GX.out).trans X7.out) Tryd.underlying65 (by rfl) ?_
          (simp only [Act.put, List.setIfInBounds_toArray, List.set_cons_zero, List.set_cons_succ])
          (first | (refine plan_move _ _ (by rfl) (by rfl) (.inl (by rfl)) (by first | (with_reducible exact Mem.ev_const _ _) | (with_reducible exact Mem.ev_zero _ _ _) | (with_reducible (apply Eq.trans (Mem.ev_tmp _ _ _)); simp only [List.getD_cons_succ, List.getD_cons_zero] <;> rfl)) ?_) | (refine plan_move _ _ (by rfl) (by rfl) (.inr (by rfl)) (by first | (with_reducible exact Mem.ev_const _ _) | (with_reducible exact Mem.ev_zero _ _ _) | (with_reducible (apply Eq.trans (Mem.ev_tmp _ _ _)); simp only [List.getD_cons_succ, List.getD_cons_zero] <;> rfl)) ?_) | (refine plan_pick_t _ _ _ _ (by rfl) (by rfl) (by rfl) (by first | (with_reducible exact Mem.ev_const _ _) | (with_reducible exact Mem.ev_zero _ _ _) | (with_reducible (apply Eq.trans (Mem.ev_tmp _ _ _)); simp only [List.getD_cons_succ, List.getD_cons_zero] <;> rfl)) (by first | (with_reducible exact Mem.ev_const _ _) | (with_reducible exact Mem.ev_zero _ _ _) | (with_reducible (apply Eq.trans (Mem.ev_tmp _ _ _)); simp only [List.getD_cons_succ, List.getD_cons_zero] <;> rfl)) ?_) | (refine plan_pick_f _ _ _ _ (by rfl) (by rfl) (by rfl) (by first | (with_reducible exact Mem.ev_const _ _) | (with_reducible exact Mem.ev_zero _ _ _) | (with_reducible (apply Eq.trans (Mem.ev_tmp _ _ _)); simp only [List.getD_cons_succ, List.getD_cons_zero] <;> rfl)) (by first | (with_reducible exact Mem.ev_const _ _) | (with_reducible exact Mem.ev_zero _ _ _) | (with_reducible (apply Eq.trans (Mem.ev_tmp _ _ _)); simp only [List.getD_cons_succ, List.getD_cons_zero] <;> rfl)) ?_))
          (simp only [Act.put, List.setIfInBounds_toArray, List.set_cons_zero, List.set_cons_succ])
          (first | (refine plan_move _ _ (by rfl) (by rfl) (.inl (by rfl)) (by first | (with_reducible exact Mem.ev_const _ _) | (with_reducible exact Mem.ev_zero _ _ _) | (with_reducible (apply Eq.trans (Mem.ev_tmp _ _ _)); simp only [List.getD_cons_succ, List.getD_cons_zero] <;> rfl)) ?_) | (refine plan_move _ _ (by rfl) (by rfl) (.inr (by rfl)) (by first | (with_reducible exact Mem.ev_const _ _) | (with_reducible exact Mem.ev_zero _ _ _) | (with_reducible (apply Eq.trans (Mem.ev_tmp _ _ _)); simp only [List.getD_cons_succ, List.getD_cons_zero] <;> rfl)) ?_) | (refine plan_pick_t _ _ _ _ (by rfl) (by rfl) (by rfl) (by first | (with_reducible exact Mem.ev_const _ _) | (with_reducible exact Mem.ev_zero _ _ _) | (with_reducible (apply Eq.trans (Mem.ev_tmp _ _ _)); simp only [List.getD_cons_succ, List.getD_cons_zero] <;> rfl)) (by first | (with_reducible exact Mem.ev_const _ _) | (with_reducible exact Mem.ev_zero _ _ _) | (with_reducible (apply Eq.trans (Mem.ev_tmp _ _ _)); simp only [List.getD_cons_succ, List.getD_cons_zero] <;> rfl)) ?_) | (refine plan_pick_f _ _ _ _ (by rfl) (by rfl) (by rfl) (by first | (with_reducible exact Mem.ev_const _ _) | (with_reducible exact Mem.ev_zero _ _ _) | (with_reducible (apply Eq.trans (Mem.ev_tmp _ _ _)); simp only [List.getD_cons_succ, List.getD_cons_zero] <;> rfl)) (by first | (with_reducible exact Mem.ev_const _ _) | (with_reducible exact Mem.ev_zero _ _ _) | (with_reducible (apply Eq.trans (Mem.ev_tmp _ _ _)); simp only [List.getD_cons_succ, List.getD_cons_zero] <;> rfl)) ?_))
          (simp only [Act.put, List.setIfInBounds_toArray, List.set_cons_zero, List.set_cons_succ])
          (first | (refine plan_move _ _ (by rfl) (by rfl) (.inl (by rfl)) (by first | (with_reducible exact Mem.ev_const _ _) | (with_reducible exact Mem.ev_zero _ _ _) | (with_reducible (apply Eq.trans (Mem.ev_tmp _ _ _)); simp only [List.getD_cons_succ, List.getD_cons_zero] <;> rfl)) ?_) | (refine plan_move _ _ (by rfl) (by rfl) (.inr (by rfl)) (by first | (with_reducible exact Mem.ev_const _ _) | (with_reducible exact Mem.ev_zero _ _ _) | (with_reducible (apply Eq.trans (Mem.ev_tmp _ _ _)); simp only [List.getD_cons_succ, List.getD_cons_zero] <;> rfl)) ?_) | (refine plan_pick_t _ _ _ _ (by rfl) (by rfl) (by rfl) (by first | (with_reducible exact Mem.ev_const _ _) | (with_reducible exact Mem.ev_zero _ _ _) | (with_reducible (apply Eq.trans (Mem.ev_tmp _ _ _)); simp only [List.getD_cons_succ, List.getD_cons_zero] <;> rfl)) (by first | (with_reducible exact Mem.ev_const _ _) | (with_reducible exact Mem.ev_zero _ _ _) | (with_reducible (apply Eq.trans (Mem.ev_tmp _ _ _)); simp only [List.getD_cons_succ, List.getD_cons_zero] <;> rfl)) ?_) | (refine plan_pick_f _ _ _ _ (by rfl) (by rfl) (by rfl) (by first | (with_reducible exact Mem.ev_const _ _) | (with_reducible exact Mem.ev_zero _ _ _) | (with_reducible (apply Eq.trans (Mem.ev_tmp _ _ _)); simp only [List.getD_cons_succ, List.getD_cons_zero] <;> rfl)) (by first | (with_reducible exact Mem.ev_const _ _) | (with_reducible exact Mem.ev_zero _ _ _) | (with_reducible (apply Eq.trans (Mem.ev_tmp _ _ _)); simp only [List.getD_cons_succ, List.getD_cons_zero] <;> rfl)) ?_))
          (simp only [Act.put, List.setIfInBounds_toArray, List.set_cons_zero, List.set_cons_succ])
          (first | (refine plan_move _ _ (by rfl) (by rfl) (.inl (by rfl)) (by first | (with_reducible exact Mem.ev_const _ _) | (with_reducible exact Mem.ev_zero _ _ _) | (with_reducible (apply Eq.trans (Mem.ev_tmp _ _ _)); simp only [List.getD_cons_succ, List.getD_cons_zero] <;> rfl)) ?_) | (refine plan_move _ _ (by rfl) (by rfl) (.inr (by rfl)) (by first | (with_reducible exact Mem.ev_const _ _) | (with_reducible exact Mem.ev_zero _ _ _) | (with_reducible (apply Eq.trans (Mem.ev_tmp _ _ _)); simp only [List.getD_cons_succ, List.getD_cons_zero] <;> rfl)) ?_) | (refine plan_pick_t _ _ _ _ (by rfl) (by rfl) (by rfl) (by first | (with_reducible exact Mem.ev_const _ _) | (with_reducible exact Mem.ev_zero _ _ _) | (with_reducible (apply Eq.trans (Mem.ev_tmp _ _ _)); simp only [List.getD_cons_succ, List.getD_cons_zero] <;> rfl)) (by first | (with_reducible exact Mem.ev_const _ _) | (with_reducible exact Mem.ev_zero _ _ _) | (with_reducible (apply Eq.trans (Mem.ev_tmp _ _ _)); simp only [List.getD_cons_succ, List.getD_cons_zero] <;> rfl)) ?_) | (refine plan_pick_f _ _ _ _ (by rfl) (by rfl) (by rfl) (by first | (with_reducible exact Mem.ev_const _ _) | (with_reducible exact Mem.ev_zero _ _ _) | (with_reducible (apply Eq.trans (Mem.ev_tmp _ _ _)); simp only [List.getD_cons_succ, List.getD_cons_zero] <;> rfl)) (by first | (with_reducible exact Mem.ev_const _ _) | (with_reducible exact Mem.ev_zero _ _ _) | (with_reducible (apply Eq.trans (Mem.ev_tmp _ _ _)); simp only [List.getD_cons_succ, List.getD_cons_zero] <;> rfl)) ?_))
          (simp only [Act.put, List.setIfInBounds_toArray, List.set_cons_zero, List.set_cons_succ])
          (first | (refine plan_move _ _ (by rfl) (by rfl) (.inl (by rfl)) (by first | (with_reducible exact Mem.ev_const _ _) | (with_reducible exact Mem.ev_zero _ _ _) | (with_reducible (apply Eq.trans (Mem.ev_tmp _ _ _)); simp only [List.getD_cons_succ, List.getD_cons_zero] <;> rfl)) ?_) | (refine plan_move _ _ (by rfl) (by rfl) (.inr (by rfl)) (by first | (with_reducible exact Mem.ev_const _ _) | (with_reducible exact Mem.ev_zero _ _ _) | (with_reducible (apply Eq.trans (Mem.ev_tmp _ _ _)); simp only [List.getD_cons_succ, List.getD_cons_zero] <;> rfl)) ?_) | (refine plan_pick_t _ _ _ _ (by rfl) (by rfl) (by rfl) (by first | (with_reducible exact Mem.ev_const _ _) | (with_reducible exact Mem.ev_zero _ _ _) | (with_reducible (apply Eq.trans (Mem.ev_tmp _ _ _)); simp only [List.getD_cons_succ, List.getD_cons_zero] <;> rfl)) (by first | (with_reducible exact Mem.ev_const _ _) | (with_reducible exact Mem.ev_zero _ _ _) | (with_reducible (apply Eq.trans (Mem.ev_tmp _ _ _)); simp only [List.getD_cons_succ, List.getD_cons_zero] <;> rfl)) ?_) | (refine plan_pick_f _ _ _ _ (by rfl) (by rfl) (by rfl) (by first | (with_reducible exact Mem.ev_const _ _) | (with_reducible exact Mem.ev_zero _ _ _) | (with_reducible (apply Eq.trans (Mem.ev_tmp _ _ _)); simp only [List.getD_cons_succ, List.getD_cons_zero] <;> rfl)) (by first | (with_reducible exact Mem.ev_const _ _) | (with_reducible exact Mem.ev_zero _ _ _) | (with_reducible (apply Eq.trans (Mem.ev_tmp _ _ _)); simp only [List.getD_cons_succ, List.getD_cons_zero] <;> rfl)) ?_))
          (simp only [Act.put, List.setIfInBounds_toArray, List.set_cons_zero, List.set_cons_succ])
          refine plan_index 96 65 _ _ gx 0 8 cx 5 (by rfl) (by rfl) (by rfl) (by first | (with_reducible exact Mem.ev_const _ _) | (with_reducible exact Mem.ev_zero _ _ _) | (with_reducible (apply Eq.trans (Mem.ev_tmp _ _ _)); simp only [List.getD_cons_succ, List.getD_cons_zero] <;> rfl)) (by rfl) (by omega) Tryd.underlying96 (by kernel_rfl) ?_
          (simp only [Act.put, List.setIfInBounds_toArray, List.set_cons_zero, List.set_cons_succ])
          refine plan_cell 65 _ _ _ _ (by rfl) (by rfl) (by rfl) (by first | (with_reducible exact Mem.ev_const _ _) | (with_reducible exact Mem.ev_zero _ _ _) | (with_reducible (apply Eq.trans (Mem.ev_tmp _ _ _)); simp only [List.getD_cons_succ, List.getD_cons_zero] <;> rfl)) (fun w' hw' => (hw'.cell (p := ⟨_, _, none⟩) GX.out).trans X5.out) Tryd.underlying65 (by rfl) ?_
          (simp only [Act.put, List.setIfInBounds_toArray, List.set_cons_zero, List.set_cons_succ])
          refine plan_bin _ _ _ _ _ _ _ _ (by rfl) (by rfl) (by rfl) (by first | (with_reducible exact Mem.ev_const _ _) | (with_reducible exact Mem.ev_zero _ _ _) | (with_reducible (apply Eq.trans (Mem.ev_tmp _ _ _)); simp only [List.getD_cons_succ, List.getD_cons_zero] <;> rfl)) (by first | (with_reducible exact Mem.ev_const _ _) | (with_reducible exact Mem.ev_zero _ _ _) | (with_reducible (apply Eq.trans (Mem.ev_tmp _ _ _)); simp only [List.getD_cons_succ, List.getD_cons_zero] <;> rfl)) (fun wx => o_and _ _ _ _ _ _ wx) ?_
          (simp only [Act.put, List.setIfInBounds_toArray, List.set_cons_zero, List.set_cons_succ])
          (first | (refine plan_move _ _ (by rfl) (by rfl) (.inl (by rfl)) (by first | (with_reducible exact Mem.ev_const _ _) | (with_reducible exact Mem.ev_zero _ _ _) | (with_reducible (apply Eq.trans (Mem.ev_tmp _ _ _)); simp only [List.getD_cons_succ, List.getD_cons_zero] <;> rfl)) ?_) | (refine plan_move _ _ (by rfl) (by rfl) (.inr (by rfl)) (by first | (with_reducible exact Mem.ev_const _ _) | (with_reducible exact Mem.ev_zero _ _ _) | (with_reducible (apply Eq.trans (Mem.ev_tmp _ _ _)); simp only [List.getD_cons_succ, List.getD_cons_zero] <;> rfl)) ?_) | (refine plan_pick_t _ _ _ _ (by rfl) (by rfl) (by rfl) (by first | (with_reducible exact Mem.ev_const _ _) | (with_reducible exact Mem.ev_zero _ _ _) | (with_reducible (apply Eq.trans (Mem.ev_tmp _ _ _)); simp only [List.getD_cons_succ, List.getD_cons_zero] <;> rfl)) (by first | (with_reducible exact Mem.ev_const _ _) | (with_reducible exact Mem.ev_zero _ _ _) | (with_reducible (apply Eq.trans (Mem.ev_tmp _ _ _)); simp only [List.getD_cons_succ, List.getD_cons_zero] <;> rfl)) ?_) | (refine plan_pick_f _ _ _ _ (by rfl) (by rfl) (by rfl) (by first | (with_reducible exact Mem.ev_const _ _) | (with_reducible exact Mem.ev_zero _ _ _) | (with_reducible (apply Eq.trans (Mem.ev_tmp _ _ _)); simp only [List.getD_cons_succ, List.getD_cons_zero] <;> rfl)) (by first | (with_reducible exact Mem.ev_const _ _) | (with_reducible exact Mem.ev_zero _ _ _) | (with_reducible (apply Eq.trans (Mem.ev_tmp _ _ _)); simp only [List.getD_cons_succ, List.getD_cons_zero] <;> rfl)) ?_))
          (simp only [Act.put, List.setIfInBounds_toArray, List.set_cons_zero, List.set_cons_succ])
          refine plan_bin _ _ _ _ _ _ _ _ (by rfl) (by rfl) (by rfl) (by first | (with_reducible exact Mem.ev_const _ _) | (with_reducible exact Mem.ev_zero _ _ _) | (with_reducible (apply Eq.trans (Mem.ev_tmp _ _ _)); simp only [List.getD_cons_succ, List.getD_cons_zero] <;> rfl)) (by first | (with_reducible exact Mem.ev_const _ _) | (with_reducible exact Mem.ev_zero _ _ _) | (with_reducible (apply Eq.trans (Mem.ev_tmp _ _ _)); simp only [List.getD_cons_succ, List.getD_cons_zero] <;> rfl)) (fun wx => o_not _ _ _ _ _ wx) ?_
          (simp only [Act.put, List.setIfInBounds_toArray, List.set_cons_zero, List.set_cons_succ])
          (first | (refine plan_move _ _ (by rfl) (by rfl) (.inl (by rfl)) (by first | (with_reducible exact Mem.ev_const _ _) | (with_reducible exact Mem.ev_zero _ _ _) | (with_reducible (apply Eq.trans (Mem.ev_tmp _ _ _)); simp only [List.getD_cons_succ, List.getD_cons_zero] <;> rfl)) ?_) | (refine plan_move _ _ (by rfl) (by rfl) (.inr (by rfl)) (by first | (with_reducible exact Mem.ev_const _ _) | (with_reducible exact Mem.ev_zero _ _ _) | (with_reducible (apply Eq.trans (Mem.ev_tmp _ _ _)); simp only [List.getD_cons_succ, List.getD_cons_zero] <;> rfl)) ?_) | (refine plan_pick_t _ _ _ _ (by rfl) (by rfl) (by rfl) (by first | (with_reducible exact Mem.ev_const _ _) | (with_reducible exact Mem.ev_zero _ _ _) | (with_reducible (apply Eq.trans (Mem.ev_tmp _ _ _)); simp only [List.getD_cons_succ, List.getD_cons_zero] <;> rfl)) (by first | (with_reducible exact Mem.ev_const _ _) | (with_reducible exact Mem.ev_zero _ _ _) | (with_reducible (apply Eq.trans (Mem.ev_tmp _ _ _)); simp only [List.getD_cons_succ, List.getD_cons_zero] <;> rfl)) ?_) | (refine plan_pick_f _ _ _ _ (by rfl) (by rfl) (by rfl) (by first | (with_reducible exact Mem.ev_const _ _) | (with_reducible exact Mem.ev_zero _ _ _) | (with_reducible (apply Eq.trans (Mem.ev_tmp _ _ _)); simp only [List.getD_cons_succ, List.getD_cons_zero] <;> rfl)) (by first | (with_reducible exact Mem.ev_const _ _) | (with_reducible exact Mem.ev_zero _ _ _) | (with_reducible (apply Eq.trans (Mem.ev_tmp _ _ _)); simp only [List.getD_cons_succ, List.getD_cons_zero] <;> rfl)) ?_))
          (simp only [Act.put, List.setIfInBounds_toArray, List.set_cons_zero, List.set_cons_succ])
          refine plan_index 96 65 _ _ gx 0 8 cx 6 (by rfl) (by rfl) (by rfl) (by first | (with_reducible exact Mem.ev_const _ _) | (with_reducible exact Mem.ev_zero _ _ _) | (with_reducible (apply Eq.trans (Mem.ev_tmp _ _ _)); simp only [List.getD_cons_succ, List.getD_cons_zero] <;> rfl)) (by rfl) (by omega) Tryd.underlying96 (by kernel_rfl) ?_
          (simp only [Act.put, List.setIfInBounds_toArray, List.set_cons_zero, List.set_cons_succ])
          refine plan_cell 65 _ _ _ _ (by rfl) (by rfl) (by rfl) (by first | (with_reducible exact Mem.ev_const _ _) | (with_reducible exact Mem.ev_zero _ _ _) | (with_reducible (apply Eq.trans (Mem.ev_tmp _ _ _)); simp only [List.getD_cons_succ, List.getD_cons_zero] <;> rfl)) (fun w' hw' => (hw'.cell (p := ⟨_, _, none⟩) GX.out).trans X6.out) Tryd.underlying65 (by rfl) ?_
          (simp only [Act.put, List.setIfInBounds_toArray, List.set_cons_zero, List.set_cons_succ])
          refine plan_bin _ _ _ _ _ _ _ _ (by rfl) (by rfl) (by rfl) (by first | (with_reducible exact Mem.ev_const _ _) | (with_reducible exact Mem.ev_zero _ _ _) | (with_reducible (apply Eq.trans (Mem.ev_tmp _ _ _)); simp only [List.getD_cons_succ, List.getD_cons_zero] <;> rfl)) (by first | (with_reducible exact Mem.ev_const _ _) | (with_reducible exact Mem.ev_zero _ _ _) | (with_reducible (apply Eq.trans (Mem.ev_tmp _ _ _)); simp only [List.getD_cons_succ, List.getD_cons_zero] <;> rfl)) (fun wx => o_and _ _ _ _ _ _ wx) ?_
          (simp only [Act.put, List.setIfInBounds_toArray, List.set_cons_zero, List.set_cons_succ])
          refine plan_bin _ _ _ _ _ _ _ _ (by rfl) (by rfl) (by rfl) (by first | (with_reducible exact Mem.ev_const _ _) | (with_reducible exact Mem.ev_zero _ _ _) | (with_reducible (apply Eq.trans (Mem.ev_tmp _ _ _)); simp only [List.getD_cons_succ, List.getD_cons_zero] <;> rfl)) (by first | (with_reducible exact Mem.ev_const _ _) | (with_reducible exact Mem.ev_zero _ _ _) | (with_reducible (apply Eq.trans (Mem.ev_tmp _ _ _)); simp only [List.getD_cons_succ, List.getD_cons_zero] <;> rfl)) (fun wx => o_xor _ _ _ _ _ _ wx) ?_
          (simp only [Act.put, List.setIfInBounds_toArray, List.set_cons_zero, List.set_cons_succ])
          (first | (refine plan_move _ _ (by rfl) (by rfl) (.inl (by rfl)) (by first | (with_reducible exact Mem.ev_const _ _) | (with_reducible exact Mem.ev_zero _ _ _) | (with_reducible (apply Eq.trans (Mem.ev_tmp _ _ _)); simp only [List.getD_cons_succ, List.getD_cons_zero] <;> rfl)) ?_) | (refine plan_move _ _ (by rfl) (by rfl) (.inr (by rfl)) (by first | (with_reducible exact Mem.ev_const _ _) | (with_reducible exact Mem.ev_zero _ _ _) | (with_reducible (apply Eq.trans (Mem.ev_tmp _ _ _)); simp only [List.getD_cons_succ, List.getD_cons_zero] <;> rfl)) ?_) | (refine plan_pick_t _ _ _ _ (by rfl) (by rfl) (by rfl) (by first | (with_reducible exact Mem.ev_const _ _) | (with_reducible exact Mem.ev_zero _ _ _) | (with_reducible (apply Eq.trans (Mem.ev_tmp _ _ _)); simp only [List.getD_cons_succ, List.getD_cons_zero] <;> rfl)) (by first | (with_reducible exact Mem.ev_const _ _) | (with_reducible exact Mem.ev_zero _ _ _) | (with_reducible (apply Eq.trans (Mem.ev_tmp _ _ _)); simp only [List.getD_cons_succ, List.getD_cons_zero] <;> rfl)) ?_) | (refine plan_pick_f _ _ _ _ (by rfl) (by rfl) (by rfl) (by first | (with_reducible exact Mem.ev_const _ _) | (with_reducible exact Mem.ev_zero _ _ _) | (with_reducible (apply Eq.trans (Mem.ev_tmp _ _ _)); simp only [List.getD_cons_succ, List.getD_cons_zero] <;> rfl)) (by first | (with_reducible exact Mem.ev_const _ _) | (with_reducible exact Mem.ev_zero _ _ _) | (with_reducible (apply Eq.trans (Mem.ev_tmp _ _ _)); simp only [List.getD_cons_succ, List.getD_cons_zero] <;> rfl)) ?_))
          (simp only [Act.put, List.setIfInBounds_toArray, List.set_cons_zero, List.set_cons_succ])
          (first | (refine plan_move _ _ (by rfl) (by rfl) (.inl (by rfl)) (by first | (with_reducible exact Mem.ev_const _ _) | (with_reducible exact Mem.ev_zero _ _ _) | (with_reducible (apply Eq.trans (Mem.ev_tmp _ _ _)); simp only [List.getD_cons_succ, List.getD_cons_zero] <;> rfl)) ?_) | (refine plan_move _ _ (by rfl) (by rfl) (.inr (by rfl)) (by first | (with_reducible exact Mem.ev_const _ _) | (with_reducible exact Mem.ev_zero _ _ _) | (with_reducible (apply Eq.trans (Mem.ev_tmp _ _ _)); simp only [List.getD_cons_succ, List.getD_cons_zero] <;> rfl)) ?_) | (refine plan_pick_t _ _ _ _ (by rfl) (by rfl) (by rfl) (by first | (with_reducible exact Mem.ev_const _ _) | (with_reducible exact Mem.ev_zero _ _ _) | (with_reducible (apply Eq.trans (Mem.ev_tmp _ _ _)); simp only [List.getD_cons_succ, List.getD_cons_zero] <;> rfl)) (by first | (with_reducible exact Mem.ev_const _ _) | (with_reducible exact Mem.ev_zero _ _ _) | (with_reducible (apply Eq.trans (Mem.ev_tmp _ _ _)); simp only [List.getD_cons_succ, List.getD_cons_zero] <;> rfl)) ?_) | (refine plan_pick_f _ _ _ _ (by rfl) (by rfl) (by rfl) (by first | (with_reducible exact Mem.ev_const _ _) | (with_reducible exact Mem.ev_zero _ _ _) | (with_reducible (apply Eq.trans (Mem.ev_tmp _ _ _)); simp only [List.getD_cons_succ, List.getD_cons_zero] <;> rfl)) (by first | (with_reducible exact Mem.ev_const _ _) | (with_reducible exact Mem.ev_zero _ _ _) | (with_reducible (apply Eq.trans (Mem.ev_tmp _ _ _)); simp only [List.getD_cons_succ, List.getD_cons_zero] <;> rfl)) ?_))
          (simp only [Act.put, List.setIfInBounds_toArray, List.set_cons_zero, List.set_cons_succ])
          refine plan_index 96 65 _ _ gk 0 Kl.length ck t2 (by rfl) (by rfl) (by rfl) (by first | (with_reducible exact Mem.ev_const _ _) | (with_reducible exact Mem.ev_zero _ _ _) | (with_reducible (apply Eq.trans (Mem.ev_tmp _ _ _)); simp only [List.getD_cons_succ, List.getD_cons_zero] <;> rfl)) (by first | (with_reducible exact Mem.ev_const _ _) | (with_reducible exact Mem.ev_zero _ _ _) | (with_reducible (apply Eq.trans (Mem.ev_tmp _ _ _)); simp only [List.getD_cons_succ, List.getD_cons_zero] <;> rfl)) (by omega) Tryd.underlying96 (by kernel_rfl) ?_
          (simp only [Act.put, List.setIfInBounds_toArray, List.set_cons_zero, List.set_cons_succ])
          refine plan_cell 65 _ _ _ _ (by rfl) (by rfl) (by rfl) (by first | (with_reducible exact Mem.ev_const _ _) | (with_reducible exact Mem.ev_zero _ _ _) | (with_reducible (apply Eq.trans (Mem.ev_tmp _ _ _)); simp only [List.getD_cons_succ, List.getD_cons_zero] <;> rfl)) (fun w' hw' => (hw'.cell (p := ⟨_, _, none⟩) GK'.out).trans CK.out) Tryd.underlying65 (by rfl) ?_
          (simp only [Act.put, List.setIfInBounds_toArray, List.set_cons_zero, List.set_cons_succ])
          (first | (refine plan_move _ _ (by rfl) (by rfl) (.inl (by rfl)) (by first | (with_reducible exact Mem.ev_const _ _) | (with_reducible exact Mem.ev_zero _ _ _) | (with_reducible (apply Eq.trans (Mem.ev_tmp _ _ _)); simp only [List.getD_cons_succ, List.getD_cons_zero] <;> rfl)) ?_) | (refine plan_move _ _ (by rfl) (by rfl) (.inr (by rfl)) (by first | (with_reducible exact Mem.ev_const _ _) | (with_reducible exact Mem.ev_zero _ _ _) | (with_reducible (apply Eq.trans (Mem.ev_tmp _ _ _)); simp only [List.getD_cons_succ, List.getD_cons_zero] <;> rfl)) ?_) | (refine plan_pick_t _ _ _ _ (by rfl) (by rfl) (by rfl) (by first | (with_reducible exact Mem.ev_const _ _) | (with_reducible exact Mem.ev_zero _ _ _) | (with_reducible (apply Eq.trans (Mem.ev_tmp _ _ _)); simp only [List.getD_cons_succ, List.getD_cons_zero] <;> rfl)) (by first | (with_reducible exact Mem.ev_const _ _) | (with_reducible exact Mem.ev_zero _ _ _) | (with_reducible (apply Eq.trans (Mem.ev_tmp _ _ _)); simp only [List.getD_cons_succ, List.getD_cons_zero] <;> rfl)) ?_) | (refine plan_pick_f _ _ _ _ (by rfl) (by rfl) (by rfl) (by first | (with_reducible exact Mem.ev_const _ _) | (with_reducible exact Mem.ev_zero _ _ _) | (with_reducible (apply Eq.trans (Mem.ev_tmp _ _ _)); simp only [List.getD_cons_succ, List.getD_cons_zero] <;> rfl)) (by first | (with_reducible exact Mem.ev_const _ _) | (with_reducible exact Mem.ev_zero _ _ _) | (with_reducible (apply Eq.trans (Mem.ev_tmp _ _ _)); simp only [List.getD_cons_succ, List.getD_cons_zero] <;> rfl)) ?_))
          (simp only [Act.put, List.setIfInBounds_toArray, List.set_cons_zero, List.set_cons_succ])
          (first | (refine plan_move _ _ (by rfl) (by rfl) (.inl (by rfl)) (by first | (with_reducible exact Mem.ev_const _ _) | (with_reducible exact Mem.ev_zero _ _ _) | (with_reducible (apply Eq.trans (Mem.ev_tmp _ _ _)); simp only [List.getD_cons_succ, List.getD_cons_zero] <;> rfl)) ?_) | (refine plan_move _ _ (by rfl) (by rfl) (.inr (by rfl)) (by first | (with_reducible exact Mem.ev_const _ _) | (with_reducible exact Mem.ev_zero _ _ _) | (with_reducible (apply Eq.trans (Mem.ev_tmp _ _ _)); simp only [List.getD_cons_succ, List.getD_cons_zero] <;> rfl)) ?_) | (refine plan_pick_t _ _ _ _ (by rfl) (by rfl) (by rfl) (by first | (with_reducible exact Mem.ev_const _ _) | (with_reducible exact Mem.ev_zero _ _ _) | (with_reducible (apply Eq.trans (Mem.ev_tmp _ _ _)); simp only [List.getD_cons_succ, List.getD_cons_zero] <;> rfl)) (by first | (with_reducible exact Mem.ev_const _ _) | (with_reducible exact Mem.ev_zero _ _ _) | (with_reducible (apply Eq.trans (Mem.ev_tmp _ _ _)); simp only [List.getD_cons_succ, List.getD_cons_zero] <;> rfl)) ?_) | (refine plan_pick_f _ _ _ _ (by rfl) (by rfl) (by rfl) (by first | (with_reducible exact Mem.ev_const _ _) | (with_reducible exact Mem.ev_zero _ _ _) | (with_reducible (apply Eq.trans (Mem.ev_tmp _ _ _)); simp only [List.getD_cons_succ, List.getD_cons_zero] <;> rfl)) (by first | (with_reducible exact Mem.ev_const _ _) | (with_reducible exact Mem.ev_zero _ _ _) | (with_reducible (apply Eq.trans (Mem.ev_tmp _ _ _)); simp only [List.getD_cons_succ, List.getD_cons_zero] <;> rfl)) ?_))
          (simp only [Act.put, List.setIfInBounds_toArray, List.set_cons_zero, List.set_cons_succ])
          refine plan_index 96 65 _ _ gw 0 64 cw t2 (by rfl) (by rfl) (by rfl) (by first | (with_reducible exact Mem.ev_const _ _) | (with_reducible exact Mem.ev_zero _ _ _) | (with_reducible (apply Eq.trans (Mem.ev_tmp _ _ _)); simp only [List.getD_cons_succ, List.getD_cons_zero] <;> rfl)) (by first | (with_reducible exact Mem.ev_const _ _) | (with_reducible exact Mem.ev_zero _ _ _) | (with_reducible (apply Eq.trans (Mem.ev_tmp _ _ _)); simp only [List.getD_cons_succ, List.getD_cons_zero] <;> rfl)) (by omega) Tryd.underlying96 (by kernel_rfl) ?_
          (simp only [Act.put, List.setIfInBounds_toArray, List.set_cons_zero, List.set_cons_succ])
          refine plan_cell 65 _ _ _ _ (by rfl) (by rfl) (by rfl) (by first | (with_reducible exact Mem.ev_const _ _) | (with_reducible exact Mem.ev_zero _ _ _) | (with_reducible (apply Eq.trans (Mem.ev_tmp _ _ _)); simp only [List.getD_cons_succ, List.getD_cons_zero] <;> rfl)) (fun w' hw' => (hw'.cell (p := ⟨_, _, none⟩) GW.out).trans CW.out) Tryd.underlying65 (by rfl) ?_
          (simp only [Act.put, List.setIfInBounds_toArray, List.set_cons_zero, List.set_cons_succ])
          refine plan_call 76 _ _ #[.int .u32 (V r.e), .int .i64 6] (by kernel_rfl) (by rfl) (by rfl) (by rfl) (by first | exact Mem.ev_none _ | (simp only [List.map_toArray, List.map_cons, List.map_nil, Mem.ev_tmp, List.getD_cons_succ, List.getD_cons_zero] <;> rfl)) ?_
          with_reducible refine (T6.out _).mono ?_
          rintro e W ⟨rfl, rfl⟩
          refine ⟨_, rfl, B.out, ?_⟩
          (simp only [Act.put, List.setIfInBounds_toArray, List.set_cons_zero, List.set_cons_succ])
          refine plan_call 76 _ _ #[.int .u32 (V r.e), .int .i64 11] (by kernel_rfl) (by rfl) (by rfl) (by rfl) (by first | exact Mem.ev_none _ | (simp only [List.map_toArray, List.map_cons, List.map_nil, Mem.ev_tmp, List.getD_cons_succ, List.getD_cons_zero] <;> rfl)) ?_
          with_reducible refine (T11.out _).mono ?_
          rintro e W ⟨rfl, rfl⟩
          refine ⟨_, rfl, B.out, ?_⟩
          (simp only [Act.put, List.setIfInBounds_toArray, List.set_cons_zero, List.set_cons_succ])
          refine plan_bin _ _ _ _ _ _ _ _ (by rfl) (by rfl) (by rfl) (by first | (with_reducible exact Mem.ev_const _ _) | (with_reducible exact Mem.ev_zero _ _ _) | (with_reducible (apply Eq.trans (Mem.ev_tmp _ _ _)); simp only [List.getD_cons_succ, List.getD_cons_zero] <;> rfl)) (by first | (with_reducible exact Mem.ev_const _ _) | (with_reducible exact Mem.ev_zero _ _ _) | (with_reducible (apply Eq.trans (Mem.ev_tmp _ _ _)); simp only [List.getD_cons_succ, List.getD_cons_zero] <;> rfl)) (fun wx => o_xor _ _ _ _ _ _ wx) ?_
          (simp only [Act.put, List.setIfInBounds_toArray, List.set_cons_zero, List.set_cons_succ])
          refine plan_call 76 _ _ #[.int .u32 (V r.e), .int .i64 25] (by kernel_rfl) (by rfl) (by rfl) (by rfl) (by first | exact Mem.ev_none _ | (simp only [List.map_toArray, List.map_cons, List.map_nil, Mem.ev_tmp, List.getD_cons_succ, List.getD_cons_zero] <;> rfl)) ?_
          with_reducible refine (T25.out _).mono ?_
          rintro e W ⟨rfl, rfl⟩
          refine ⟨_, rfl, B.out, ?_⟩
          (simp only [Act.put, List.setIfInBounds_toArray, List.set_cons_zero, List.set_cons_succ])
          refine plan_bin _ _ _ _ _ _ _ _ (by rfl) (by rfl) (by rfl) (by first | (with_reducible exact Mem.ev_const _ _) | (with_reducible exact Mem.ev_zero _ _ _) | (with_reducible (apply Eq.trans (Mem.ev_tmp _ _ _)); simp only [List.getD_cons_succ, List.getD_cons_zero] <;> rfl)) (by first | (with_reducible exact Mem.ev_const _ _) | (with_reducible exact Mem.ev_zero _ _ _) | (with_reducible (apply Eq.trans (Mem.ev_tmp _ _ _)); simp only [List.getD_cons_succ, List.getD_cons_zero] <;> rfl)) (fun wx => o_xor _ _ _ _ _ _ wx) ?_
          (simp only [Act.put, List.setIfInBounds_toArray, List.set_cons_zero, List.set_cons_succ])
          refine plan_bin _ _ _ _ _ _ _ _ (by rfl) (by rfl) (by rfl) (by first | (with_reducible exact Mem.ev_const _ _) | (with_reducible exact Mem.ev_zero _ _ _) | (with_reducible (apply Eq.trans (Mem.ev_tmp _ _ _)); simp only [List.getD_cons_succ, List.getD_cons_zero] <;> rfl)) (by first | (with_reducible exact Mem.ev_const _ _) | (with_reducible exact Mem.ev_zero _ _ _) | (with_reducible (apply Eq.trans (Mem.ev_tmp _ _ _)); simp only [List.getD_cons_succ, List.getD_cons_zero] <;> rfl)) (fun wx => o_add _ _ _ _ _ _ wx) ?_
          (simp only [Act.put, List.setIfInBounds_toArray, List.set_cons_zero, List.set_cons_succ])
          refine plan_bin _ _ _ _ _ _ _ _ (by rfl) (by rfl) (by rfl) (by first | (with_reducible exact Mem.ev_const _ _) | (with_reducible exact Mem.ev_zero _ _ _) | (with_reducible (apply Eq.trans (Mem.ev_tmp _ _ _)); simp only [List.getD_cons_succ, List.getD_cons_zero] <;> rfl)) (by first | (with_reducible exact Mem.ev_const _ _) | (with_reducible exact Mem.ev_zero _ _ _) | (with_reducible (apply Eq.trans (Mem.ev_tmp _ _ _)); simp only [List.getD_cons_succ, List.getD_cons_zero] <;> rfl)) (fun wx => o_add _ _ _ _ _ _ wx) ?_
          (simp only [Act.put, List.setIfInBounds_toArray, List.set_cons_zero, List.set_cons_succ])
          refine plan_bin _ _ _ _ _ _ _ _ (by rfl) (by rfl) (by rfl) (by first | (with_reducible exact Mem.ev_const _ _) | (with_reducible exact Mem.ev_zero _ _ _) | (with_reducible (apply Eq.trans (Mem.ev_tmp _ _ _)); simp only [List.getD_cons_succ, List.getD_cons_zero] <;> rfl)) (by first | (with_reducible exact Mem.ev_const _ _) | (with_reducible exact Mem.ev_zero _ _ _) | (with_reducible (apply Eq.trans (Mem.ev_tmp _ _ _)); simp only [List.getD_cons_succ, List.getD_cons_zero] <;> rfl)) (fun wx => o_add _ _ _ _ _ _ wx) ?_
          (simp only [Act.put, List.setIfInBounds_toArray, List.set_cons_zero, List.set_cons_succ])
          refine plan_bin _ _ _ _ _ _ _ _ (by rfl) (by rfl) (by rfl) (by first | (with_reducible exact Mem.ev_const _ _) | (with_reducible exact Mem.ev_zero _ _ _) | (with_reducible (apply Eq.trans (Mem.ev_tmp _ _ _)); simp only [List.getD_cons_succ, List.getD_cons_zero] <;> rfl)) (by first | (with_reducible exact Mem.ev_const _ _) | (with_reducible exact Mem.ev_zero _ _ _) | (with_reducible (apply Eq.trans (Mem.ev_tmp _ _ _)); simp only [List.getD_cons_succ, List.getD_cons_zero] <;> rfl)) (fun wx => o_add _ _ _ _ _ _ wx) ?_
          (simp only [Act.put, List.setIfInBounds_toArray, List.set_cons_zero, List.set_cons_succ])
          (first | (refine plan_move _ _ (by rfl) (by rfl) (.inl (by rfl)) (by first | (with_reducible exact Mem.ev_const _ _) | (with_reducible exact Mem.ev_zero _ _ _) | (with_reducible (apply Eq.trans (Mem.ev_tmp _ _ _)); simp only [List.getD_cons_succ, List.getD_cons_zero] <;> rfl)) ?_) | (refine plan_move _ _ (by rfl) (by rfl) (.inr (by rfl)) (by first | (with_reducible exact Mem.ev_const _ _) | (with_reducible exact Mem.ev_zero _ _ _) | (with_reducible (apply Eq.trans (Mem.ev_tmp _ _ _)); simp only [List.getD_cons_succ, List.getD_cons_zero] <;> rfl)) ?_) | (refine plan_pick_t _ _ _ _ (by rfl) (by rfl) (by rfl) (by first | (with_reducible exact Mem.ev_const _ _) | (with_reducible exact Mem.ev_zero _ _ _) | (with_reducible (apply Eq.trans (Mem.ev_tmp _ _ _)); simp only [List.getD_cons_succ, List.getD_cons_zero] <;> rfl)) (by first | (with_reducible exact Mem.ev_const _ _) | (with_reducible exact Mem.ev_zero _ _ _) | (with_reducible (apply Eq.trans (Mem.ev_tmp _ _ _)); simp only [List.getD_cons_succ, List.getD_cons_zero] <;> rfl)) ?_) | (refine plan_pick_f _ _ _ _ (by rfl) (by rfl) (by rfl) (by first | (with_reducible exact Mem.ev_const _ _) | (with_reducible exact Mem.ev_zero _ _ _) | (with_reducible (apply Eq.trans (Mem.ev_tmp _ _ _)); simp only [List.getD_cons_succ, List.getD_cons_zero] <;> rfl)) (by first | (with_reducible exact Mem.ev_const _ _) | (with_reducible exact Mem.ev_zero _ _ _) | (with_reducible (apply Eq.trans (Mem.ev_tmp _ _ _)); simp only [List.getD_cons_succ, List.getD_cons_zero] <;> rfl)) ?_))
          (simp only [Act.put, List.setIfInBounds_toArray, List.set_cons_zero, List.set_cons_succ])
          refine plan_nil ?_
          go_wp2_with fail
          refine wp_region_plan_in (fun w' => Below wr.heap.size wr w') (.take 0 (.take 2 (.take 5 (.take 8 (.take 9 (.take 10 (.take 11 (.take 12 (.take 13 (.take 14 (.take 15 (.take 16 (.take 17 (.take 18 (.take 19 (.take 20 (.take 21 (.take 22 (.take 23 (.take 24 (.take 25 (.take 26 (.sole 1 (.sole 3 (.take 4 (.sole 6 (.take 7 (.take 27 (.take 28 .done))))))))))))))))))))))))))))) (by kernel_rfl) (by kernel_rfl) (by kernel_rfl) B.out.drew ?_
          replace B := Lib.hid B.out.drew
          generalize World.drew _ = W at *
          (first | (refine plan_move _ _ (by rfl) (by rfl) (.inl (by rfl)) (by first | (with_reducible exact Mem.ev_const _ _) | (with_reducible exact Mem.ev_zero _ _ _) | (with_reducible (apply Eq.trans (Mem.ev_tmp _ _ _)); simp only [List.getD_cons_succ, List.getD_cons_zero] <;> rfl)) ?_) | (refine plan_move _ _ (by rfl) (by rfl) (.inr (by rfl)) (by first | (with_reducible exact Mem.ev_const _ _) | (with_reducible exact Mem.ev_zero _ _ _) | (with_reducible (apply Eq.trans (Mem.ev_tmp _ _ _)); simp only [List.getD_cons_succ, List.getD_cons_zero] <;> rfl)) ?_) | (refine plan_pick_t _ _ _ _ (by rfl) (by rfl) (by rfl) (by first | (with_reducible exact Mem.ev_const _ _) | (with_reducible exact Mem.ev_zero _ _ _) | (with_reducible (apply Eq.trans (Mem.ev_tmp _ _ _)); simp only [List.getD_cons_succ, List.getD_cons_zero] <;> rfl)) (by first | (with_reducible exact Mem.ev_const _ _) | (with_reducible exact Mem.ev_zero _ _ _) | (with_reducible (apply Eq.trans (Mem.ev_tmp _ _ _)); simp only [List.getD_cons_succ, List.getD_cons_zero] <;> rfl)) ?_) | (refine plan_pick_f _ _ _ _ (by rfl) (by rfl) (by rfl) (by first | (with_reducible exact Mem.ev_const _ _) | (with_reducible exact Mem.ev_zero _ _ _) | (with_reducible (apply Eq.trans (Mem.ev_tmp _ _ _)); simp only [List.getD_cons_succ, List.getD_cons_zero] <;> rfl)) (by first | (with_reducible exact Mem.ev_const _ _) | (with_reducible exact Mem.ev_zero _ _ _) | (with_reducible (apply Eq.trans (Mem.ev_tmp _ _ _)); simp only [List.getD_cons_succ, List.getD_cons_zero] <;> rfl)) ?_))
          (simp only [Act.put, List.setIfInBounds_toArray, List.set_cons_zero, List.set_cons_succ])
          (first | (refine plan_move _ _ (by rfl) (by rfl) (.inl (by rfl)) (by first | (with_reducible exact Mem.ev_const _ _) | (with_reducible exact Mem.ev_zero _ _ _) | (with_reducible (apply Eq.trans (Mem.ev_tmp _ _ _)); simp only [List.getD_cons_succ, List.getD_cons_zero] <;> rfl)) ?_) | (refine plan_move _ _ (by rfl) (by rfl) (.inr (by rfl)) (by first | (with_reducible exact Mem.ev_const _ _) | (with_reducible exact Mem.ev_zero _ _ _) | (with_reducible (apply Eq.trans (Mem.ev_tmp _ _ _)); simp only [List.getD_cons_succ, List.getD_cons_zero] <;> rfl)) ?_) | (refine plan_pick_t _ _ _ _ (by rfl) (by rfl) (by rfl) (by first | (with_reducible exact Mem.ev_const _ _) | (with_reducible exact Mem.ev_zero _ _ _) | (with_reducible (apply Eq.trans (Mem.ev_tmp _ _ _)); simp only [List.getD_cons_succ, List.getD_cons_zero] <;> rfl)) (by first | (with_reducible exact Mem.ev_const _ _) | (with_reducible exact Mem.ev_zero _ _ _) | (with_reducible (apply Eq.trans (Mem.ev_tmp _ _ _)); simp only [List.getD_cons_succ, List.getD_cons_zero] <;> rfl)) ?_) | (refine plan_pick_f _ _ _ _ (by rfl) (by rfl) (by rfl) (by first | (with_reducible exact Mem.ev_const _ _) | (with_reducible exact Mem.ev_zero _ _ _) | (with_reducible (apply Eq.trans (Mem.ev_tmp _ _ _)); simp only [List.getD_cons_succ, List.getD_cons_zero] <;> rfl)) (by first | (with_reducible exact Mem.ev_const _ _) | (with_reducible exact Mem.ev_zero _ _ _) | (with_reducible (apply Eq.trans (Mem.ev_tmp _ _ _)); simp only [List.getD_cons_succ, List.getD_cons_zero] <;> rfl)) ?_))
          (simp only [Act.put, List.setIfInBounds_toArray, List.set_cons_zero, List.set_cons_succ])
          (first | (refine plan_move _ _ (by rfl) (by rfl) (.inl (by rfl)) (by first | (with_reducible exact Mem.ev_const _ _) | (with_reducible exact Mem.ev_zero _ _ _) | (with_reducible (apply Eq.trans (Mem.ev_tmp _ _ _)); simp only [List.getD_cons_succ, List.getD_cons_zero] <;> rfl)) ?_) | (refine plan_move _ _ (by rfl) (by rfl) (.inr (by rfl)) (by first | (with_reducible exact Mem.ev_const _ _) | (with_reducible exact Mem.ev_zero _ _ _) | (with_reducible (apply Eq.trans (Mem.ev_tmp _ _ _)); simp only [List.getD_cons_succ, List.getD_cons_zero] <;> rfl)) ?_) | (refine plan_pick_t _ _ _ _ (by rfl) (by rfl) (by rfl) (by first | (with_reducible exact Mem.ev_const _ _) | (with_reducible exact Mem.ev_zero _ _ _) | (with_reducible (apply Eq.trans (Mem.ev_tmp _ _ _)); simp only [List.getD_cons_succ, List.getD_cons_zero] <;> rfl)) (by first | (with_reducible exact Mem.ev_const _ _) | (with_reducible exact Mem.ev_zero _ _ _) | (with_reducible (apply Eq.trans (Mem.ev_tmp _ _ _)); simp only [List.getD_cons_succ, List.getD_cons_zero] <;> rfl)) ?_) | (refine plan_pick_f _ _ _ _ (by rfl) (by rfl) (by rfl) (by first | (with_reducible exact Mem.ev_const _ _) | (with_reducible exact Mem.ev_zero _ _ _) | (with_reducible (apply Eq.trans (Mem.ev_tmp _ _ _)); simp only [List.getD_cons_succ, List.getD_cons_zero] <;> rfl)) (by first | (with_reducible exact Mem.ev_const _ _) | (with_reducible exact Mem.ev_zero _ _ _) | (with_reducible (apply Eq.trans (Mem.ev_tmp _ _ _)); simp only [List.getD_cons_succ, List.getD_cons_zero] <;> rfl)) ?_))
          (simp only [Act.put, List.setIfInBounds_toArray, List.set_cons_zero, List.set_cons_succ])
          (first | (refine plan_move _ _ (by rfl) (by rfl) (.inl (by rfl)) (by first | (with_reducible exact Mem.ev_const _ _) | (with_reducible exact Mem.ev_zero _ _ _) | (with_reducible (apply Eq.trans (Mem.ev_tmp _ _ _)); simp only [List.getD_cons_succ, List.getD_cons_zero] <;> rfl)) ?_) | (refine plan_move _ _ (by rfl) (by rfl) (.inr (by rfl)) (by first | (with_reducible exact Mem.ev_const _ _) | (with_reducible exact Mem.ev_zero _ _ _) | (with_reducible (apply Eq.trans (Mem.ev_tmp _ _ _)); simp only [List.getD_cons_succ, List.getD_cons_zero] <;> rfl)) ?_) | (refine plan_pick_t _ _ _ _ (by rfl) (by rfl) (by rfl) (by first | (with_reducible exact Mem.ev_const _ _) | (with_reducible exact Mem.ev_zero _ _ _) | (with_reducible (apply Eq.trans (Mem.ev_tmp _ _ _)); simp only [List.getD_cons_succ, List.getD_cons_zero] <;> rfl)) (by first | (with_reducible exact Mem.ev_const _ _) | (with_reducible exact Mem.ev_zero _ _ _) | (with_reducible (apply Eq.trans (Mem.ev_tmp _ _ _)); simp only [List.getD_cons_succ, List.getD_cons_zero] <;> rfl)) ?_) | (refine plan_pick_f _ _ _ _ (by rfl) (by rfl) (by rfl) (by first | (with_reducible exact Mem.ev_const _ _) | (with_reducible exact Mem.ev_zero _ _ _) | (with_reducible (apply Eq.trans (Mem.ev_tmp _ _ _)); simp only [List.getD_cons_succ, List.getD_cons_zero] <;> rfl)) (by first | (with_reducible exact Mem.ev_const _ _) | (with_reducible exact Mem.ev_zero _ _ _) | (with_reducible (apply Eq.trans (Mem.ev_tmp _ _ _)); simp only [List.getD_cons_succ, List.getD_cons_zero] <;> rfl)) ?_))
          (simp only [Act.put, List.setIfInBounds_toArray, List.set_cons_zero, List.set_cons_succ])
          (first | (refine plan_move _ _ (by rfl) (by rfl) (.inl (by rfl)) (by first | (with_reducible exact Mem.ev_const _ _) | (with_reducible exact Mem.ev_zero _ _ _) | (with_reducible (apply Eq.trans (Mem.ev_tmp _ _ _)); simp only [List.getD_cons_succ, List.getD_cons_zero] <;> rfl)) ?_) | (refine plan_move _ _ (by rfl) (by rfl) (.inr (by rfl)) (by first | (with_reducible exact Mem.ev_const _ _) | (with_reducible exact Mem.ev_zero _ _ _) | (with_reducible (apply Eq.trans (Mem.ev_tmp _ _ _)); simp only [List.getD_cons_succ, List.getD_cons_zero] <;> rfl)) ?_) | (refine plan_pick_t _ _ _ _ (by rfl) (by rfl) (by rfl) (by first | (with_reducible exact Mem.ev_const _ _) | (with_reducible exact Mem.ev_zero _ _ _) | (with_reducible (apply Eq.trans (Mem.ev_tmp _ _ _)); simp only [List.getD_cons_succ, List.getD_cons_zero] <;> rfl)) (by first | (with_reducible exact Mem.ev_const _ _) | (with_reducible exact Mem.ev_zero _ _ _) | (with_reducible (apply Eq.trans (Mem.ev_tmp _ _ _)); simp only [List.getD_cons_succ, List.getD_cons_zero] <;> rfl)) ?_) | (refine plan_pick_f _ _ _ _ (by rfl) (by rfl) (by rfl) (by first | (with_reducible exact Mem.ev_const _ _) | (with_reducible exact Mem.ev_zero _ _ _) | (with_reducible (apply Eq.trans (Mem.ev_tmp _ _ _)); simp only [List.getD_cons_succ, List.getD_cons_zero] <;> rfl)) (by first | (with_reducible exact Mem.ev_const _ _) | (with_reducible exact Mem.ev_zero _ _ _) | (with_reducible (apply Eq.trans (Mem.ev_tmp _ _ _)); simp only [List.getD_cons_succ, List.getD_cons_zero] <;> rfl)) ?_))
          (simp only [Act.put, List.setIfInBounds_toArray, List.set_cons_zero, List.set_cons_succ])
          refine plan_index 96 65 _ _ gx 0 8 cx 1 (by rfl) (by rfl) (by rfl) (by first | (with_reducible exact Mem.ev_const _ _) | (with_reducible exact Mem.ev_zero _ _ _) | (with_reducible (apply Eq.trans (Mem.ev_tmp _ _ _)); simp only [List.getD_cons_succ, List.getD_cons_zero] <;> rfl)) (by rfl) (by omega) Tryd.underlying96 (by kernel_rfl) ?_
          (simp only [Act.put, List.setIfInBounds_toArray, List.set_cons_zero, List.set_cons_succ])
          refine plan_cell 65 _ _ _ _ (by rfl) (by rfl) (by rfl) (by first | (with_reducible exact Mem.ev_const _ _) | (with_reducible exact Mem.ev_zero _ _ _) | (with_reducible (apply Eq.trans (Mem.ev_tmp _ _ _)); simp only [List.getD_cons_succ, List.getD_cons_zero] <;> rfl)) (fun w' hw' => (hw'.cell (p := ⟨_, _, none⟩) GX.out).trans X1.out) Tryd.underlying65 (by rfl) ?_
          (simp only [Act.put, List.setIfInBounds_toArray, List.set_cons_zero, List.set_cons_succ])
          refine plan_bin _ _ _ _ _ _ _ _ (by rfl) (by rfl) (by rfl) (by first | (with_reducible exact Mem.ev_const _ _) | (with_reducible exact Mem.ev_zero _ _ _) | (with_reducible (apply Eq.trans (Mem.ev_tmp _ _ _)); simp only [List.getD_cons_succ, List.getD_cons_zero] <;> rfl)) (by first | (with_reducible exact Mem.ev_const _ _) | (with_reducible exact Mem.ev_zero _ _ _) | (with_reducible (apply Eq.trans (Mem.ev_tmp _ _ _)); simp only [List.getD_cons_succ, List.getD_cons_zero] <;> rfl)) (fun wx => o_and _ _ _ _ _ _ wx) ?_
          (simp only [Act.put, List.setIfInBounds_toArray, List.set_cons_zero, List.set_cons_succ])
          (first | (refine plan_move _ _ (by rfl) (by rfl) (.inl (by rfl)) (by first | (with_reducible exact Mem.ev_const _ _) | (with_reducible exact Mem.ev_zero _ _ _) | (with_reducible (apply Eq.trans (Mem.ev_tmp _ _ _)); simp only [List.getD_cons_succ, List.getD_cons_zero] <;> rfl)) ?_) | (refine plan_move _ _ (by rfl) (by rfl) (.inr (by rfl)) (by first | (with_reducible exact Mem.ev_const _ _) | (with_reducible exact Mem.ev_zero _ _ _) | (with_reducible (apply Eq.trans (Mem.ev_tmp _ _ _)); simp only [List.getD_cons_succ, List.getD_cons_zero] <;> rfl)) ?_) | (refine plan_pick_t _ _ _ _ (by rfl) (by rfl) (by rfl) (by first | (with_reducible exact Mem.ev_const _ _) | (with_reducible exact Mem.ev_zero _ _ _) | (with_reducible (apply Eq.trans (Mem.ev_tmp _ _ _)); simp only [List.getD_cons_succ, List.getD_cons_zero] <;> rfl)) (by first | (with_reducible exact Mem.ev_const _ _) | (with_reducible exact Mem.ev_zero _ _ _) | (with_reducible (apply Eq.trans (Mem.ev_tmp _ _ _)); simp only [List.getD_cons_succ, List.getD_cons_zero] <;> rfl)) ?_) | (refine plan_pick_f _ _ _ _ (by rfl) (by rfl) (by rfl) (by first | (with_reducible exact Mem.ev_const _ _) | (with_reducible exact Mem.ev_zero _ _ _) | (with_reducible (apply Eq.trans (Mem.ev_tmp _ _ _)); simp only [List.getD_cons_succ, List.getD_cons_zero] <;> rfl)) (by first | (with_reducible exact Mem.ev_const _ _) | (with_reducible exact Mem.ev_zero _ _ _) | (with_reducible (apply Eq.trans (Mem.ev_tmp _ _ _)); simp only [List.getD_cons_succ, List.getD_cons_zero] <;> rfl)) ?_))
          (simp only [Act.put, List.setIfInBounds_toArray, List.set_cons_zero, List.set_cons_succ])
          (first | (refine plan_move _ _ (by rfl) (by rfl) (.inl (by rfl)) (by first | (with_reducible exact Mem.ev_const _ _) | (with_reducible exact Mem.ev_zero _ _ _) | (with_reducible (apply Eq.trans (Mem.ev_tmp _ _ _)); simp only [List.getD_cons_succ, List.getD_cons_zero] <;> rfl)) ?_) | (refine plan_move _ _ (by rfl) (by rfl) (.inr (by rfl)) (by first | (with_reducible exact Mem.ev_const _ _) | (with_reducible exact Mem.ev_zero _ _ _) | (with_reducible (apply Eq.trans (Mem.ev_tmp _ _ _)); simp only [List.getD_cons_succ, List.getD_cons_zero] <;> rfl)) ?_) | (refine plan_pick_t _ _ _ _ (by rfl) (by rfl) (by rfl) (by first | (with_reducible exact Mem.ev_const _ _) | (with_reducible exact Mem.ev_zero _ _ _) | (with_reducible (apply Eq.trans (Mem.ev_tmp _ _ _)); simp only [List.getD_cons_succ, List.getD_cons_zero] <;> rfl)) (by first | (with_reducible exact Mem.ev_const _ _) | (with_reducible exact Mem.ev_zero _ _ _) | (with_reducible (apply Eq.trans (Mem.ev_tmp _ _ _)); simp only [List.getD_cons_succ, List.getD_cons_zero] <;> rfl)) ?_) | (refine plan_pick_f _ _ _ _ (by rfl) (by rfl) (by rfl) (by first | (with_reducible exact Mem.ev_const _ _) | (with_reducible exact Mem.ev_zero _ _ _) | (with_reducible (apply Eq.trans (Mem.ev_tmp _ _ _)); simp only [List.getD_cons_succ, List.getD_cons_zero] <;> rfl)) (by first | (with_reducible exact Mem.ev_const _ _) | (with_reducible exact Mem.ev_zero _ _ _) | (with_reducible (apply Eq.trans (Mem.ev_tmp _ _ _)); simp only [List.getD_cons_succ, List.getD_cons_zero] <;> rfl)) ?_))
          (simp only [Act.put, List.setIfInBounds_toArray, List.set_cons_zero, List.set_cons_succ])
          refine plan_index 96 65 _ _ gx 0 8 cx 2 (by rfl) (by rfl) (by rfl) (by first | (with_reducible exact Mem.ev_const _ _) | (with_reducible exact Mem.ev_zero _ _ _) | (with_reducible (apply Eq.trans (Mem.ev_tmp _ _ _)); simp only [List.getD_cons_succ, List.getD_cons_zero] <;> rfl)) (by rfl) (by omega) Tryd.underlying96 (by kernel_rfl) ?_
          (simp only [Act.put, List.setIfInBounds_toArray, List.set_cons_zero, List.set_cons_succ])
          refine plan_cell 65 _ _ _ _ (by rfl) (by rfl) (by rfl) (by first | (with_reducible exact Mem.ev_const _ _) | (with_reducible exact Mem.ev_zero _ _ _) | (with_reducible (apply Eq.trans (Mem.ev_tmp _ _ _)); simp only [List.getD_cons_succ, List.getD_cons_zero] <;> rfl)) (fun w' hw' => (hw'.cell (p := ⟨_, _, none⟩) GX.out).trans X2.out) Tryd.underlying65 (by rfl) ?_
          (simp only [Act.put, List.setIfInBounds_toArray, List.set_cons_zero, List.set_cons_succ])
          refine plan_bin _ _ _ _ _ _ _ _ (by rfl) (by rfl) (by rfl) (by first | (with_reducible exact Mem.ev_const _ _) | (with_reducible exact Mem.ev_zero _ _ _) | (with_reducible (apply Eq.trans (Mem.ev_tmp _ _ _)); simp only [List.getD_cons_succ, List.getD_cons_zero] <;> rfl)) (by first | (with_reducible exact Mem.ev_const _ _) | (with_reducible exact Mem.ev_zero _ _ _) | (with_reducible (apply Eq.trans (Mem.ev_tmp _ _ _)); simp only [List.getD_cons_succ, List.getD_cons_zero] <;> rfl)) (fun wx => o_and _ _ _ _ _ _ wx) ?_
          (simp only [Act.put, List.setIfInBounds_toArray, List.set_cons_zero, List.set_cons_succ])
          refine plan_bin _ _ _ _ _ _ _ _ (by rfl) (by rfl) (by rfl) (by first | (with_reducible exact Mem.ev_const _ _) | (with_reducible exact Mem.ev_zero _ _ _) | (with_reducible (apply Eq.trans (Mem.ev_tmp _ _ _)); simp only [List.getD_cons_succ, List.getD_cons_zero] <;> rfl)) (by first | (with_reducible exact Mem.ev_const _ _) | (with_reducible exact Mem.ev_zero _ _ _) | (with_reducible (apply Eq.trans (Mem.ev_tmp _ _ _)); simp only [List.getD_cons_succ, List.getD_cons_zero] <;> rfl)) (fun wx => o_xor _ _ _ _ _ _ wx) ?_
          (simp only [Act.put, List.setIfInBounds_toArray, List.set_cons_zero, List.set_cons_succ])
          (first | (refine plan_move _ _ (by rfl) (by rfl) (.inl (by rfl)) (by first | (with_reducible exact Mem.ev_const _ _) | (with_reducible exact Mem.ev_zero _ _ _) | (with_reducible (apply Eq.trans (Mem.ev_tmp _ _ _)); simp only [List.getD_cons_succ, List.getD_cons_zero] <;> rfl)) ?_) | (refine plan_move _ _ (by rfl) (by rfl) (.inr (by rfl)) (by first | (with_reducible exact Mem.ev_const _ _) | (with_reducible exact Mem.ev_zero _ _ _) | (with_reducible (apply Eq.trans (Mem.ev_tmp _ _ _)); simp only [List.getD_cons_succ, List.getD_cons_zero] <;> rfl)) ?_) | (refine plan_pick_t _ _ _ _ (by rfl) (by rfl) (by rfl) (by first | (with_reducible exact Mem.ev_const _ _) | (with_reducible exact Mem.ev_zero _ _ _) | (with_reducible (apply Eq.trans (Mem.ev_tmp _ _ _)); simp only [List.getD_cons_succ, List.getD_cons_zero] <;> rfl)) (by first | (with_reducible exact Mem.ev_const _ _) | (with_reducible exact Mem.ev_zero _ _ _) | (with_reducible (apply Eq.trans (Mem.ev_tmp _ _ _)); simp only [List.getD_cons_succ, List.getD_cons_zero] <;> rfl)) ?_) | (refine plan_pick_f _ _ _ _ (by rfl) (by rfl) (by rfl) (by first | (with_reducible exact Mem.ev_const _ _) | (with_reducible exact Mem.ev_zero _ _ _) | (with_reducible (apply Eq.trans (Mem.ev_tmp _ _ _)); simp only [List.getD_cons_succ, List.getD_cons_zero] <;> rfl)) (by first | (with_reducible exact Mem.ev_const _ _) | (with_reducible exact Mem.ev_zero _ _ _) | (with_reducible (apply Eq.trans (Mem.ev_tmp _ _ _)); simp only [List.getD_cons_succ, List.getD_cons_zero] <;> rfl)) ?_))
          (simp only [Act.put, List.setIfInBounds_toArray, List.set_cons_zero, List.set_cons_succ])
          refine plan_index 96 65 _ _ gx 0 8 cx 1 (by rfl) (by rfl) (by rfl) (by first | (with_reducible exact Mem.ev_const _ _) | (with_reducible exact Mem.ev_zero _ _ _) | (with_reducible (apply Eq.trans (Mem.ev_tmp _ _ _)); simp only [List.getD_cons_succ, List.getD_cons_zero] <;> rfl)) (by rfl) (by omega) Tryd.underlying96 (by kernel_rfl) ?_
          (simp only [Act.put, List.setIfInBounds_toArray, List.set_cons_zero, List.set_cons_succ])
          refine plan_cell 65 _ _ _ _ (by rfl) (by rfl) (by rfl) (by first | (with_reducible exact Mem.ev_const _ _) | (with_reducible exact Mem.ev_zero _ _ _) | (with_reducible (apply Eq.trans (Mem.ev_tmp _ _ _)); simp only [List.getD_cons_succ, List.getD_cons_zero] <;> rfl)) (fun w' hw' => (hw'.cell (p := ⟨_, _, none⟩) GX.out).trans X1.out) Tryd.underlying65 (by rfl) ?_
          (simp only [Act.put, List.setIfInBounds_toArray, List.set_cons_zero, List.set_cons_succ])
          (first | (refine plan_move _ _ (by rfl) (by rfl) (.inl (by rfl)) (by first | (with_reducible exact Mem.ev_const _ _) | (with_reducible exact Mem.ev_zero _ _ _) | (with_reducible (apply Eq.trans (Mem.ev_tmp _ _ _)); simp only [List.getD_cons_succ, List.getD_cons_zero] <;> rfl)) ?_) | (refine plan_move _ _ (by rfl) (by rfl) (.inr (by rfl)) (by first | (with_reducible exact Mem.ev_const _ _) | (with_reducible exact Mem.ev_zero _ _ _) | (with_reducible (apply Eq.trans (Mem.ev_tmp _ _ _)); simp only [List.getD_cons_succ, List.getD_cons_zero] <;> rfl)) ?_) | (refine plan_pick_t _ _ _ _ (by rfl) (by rfl) (by rfl) (by first | (with_reducible exact Mem.ev_const _ _) | (with_reducible exact Mem.ev_zero _ _ _) | (with_reducible (apply Eq.trans (Mem.ev_tmp _ _ _)); simp only [List.getD_cons_succ, List.getD_cons_zero] <;> rfl)) (by first | (with_reducible exact Mem.ev_const _ _) | (with_reducible exact Mem.ev_zero _ _ _) | (with_reducible (apply Eq.trans (Mem.ev_tmp _ _ _)); simp only [List.getD_cons_succ, List.getD_cons_zero] <;> rfl)) ?_) | (refine plan_pick_f _ _ _ _ (by rfl) (by rfl) (by rfl) (by first | (with_reducible exact Mem.ev_const _ _) | (with_reducible exact Mem.ev_zero _ _ _) | (with_reducible (apply Eq.trans (Mem.ev_tmp _ _ _)); simp only [List.getD_cons_succ, List.getD_cons_zero] <;> rfl)) (by first | (with_reducible exact Mem.ev_const _ _) | (with_reducible exact Mem.ev_zero _ _ _) | (with_reducible (apply Eq.trans (Mem.ev_tmp _ _ _)); simp only [List.getD_cons_succ, List.getD_cons_zero] <;> rfl)) ?_))
          (simp only [Act.put, List.setIfInBounds_toArray, List.set_cons_zero, List.set_cons_succ])
          refine plan_index 96 65 _ _ gx 0 8 cx 2 (by rfl) (by rfl) (by rfl) (by first | (with_reducible exact Mem.ev_const _ _) | (with_reducible exact Mem.ev_zero _ _ _) | (with_reducible (apply Eq.trans (Mem.ev_tmp _ _ _)); simp only [List.getD_cons_succ, List.getD_cons_zero] <;> rfl)) (by rfl) (by omega) Tryd.underlying96 (by kernel_rfl) ?_
          (simp only [Act.put, List.setIfInBounds_toArray, List.set_cons_zero, List.set_cons_succ])
          refine plan_cell 65 _ _ _ _ (by rfl) (by rfl) (by rfl) (by first | (with_reducible exact Mem.ev_const _ _) | (with_reducible exact Mem.ev_zero _ _ _) | (with_reducible (apply Eq.trans (Mem.ev_tmp _ _ _)); simp only [List.getD_cons_succ, List.getD_cons_zero] <;> rfl)) (fun w' hw' => (hw'.cell (p := ⟨_, _, none⟩) GX.out).trans X2.out) Tryd.underlying65 (by rfl) ?_
          (simp only [Act.put, List.setIfInBounds_toArray, List.set_cons_zero, List.set_cons_succ])
          refine plan_bin _ _ _ _ _ _ _ _ (by rfl) (by rfl) (by rfl) (by first | (with_reducible exact Mem.ev_const _ _) | (with_reducible exact Mem.ev_zero _ _ _) | (with_reducible (apply Eq.trans (Mem.ev_tmp _ _ _)); simp only [List.getD_cons_succ, List.getD_cons_zero] <;> rfl)) (by first | (with_reducible exact Mem.ev_const _ _) | (with_reducible exact Mem.ev_zero _ _ _) | (with_reducible (apply Eq.trans (Mem.ev_tmp _ _ _)); simp only [List.getD_cons_succ, List.getD_cons_zero] <;> rfl)) (fun wx => o_and _ _ _ _ _ _ wx) ?_
          (simp only [Act.put, List.setIfInBounds_toArray, List.set_cons_zero, List.set_cons_succ])
          refine plan_bin _ _ _ _ _ _ _ _ (by rfl) (by rfl) (by rfl) (by first | (with_reducible exact Mem.ev_const _ _) | (with_reducible exact Mem.ev_zero _ _ _) | (with_reducible (apply Eq.trans (Mem.ev_tmp _ _ _)); simp only [List.getD_cons_succ, List.getD_cons_zero] <;> rfl)) (by first | (with_reducible exact Mem.ev_const _ _) | (with_reducible exact Mem.ev_zero _ _ _) | (with_reducible (apply Eq.trans (Mem.ev_tmp _ _ _)); simp only [List.getD_cons_succ, List.getD_cons_zero] <;> rfl)) (fun wx => o_xor _ _ _ _ _ _ wx) ?_
          (simp only [Act.put, List.setIfInBounds_toArray, List.set_cons_zero, List.set_cons_succ])
          refine plan_call 76 _ _ #[.int .u32 (V r.a), .int .i64 2] (by kernel_rfl) (by rfl) (by rfl) (by rfl) (by first | exact Mem.ev_none _ | (simp only [List.map_toArray, List.map_cons, List.map_nil, Mem.ev_tmp, List.getD_cons_succ, List.getD_cons_zero] <;> rfl)) ?_
          with_reducible refine (T2.out _).mono ?_
          rintro e W ⟨rfl, rfl⟩
          refine ⟨_, rfl, B.out, ?_⟩
          (simp only [Act.put, List.setIfInBounds_toArray, List.set_cons_zero, List.set_cons_succ])
          refine plan_call 76 _ _ #[.int .u32 (V r.a), .int .i64 13] (by kernel_rfl) (by rfl) (by rfl) (by rfl) (by first | exact Mem.ev_none _ | (simp only [List.map_toArray, List.map_cons, List.map_nil, Mem.ev_tmp, List.getD_cons_succ, List.getD_cons_zero] <;> rfl)) ?_
          with_reducible refine (T13.out _).mono ?_
          rintro e W ⟨rfl, rfl⟩
          refine ⟨_, rfl, B.out, ?_⟩
          (simp only [Act.put, List.setIfInBounds_toArray, List.set_cons_zero, List.set_cons_succ])
          refine plan_bin _ _ _ _ _ _ _ _ (by rfl) (by rfl) (by rfl) (by first | (with_reducible exact Mem.ev_const _ _) | (with_reducible exact Mem.ev_zero _ _ _) | (with_reducible (apply Eq.trans (Mem.ev_tmp _ _ _)); simp only [List.getD_cons_succ, List.getD_cons_zero] <;> rfl)) (by first | (with_reducible exact Mem.ev_const _ _) | (with_reducible exact Mem.ev_zero _ _ _) | (with_reducible (apply Eq.trans (Mem.ev_tmp _ _ _)); simp only [List.getD_cons_succ, List.getD_cons_zero] <;> rfl)) (fun wx => o_xor _ _ _ _ _ _ wx) ?_
          (simp only [Act.put, List.setIfInBounds_toArray, List.set_cons_zero, List.set_cons_succ])
          refine plan_call 76 _ _ #[.int .u32 (V r.a), .int .i64 22] (by kernel_rfl) (by rfl) (by rfl) (by rfl) (by first | exact Mem.ev_none _ | (simp only [List.map_toArray, List.map_cons, List.map_nil, Mem.ev_tmp, List.getD_cons_succ, List.getD_cons_zero] <;> rfl)) ?_
          with_reducible refine (T22.out _).mono ?_
          rintro e W ⟨rfl, rfl⟩
          refine ⟨_, rfl, B.out, ?_⟩
          (simp only [Act.put, List.setIfInBounds_toArray, List.set_cons_zero, List.set_cons_succ])
          refine plan_bin _ _ _ _ _ _ _ _ (by rfl) (by rfl) (by rfl) (by first | (with_reducible exact Mem.ev_const _ _) | (with_reducible exact Mem.ev_zero _ _ _) | (with_reducible (apply Eq.trans (Mem.ev_tmp _ _ _)); simp only [List.getD_cons_succ, List.getD_cons_zero] <;> rfl)) (by first | (with_reducible exact Mem.ev_const _ _) | (with_reducible exact Mem.ev_zero _ _ _) | (with_reducible (apply Eq.trans (Mem.ev_tmp _ _ _)); simp only [List.getD_cons_succ, List.getD_cons_zero] <;> rfl)) (fun wx => o_xor _ _ _ _ _ _ wx) ?_
          (simp only [Act.put, List.setIfInBounds_toArray, List.set_cons_zero, List.set_cons_succ])
          refine plan_bin _ _ _ _ _ _ _ _ (by rfl) (by rfl) (by rfl) (by first | (with_reducible exact Mem.ev_const _ _) | (with_reducible exact Mem.ev_zero _ _ _) | (with_reducible (apply Eq.trans (Mem.ev_tmp _ _ _)); simp only [List.getD_cons_succ, List.getD_cons_zero] <;> rfl)) (by first | (with_reducible exact Mem.ev_const _ _) | (with_reducible exact Mem.ev_zero _ _ _) | (with_reducible (apply Eq.trans (Mem.ev_tmp _ _ _)); simp only [List.getD_cons_succ, List.getD_cons_zero] <;> rfl)) (fun wx => o_add _ _ _ _ _ _ wx) ?_
          (simp only [Act.put, List.setIfInBounds_toArray, List.set_cons_zero, List.set_cons_succ])
          (first | (refine plan_move _ _ (by rfl) (by rfl) (.inl (by rfl)) (by first | (with_reducible exact Mem.ev_const _ _) | (with_reducible exact Mem.ev_zero _ _ _) | (with_reducible (apply Eq.trans (Mem.ev_tmp _ _ _)); simp only [List.getD_cons_succ, List.getD_cons_zero] <;> rfl)) ?_) | (refine plan_move _ _ (by rfl) (by rfl) (.inr (by rfl)) (by first | (with_reducible exact Mem.ev_const _ _) | (with_reducible exact Mem.ev_zero _ _ _) | (with_reducible (apply Eq.trans (Mem.ev_tmp _ _ _)); simp only [List.getD_cons_succ, List.getD_cons_zero] <;> rfl)) ?_) | (refine plan_pick_t _ _ _ _ (by rfl) (by rfl) (by rfl) (by first | (with_reducible exact Mem.ev_const _ _) | (with_reducible exact Mem.ev_zero _ _ _) | (with_reducible (apply Eq.trans (Mem.ev_tmp _ _ _)); simp only [List.getD_cons_succ, List.getD_cons_zero] <;> rfl)) (by first | (with_reducible exact Mem.ev_const _ _) | (with_reducible exact Mem.ev_zero _ _ _) | (with_reducible (apply Eq.trans (Mem.ev_tmp _ _ _)); simp only [List.getD_cons_succ, List.getD_cons_zero] <;> rfl)) ?_) | (refine plan_pick_f _ _ _ _ (by rfl) (by rfl) (by rfl) (by first | (with_reducible exact Mem.ev_const _ _) | (with_reducible exact Mem.ev_zero _ _ _) | (with_reducible (apply Eq.trans (Mem.ev_tmp _ _ _)); simp only [List.getD_cons_succ, List.getD_cons_zero] <;> rfl)) (by first | (with_reducible exact Mem.ev_const _ _) | (with_reducible exact Mem.ev_zero _ _ _) | (with_reducible (apply Eq.trans (Mem.ev_tmp _ _ _)); simp only [List.getD_cons_succ, List.getD_cons_zero] <;> rfl)) ?_))
          (simp only [Act.put, List.setIfInBounds_toArray, List.set_cons_zero, List.set_cons_succ])
          refine plan_nil ?_
          go_wp2_with fail
          refine wp_region_plan_in (fun w' => Below wr.heap.size wr w') (.take 0 (.take 1 (.take 2 (.take 3 (.take 4 (.take 5 (.take 6 (.take 7 (.take 8 (.take 9 (.take 10 (.take 11 (.take 12 (.take 13 (.take 14 (.take 15 (.take 16 (.take 17 (.take 18 (.take 19 (.take 20 (.take 21 (.take 22 (.take 23 (.take 24 (.take 25 (.sole 26 (.take 27 .done)))))))))))))))))))))))))))) (by kernel_rfl) (by kernel_rfl) (by kernel_rfl) B.out.drew ?_
          replace B := Lib.hid B.out.drew
          generalize World.drew _ = W at *
          (first | (refine plan_move _ _ (by rfl) (by rfl) (.inl (by rfl)) (by first | (with_reducible exact Mem.ev_const _ _) | (with_reducible exact Mem.ev_zero _ _ _) | (with_reducible (apply Eq.trans (Mem.ev_tmp _ _ _)); simp only [List.getD_cons_succ, List.getD_cons_zero] <;> rfl)) ?_) | (refine plan_move _ _ (by rfl) (by rfl) (.inr (by rfl)) (by first | (with_reducible exact Mem.ev_const _ _) | (with_reducible exact Mem.ev_zero _ _ _) | (with_reducible (apply Eq.trans (Mem.ev_tmp _ _ _)); simp only [List.getD_cons_succ, List.getD_cons_zero] <;> rfl)) ?_) | (refine plan_pick_t _ _ _ _ (by rfl) (by rfl) (by rfl) (by first | (with_reducible exact Mem.ev_const _ _) | (with_reducible exact Mem.ev_zero _ _ _) | (with_reducible (apply Eq.trans (Mem.ev_tmp _ _ _)); simp only [List.getD_cons_succ, List.getD_cons_zero] <;> rfl)) (by first | (with_reducible exact Mem.ev_const _ _) | (with_reducible exact Mem.ev_zero _ _ _) | (with_reducible (apply Eq.trans (Mem.ev_tmp _ _ _)); simp only [List.getD_cons_succ, List.getD_cons_zero] <;> rfl)) ?_) | (refine plan_pick_f _ _ _ _ (by rfl) (by rfl) (by rfl) (by first | (with_reducible exact Mem.ev_const _ _) | (with_reducible exact Mem.ev_zero _ _ _) | (with_reducible (apply Eq.trans (Mem.ev_tmp _ _ _)); simp only [List.getD_cons_succ, List.getD_cons_zero] <;> rfl)) (by first | (with_reducible exact Mem.ev_const _ _) | (with_reducible exact Mem.ev_zero _ _ _) | (with_reducible (apply Eq.trans (Mem.ev_tmp _ _ _)); simp only [List.getD_cons_succ, List.getD_cons_zero] <;> rfl)) ?_))
          (simp only [Act.put, List.setIfInBounds_toArray, List.set_cons_zero, List.set_cons_succ])
          (first | (refine plan_move _ _ (by rfl) (by rfl) (.inl (by rfl)) (by first | (with_reducible exact Mem.ev_const _ _) | (with_reducible exact Mem.ev_zero _ _ _) | (with_reducible (apply Eq.trans (Mem.ev_tmp _ _ _)); simp only [List.getD_cons_succ, List.getD_cons_zero] <;> rfl)) ?_) | (refine plan_move _ _ (by rfl) (by rfl) (.inr (by rfl)) (by first | (with_reducible exact Mem.ev_const _ _) | (with_reducible exact Mem.ev_zero _ _ _) | (with_reducible (apply Eq.trans (Mem.ev_tmp _ _ _)); simp only [List.getD_cons_succ, List.getD_cons_zero] <;> rfl)) ?_) | (refine plan_pick_t _ _ _ _ (by rfl) (by rfl) (by rfl) (by first | (with_reducible exact Mem.ev_const _ _) | (with_reducible exact Mem.ev_zero _ _ _) | (with_reducible (apply Eq.trans (Mem.ev_tmp _ _ _)); simp only [List.getD_cons_succ, List.getD_cons_zero] <;> rfl)) (by first | (with_reducible exact Mem.ev_const _ _) | (with_reducible exact Mem.ev_zero _ _ _) | (with_reducible (apply Eq.trans (Mem.ev_tmp _ _ _)); simp only [List.getD_cons_succ, List.getD_cons_zero] <;> rfl)) ?_) | (refine plan_pick_f _ _ _ _ (by rfl) (by rfl) (by rfl) (by first | (with_reducible exact Mem.ev_const _ _) | (with_reducible exact Mem.ev_zero _ _ _) | (with_reducible (apply Eq.trans (Mem.ev_tmp _ _ _)); simp only [List.getD_cons_succ, List.getD_cons_zero] <;> rfl)) (by first | (with_reducible exact Mem.ev_const _ _) | (with_reducible exact Mem.ev_zero _ _ _) | (with_reducible (apply Eq.trans (Mem.ev_tmp _ _ _)); simp only [List.getD_cons_succ, List.getD_cons_zero] <;> rfl)) ?_))
          (simp only [Act.put, List.setIfInBounds_toArray, List.set_cons_zero, List.set_cons_succ])
          refine plan_bin _ _ _ _ _ _ _ _ (by rfl) (by rfl) (by rfl) (by first | (with_reducible exact Mem.ev_const _ _) | (with_reducible exact Mem.ev_zero _ _ _) | (with_reducible (apply Eq.trans (Mem.ev_tmp _ _ _)); simp only [List.getD_cons_succ, List.getD_cons_zero] <;> rfl)) (by first | (with_reducible exact Mem.ev_const _ _) | (with_reducible exact Mem.ev_zero _ _ _) | (with_reducible (apply Eq.trans (Mem.ev_tmp _ _ _)); simp only [List.getD_cons_succ, List.getD_cons_zero] <;> rfl)) (fun wx => o_add _ _ _ _ _ _ wx) ?_
          (simp only [Act.put, List.setIfInBounds_toArray, List.set_cons_zero, List.set_cons_succ])
          (first | (refine plan_move _ _ (by rfl) (by rfl) (.inl (by rfl)) (by first | (with_reducible exact Mem.ev_const _ _) | (with_reducible exact Mem.ev_zero _ _ _) | (with_reducible (apply Eq.trans (Mem.ev_tmp _ _ _)); simp only [List.getD_cons_succ, List.getD_cons_zero] <;> rfl)) ?_) | (refine plan_move _ _ (by rfl) (by rfl) (.inr (by rfl)) (by first | (with_reducible exact Mem.ev_const _ _) | (with_reducible exact Mem.ev_zero _ _ _) | (with_reducible (apply Eq.trans (Mem.ev_tmp _ _ _)); simp only [List.getD_cons_succ, List.getD_cons_zero] <;> rfl)) ?_) | (refine plan_pick_t _ _ _ _ (by rfl) (by rfl) (by rfl) (by first | (with_reducible exact Mem.ev_const _ _) | (with_reducible exact Mem.ev_zero _ _ _) | (with_reducible (apply Eq.trans (Mem.ev_tmp _ _ _)); simp only [List.getD_cons_succ, List.getD_cons_zero] <;> rfl)) (by first | (with_reducible exact Mem.ev_const _ _) | (with_reducible exact Mem.ev_zero _ _ _) | (with_reducible (apply Eq.trans (Mem.ev_tmp _ _ _)); simp only [List.getD_cons_succ, List.getD_cons_zero] <;> rfl)) ?_) | (refine plan_pick_f _ _ _ _ (by rfl) (by rfl) (by rfl) (by first | (with_reducible exact Mem.ev_const _ _) | (with_reducible exact Mem.ev_zero _ _ _) | (with_reducible (apply Eq.trans (Mem.ev_tmp _ _ _)); simp only [List.getD_cons_succ, List.getD_cons_zero] <;> rfl)) (by first | (with_reducible exact Mem.ev_const _ _) | (with_reducible exact Mem.ev_zero _ _ _) | (with_reducible (apply Eq.trans (Mem.ev_tmp _ _ _)); simp only [List.getD_cons_succ, List.getD_cons_zero] <;> rfl)) ?_))
          (simp only [Act.put, List.setIfInBounds_toArray, List.set_cons_zero, List.set_cons_succ])
          refine plan_index 96 65 _ _ gx 0 8 cx 0 (by rfl) (by rfl) (by rfl) (by first | (with_reducible exact Mem.ev_const _ _) | (with_reducible exact Mem.ev_zero _ _ _) | (with_reducible (apply Eq.trans (Mem.ev_tmp _ _ _)); simp only [List.getD_cons_succ, List.getD_cons_zero] <;> rfl)) (by rfl) (by omega) Tryd.underlying96 (by kernel_rfl) ?_
          (simp only [Act.put, List.setIfInBounds_toArray, List.set_cons_zero, List.set_cons_succ])
          refine plan_cell 65 _ _ _ _ (by rfl) (by rfl) (by rfl) (by first | (with_reducible exact Mem.ev_const _ _) | (with_reducible exact Mem.ev_zero _ _ _) | (with_reducible (apply Eq.trans (Mem.ev_tmp _ _ _)); simp only [List.getD_cons_succ, List.getD_cons_zero] <;> rfl)) (fun w' hw' => (hw'.cell (p := ⟨_, _, none⟩) GX.out).trans X0.out) Tryd.underlying65 (by rfl) ?_
          (simp only [Act.put, List.setIfInBounds_toArray, List.set_cons_zero, List.set_cons_succ])
          (first | (refine plan_move _ _ (by rfl) (by rfl) (.inl (by rfl)) (by first | (with_reducible exact Mem.ev_const _ _) | (with_reducible exact Mem.ev_zero _ _ _) | (with_reducible (apply Eq.trans (Mem.ev_tmp _ _ _)); simp only [List.getD_cons_succ, List.getD_cons_zero] <;> rfl)) ?_) | (refine plan_move _ _ (by rfl) (by rfl) (.inr (by rfl)) (by first | (with_reducible exact Mem.ev_const _ _) | (with_reducible exact Mem.ev_zero _ _ _) | (with_reducible (apply Eq.trans (Mem.ev_tmp _ _ _)); simp only [List.getD_cons_succ, List.getD_cons_zero] <;> rfl)) ?_) | (refine plan_pick_t _ _ _ _ (by rfl) (by rfl) (by rfl) (by first | (with_reducible exact Mem.ev_const _ _) | (with_reducible exact Mem.ev_zero _ _ _) | (with_reducible (apply Eq.trans (Mem.ev_tmp _ _ _)); simp only [List.getD_cons_succ, List.getD_cons_zero] <;> rfl)) (by first | (with_reducible exact Mem.ev_const _ _) | (with_reducible exact Mem.ev_zero _ _ _) | (with_reducible (apply Eq.trans (Mem.ev_tmp _ _ _)); simp only [List.getD_cons_succ, List.getD_cons_zero] <;> rfl)) ?_) | (refine plan_pick_f _ _ _ _ (by rfl) (by rfl) (by rfl) (by first | (with_reducible exact Mem.ev_const _ _) | (with_reducible exact Mem.ev_zero _ _ _) | (with_reducible (apply Eq.trans (Mem.ev_tmp _ _ _)); simp only [List.getD_cons_succ, List.getD_cons_zero] <;> rfl)) (by first | (with_reducible exact Mem.ev_const _ _) | (with_reducible exact Mem.ev_zero _ _ _) | (with_reducible (apply Eq.trans (Mem.ev_tmp _ _ _)); simp only [List.getD_cons_succ, List.getD_cons_zero] <;> rfl)) ?_))
          (simp only [Act.put, List.setIfInBounds_toArray, List.set_cons_zero, List.set_cons_succ])
          refine plan_index 96 65 _ _ gx 0 8 cx 1 (by rfl) (by rfl) (by rfl) (by first | (with_reducible exact Mem.ev_const _ _) | (with_reducible exact Mem.ev_zero _ _ _) | (with_reducible (apply Eq.trans (Mem.ev_tmp _ _ _)); simp only [List.getD_cons_succ, List.getD_cons_zero] <;> rfl)) (by rfl) (by omega) Tryd.underlying96 (by kernel_rfl) ?_
          (simp only [Act.put, List.setIfInBounds_toArray, List.set_cons_zero, List.set_cons_succ])
          refine plan_cell 65 _ _ _ _ (by rfl) (by rfl) (by rfl) (by first | (with_reducible exact Mem.ev_const _ _) | (with_reducible exact Mem.ev_zero _ _ _) | (with_reducible (apply Eq.trans (Mem.ev_tmp _ _ _)); simp only [List.getD_cons_succ, List.getD_cons_zero] <;> rfl)) (fun w' hw' => (hw'.cell (p := ⟨_, _, none⟩) GX.out).trans X1.out) Tryd.underlying65 (by rfl) ?_
          (simp only [Act.put, List.setIfInBounds_toArray, List.set_cons_zero, List.set_cons_succ])
          (first | (refine plan_move _ _ (by rfl) (by rfl) (.inl (by rfl)) (by first | (with_reducible exact Mem.ev_const _ _) | (with_reducible exact Mem.ev_zero _ _ _) | (with_reducible (apply Eq.trans (Mem.ev_tmp _ _ _)); simp only [List.getD_cons_succ, List.getD_cons_zero] <;> rfl)) ?_) | (refine plan_move _ _ (by rfl) (by rfl) (.inr (by rfl)) (by first | (with_reducible exact Mem.ev_const _ _) | (with_reducible exact Mem.ev_zero _ _ _) | (with_reducible (apply Eq.trans (Mem.ev_tmp _ _ _)); simp only [List.getD_cons_succ, List.getD_cons_zero] <;> rfl)) ?_) | (refine plan_pick_t _ _ _ _ (by rfl) (by rfl) (by rfl) (by first | (with_reducible exact Mem.ev_const _ _) | (with_reducible exact Mem.ev_zero _ _ _) | (with_reducible (apply Eq.trans (Mem.ev_tmp _ _ _)); simp only [List.getD_cons_succ, List.getD_cons_zero] <;> rfl)) (by first | (with_reducible exact Mem.ev_const _ _) | (with_reducible exact Mem.ev_zero _ _ _) | (with_reducible (apply Eq.trans (Mem.ev_tmp _ _ _)); simp only [List.getD_cons_succ, List.getD_cons_zero] <;> rfl)) ?_) | (refine plan_pick_f _ _ _ _ (by rfl) (by rfl) (by rfl) (by first | (with_reducible exact Mem.ev_const _ _) | (with_reducible exact Mem.ev_zero _ _ _) | (with_reducible (apply Eq.trans (Mem.ev_tmp _ _ _)); simp only [List.getD_cons_succ, List.getD_cons_zero] <;> rfl)) (by first | (with_reducible exact Mem.ev_const _ _) | (with_reducible exact Mem.ev_zero _ _ _) | (with_reducible (apply Eq.trans (Mem.ev_tmp _ _ _)); simp only [List.getD_cons_succ, List.getD_cons_zero] <;> rfl)) ?_))
          (simp only [Act.put, List.setIfInBounds_toArray, List.set_cons_zero, List.set_cons_succ])
          refine plan_index 96 65 _ _ gx 0 8 cx 2 (by rfl) (by rfl) (by rfl) (by first | (with_reducible exact Mem.ev_const _ _) | (with_reducible exact Mem.ev_zero _ _ _) | (with_reducible (apply Eq.trans (Mem.ev_tmp _ _ _)); simp only [List.getD_cons_succ, List.getD_cons_zero] <;> rfl)) (by rfl) (by omega) Tryd.underlying96 (by kernel_rfl) ?_
          (simp only [Act.put, List.setIfInBounds_toArray, List.set_cons_zero, List.set_cons_succ])
          refine plan_cell 65 _ _ _ _ (by rfl) (by rfl) (by rfl) (by first | (with_reducible exact Mem.ev_const _ _) | (with_reducible exact Mem.ev_zero _ _ _) | (with_reducible (apply Eq.trans (Mem.ev_tmp _ _ _)); simp only [List.getD_cons_succ, List.getD_cons_zero] <;> rfl)) (fun w' hw' => (hw'.cell (p := ⟨_, _, none⟩) GX.out).trans X2.out) Tryd.underlying65 (by rfl) ?_
          (simp only [Act.put, List.setIfInBounds_toArray, List.set_cons_zero, List.set_cons_succ])
          (first | (refine plan_move _ _ (by rfl) (by rfl) (.inl (by rfl)) (by first | (with_reducible exact Mem.ev_const _ _) | (with_reducible exact Mem.ev_zero _ _ _) | (with_reducible (apply Eq.trans (Mem.ev_tmp _ _ _)); simp only [List.getD_cons_succ, List.getD_cons_zero] <;> rfl)) ?_) | (refine plan_move _ _ (by rfl) (by rfl) (.inr (by rfl)) (by first | (with_reducible exact Mem.ev_const _ _) | (with_reducible exact Mem.ev_zero _ _ _) | (with_reducible (apply Eq.trans (Mem.ev_tmp _ _ _)); simp only [List.getD_cons_succ, List.getD_cons_zero] <;> rfl)) ?_) | (refine plan_pick_t _ _ _ _ (by rfl) (by rfl) (by rfl) (by first | (with_reducible exact Mem.ev_const _ _) | (with_reducible exact Mem.ev_zero _ _ _) | (with_reducible (apply Eq.trans (Mem.ev_tmp _ _ _)); simp only [List.getD_cons_succ, List.getD_cons_zero] <;> rfl)) (by first | (with_reducible exact Mem.ev_const _ _) | (with_reducible exact Mem.ev_zero _ _ _) | (with_reducible (apply Eq.trans (Mem.ev_tmp _ _ _)); simp only [List.getD_cons_succ, List.getD_cons_zero] <;> rfl)) ?_) | (refine plan_pick_f _ _ _ _ (by rfl) (by rfl) (by rfl) (by first | (with_reducible exact Mem.ev_const _ _) | (with_reducible exact Mem.ev_zero _ _ _) | (with_reducible (apply Eq.trans (Mem.ev_tmp _ _ _)); simp only [List.getD_cons_succ, List.getD_cons_zero] <;> rfl)) (by first | (with_reducible exact Mem.ev_const _ _) | (with_reducible exact Mem.ev_zero _ _ _) | (with_reducible (apply Eq.trans (Mem.ev_tmp _ _ _)); simp only [List.getD_cons_succ, List.getD_cons_zero] <;> rfl)) ?_))
          (simp only [Act.put, List.setIfInBounds_toArray, List.set_cons_zero, List.set_cons_succ])
          refine plan_index 96 65 _ _ gx 0 8 cx 3 (by rfl) (by rfl) (by rfl) (by first | (with_reducible exact Mem.ev_const _ _) | (with_reducible exact Mem.ev_zero _ _ _) | (with_reducible (apply Eq.trans (Mem.ev_tmp _ _ _)); simp only [List.getD_cons_succ, List.getD_cons_zero] <;> rfl)) (by rfl) (by omega) Tryd.underlying96 (by kernel_rfl) ?_
          (simp only [Act.put, List.setIfInBounds_toArray, List.set_cons_zero, List.set_cons_succ])
          refine plan_cell 65 _ _ _ _ (by rfl) (by rfl) (by rfl) (by first | (with_reducible exact Mem.ev_const _ _) | (with_reducible exact Mem.ev_zero _ _ _) | (with_reducible (apply Eq.trans (Mem.ev_tmp _ _ _)); simp only [List.getD_cons_succ, List.getD_cons_zero] <;> rfl)) (fun w' hw' => (hw'.cell (p := ⟨_, _, none⟩) GX.out).trans X3.out) Tryd.underlying65 (by rfl) ?_
          (simp only [Act.put, List.setIfInBounds_toArray, List.set_cons_zero, List.set_cons_succ])
          (first | (refine plan_move _ _ (by rfl) (by rfl) (.inl (by rfl)) (by first | (with_reducible exact Mem.ev_const _ _) | (with_reducible exact Mem.ev_zero _ _ _) | (with_reducible (apply Eq.trans (Mem.ev_tmp _ _ _)); simp only [List.getD_cons_succ, List.getD_cons_zero] <;> rfl)) ?_) | (refine plan_move _ _ (by rfl) (by rfl) (.inr (by rfl)) (by first | (with_reducible exact Mem.ev_const _ _) | (with_reducible exact Mem.ev_zero _ _ _) | (with_reducible (apply Eq.trans (Mem.ev_tmp _ _ _)); simp only [List.getD_cons_succ, List.getD_cons_zero] <;> rfl)) ?_) | (refine plan_pick_t _ _ _ _ (by rfl) (by rfl) (by rfl) (by first | (with_reducible exact Mem.ev_const _ _) | (with_reducible exact Mem.ev_zero _ _ _) | (with_reducible (apply Eq.trans (Mem.ev_tmp _ _ _)); simp only [List.getD_cons_succ, List.getD_cons_zero] <;> rfl)) (by first | (with_reducible exact Mem.ev_const _ _) | (with_reducible exact Mem.ev_zero _ _ _) | (with_reducible (apply Eq.trans (Mem.ev_tmp _ _ _)); simp only [List.getD_cons_succ, List.getD_cons_zero] <;> rfl)) ?_) | (refine plan_pick_f _ _ _ _ (by rfl) (by rfl) (by rfl) (by first | (with_reducible exact Mem.ev_const _ _) | (with_reducible exact Mem.ev_zero _ _ _) | (with_reducible (apply Eq.trans (Mem.ev_tmp _ _ _)); simp only [List.getD_cons_succ, List.getD_cons_zero] <;> rfl)) (by first | (with_reducible exact Mem.ev_const _ _) | (with_reducible exact Mem.ev_zero _ _ _) | (with_reducible (apply Eq.trans (Mem.ev_tmp _ _ _)); simp only [List.getD_cons_succ, List.getD_cons_zero] <;> rfl)) ?_))
          (simp only [Act.put, List.setIfInBounds_toArray, List.set_cons_zero, List.set_cons_succ])
          refine plan_bin _ _ _ _ _ _ _ _ (by rfl) (by rfl) (by rfl) (by first | (with_reducible exact Mem.ev_const _ _) | (with_reducible exact Mem.ev_zero _ _ _) | (with_reducible (apply Eq.trans (Mem.ev_tmp _ _ _)); simp only [List.getD_cons_succ, List.getD_cons_zero] <;> rfl)) (by first | (with_reducible exact Mem.ev_const _ _) | (with_reducible exact Mem.ev_zero _ _ _) | (with_reducible (apply Eq.trans (Mem.ev_tmp _ _ _)); simp only [List.getD_cons_succ, List.getD_cons_zero] <;> rfl)) (fun wx => o_add _ _ _ _ _ _ wx) ?_
          (simp only [Act.put, List.setIfInBounds_toArray, List.set_cons_zero, List.set_cons_succ])
          (first | (refine plan_move _ _ (by rfl) (by rfl) (.inl (by rfl)) (by first | (with_reducible exact Mem.ev_const _ _) | (with_reducible exact Mem.ev_zero _ _ _) | (with_reducible (apply Eq.trans (Mem.ev_tmp _ _ _)); simp only [List.getD_cons_succ, List.getD_cons_zero] <;> rfl)) ?_) | (refine plan_move _ _ (by rfl) (by rfl) (.inr (by rfl)) (by first | (with_reducible exact Mem.ev_const _ _) | (with_reducible exact Mem.ev_zero _ _ _) | (with_reducible (apply Eq.trans (Mem.ev_tmp _ _ _)); simp only [List.getD_cons_succ, List.getD_cons_zero] <;> rfl)) ?_) | (refine plan_pick_t _ _ _ _ (by rfl) (by rfl) (by rfl) (by first | (with_reducible exact Mem.ev_const _ _) | (with_reducible exact Mem.ev_zero _ _ _) | (with_reducible (apply Eq.trans (Mem.ev_tmp _ _ _)); simp only [List.getD_cons_succ, List.getD_cons_zero] <;> rfl)) (by first | (with_reducible exact Mem.ev_const _ _) | (with_reducible exact Mem.ev_zero _ _ _) | (with_reducible (apply Eq.trans (Mem.ev_tmp _ _ _)); simp only [List.getD_cons_succ, List.getD_cons_zero] <;> rfl)) ?_) | (refine plan_pick_f _ _ _ _ (by rfl) (by rfl) (by rfl) (by first | (with_reducible exact Mem.ev_const _ _) | (with_reducible exact Mem.ev_zero _ _ _) | (with_reducible (apply Eq.trans (Mem.ev_tmp _ _ _)); simp only [List.getD_cons_succ, List.getD_cons_zero] <;> rfl)) (by first | (with_reducible exact Mem.ev_const _ _) | (with_reducible exact Mem.ev_zero _ _ _) | (with_reducible (apply Eq.trans (Mem.ev_tmp _ _ _)); simp only [List.getD_cons_succ, List.getD_cons_zero] <;> rfl)) ?_))
          (simp only [Act.put, List.setIfInBounds_toArray, List.set_cons_zero, List.set_cons_succ])
          refine plan_index 96 65 _ _ gx 0 8 cx 4 (by rfl) (by rfl) (by rfl) (by first | (with_reducible exact Mem.ev_const _ _) | (with_reducible exact Mem.ev_zero _ _ _) | (with_reducible (apply Eq.trans (Mem.ev_tmp _ _ _)); simp only [List.getD_cons_succ, List.getD_cons_zero] <;> rfl)) (by rfl) (by omega) Tryd.underlying96 (by kernel_rfl) ?_
          (simp only [Act.put, List.setIfInBounds_toArray, List.set_cons_zero, List.set_cons_succ])
          refine plan_cell 65 _ _ _ _ (by rfl) (by rfl) (by rfl) (by first | (with_reducible exact Mem.ev_const _ _) | (with_reducible exact Mem.ev_zero _ _ _) | (with_reducible (apply Eq.trans (Mem.ev_tmp _ _ _)); simp only [List.getD_cons_succ, List.getD_cons_zero] <;> rfl)) (fun w' hw' => (hw'.cell (p := ⟨_, _, none⟩) GX.out).trans X4.out) Tryd.underlying65 (by rfl) ?_
          (simp only [Act.put, List.setIfInBounds_toArray, List.set_cons_zero, List.set_cons_succ])
          (first | (refine plan_move _ _ (by rfl) (by rfl) (.inl (by rfl)) (by first | (with_reducible exact Mem.ev_const _ _) | (with_reducible exact Mem.ev_zero _ _ _) | (with_reducible (apply Eq.trans (Mem.ev_tmp _ _ _)); simp only [List.getD_cons_succ, List.getD_cons_zero] <;> rfl)) ?_) | (refine plan_move _ _ (by rfl) (by rfl) (.inr (by rfl)) (by first | (with_reducible exact Mem.ev_const _ _) | (with_reducible exact Mem.ev_zero _ _ _) | (with_reducible (apply Eq.trans (Mem.ev_tmp _ _ _)); simp only [List.getD_cons_succ, List.getD_cons_zero] <;> rfl)) ?_) | (refine plan_pick_t _ _ _ _ (by rfl) (by rfl) (by rfl) (by first | (with_reducible exact Mem.ev_const _ _) | (with_reducible exact Mem.ev_zero _ _ _) | (with_reducible (apply Eq.trans (Mem.ev_tmp _ _ _)); simp only [List.getD_cons_succ, List.getD_cons_zero] <;> rfl)) (by first | (with_reducible exact Mem.ev_const _ _) | (with_reducible exact Mem.ev_zero _ _ _) | (with_reducible (apply Eq.trans (Mem.ev_tmp _ _ _)); simp only [List.getD_cons_succ, List.getD_cons_zero] <;> rfl)) ?_) | (refine plan_pick_f _ _ _ _ (by rfl) (by rfl) (by rfl) (by first | (with_reducible exact Mem.ev_const _ _) | (with_reducible exact Mem.ev_zero _ _ _) | (with_reducible (apply Eq.trans (Mem.ev_tmp _ _ _)); simp only [List.getD_cons_succ, List.getD_cons_zero] <;> rfl)) (by first | (with_reducible exact Mem.ev_const _ _) | (with_reducible exact Mem.ev_zero _ _ _) | (with_reducible (apply Eq.trans (Mem.ev_tmp _ _ _)); simp only [List.getD_cons_succ, List.getD_cons_zero] <;> rfl)) ?_))
          (simp only [Act.put, List.setIfInBounds_toArray, List.set_cons_zero, List.set_cons_succ])
          refine plan_index 96 65 _ _ gx 0 8 cx 5 (by rfl) (by rfl) (by rfl) (by first | (with_reducible exact Mem.ev_const _ _) | (with_reducible exact Mem.ev_zero _ _ _) | (with_reducible (apply Eq.trans (Mem.ev_tmp _ _ _)); simp only [List.getD_cons_succ, List.getD_cons_zero] <;> rfl)) (by rfl) (by omega) Tryd.underlying96 (by kernel_rfl) ?_
          (simp only [Act.put, List.setIfInBounds_toArray, List.set_cons_zero, List.set_cons_succ])
          refine plan_cell 65 _ _ _ _ (by rfl) (by rfl) (by rfl) (by first | (with_reducible exact Mem.ev_const _ _) | (with_reducible exact Mem.ev_zero _ _ _) | (with_reducible (apply Eq.trans (Mem.ev_tmp _ _ _)); simp only [List.getD_cons_succ, List.getD_cons_zero] <;> rfl)) (fun w' hw' => (hw'.cell (p := ⟨_, _, none⟩) GX.out).trans X5.out) Tryd.underlying65 (by rfl) ?_
          (simp only [Act.put, List.setIfInBounds_toArray, List.set_cons_zero, List.set_cons_succ])
          (first | (refine plan_move _ _ (by rfl) (by rfl) (.inl (by rfl)) (by first | (with_reducible exact Mem.ev_const _ _) | (with_reducible exact Mem.ev_zero _ _ _) | (with_reducible (apply Eq.trans (Mem.ev_tmp _ _ _)); simp only [List.getD_cons_succ, List.getD_cons_zero] <;> rfl)) ?_) | (refine plan_move _ _ (by rfl) (by rfl) (.inr (by rfl)) (by first | (with_reducible exact Mem.ev_const _ _) | (with_reducible exact Mem.ev_zero _ _ _) | (with_reducible (apply Eq.trans (Mem.ev_tmp _ _ _)); simp only [List.getD_cons_succ, List.getD_cons_zero] <;> rfl)) ?_) | (refine plan_pick_t _ _ _ _ (by rfl) (by rfl) (by rfl) (by first | (with_reducible exact Mem.ev_const _ _) | (with_reducible exact Mem.ev_zero _ _ _) | (with_reducible (apply Eq.trans (Mem.ev_tmp _ _ _)); simp only [List.getD_cons_succ, List.getD_cons_zero] <;> rfl)) (by first | (with_reducible exact Mem.ev_const _ _) | (with_reducible exact Mem.ev_zero _ _ _) | (with_reducible (apply Eq.trans (Mem.ev_tmp _ _ _)); simp only [List.getD_cons_succ, List.getD_cons_zero] <;> rfl)) ?_) | (refine plan_pick_f _ _ _ _ (by rfl) (by rfl) (by rfl) (by first | (with_reducible exact Mem.ev_const _ _) | (with_reducible exact Mem.ev_zero _ _ _) | (with_reducible (apply Eq.trans (Mem.ev_tmp _ _ _)); simp only [List.getD_cons_succ, List.getD_cons_zero] <;> rfl)) (by first | (with_reducible exact Mem.ev_const _ _) | (with_reducible exact Mem.ev_zero _ _ _) | (with_reducible (apply Eq.trans (Mem.ev_tmp _ _ _)); simp only [List.getD_cons_succ, List.getD_cons_zero] <;> rfl)) ?_))
          (simp only [Act.put, List.setIfInBounds_toArray, List.set_cons_zero, List.set_cons_succ])
          refine plan_index 96 65 _ _ gx 0 8 cx 6 (by rfl) (by rfl) (by rfl) (by first | (with_reducible exact Mem.ev_const _ _) | (with_reducible exact Mem.ev_zero _ _ _) | (with_reducible (apply Eq.trans (Mem.ev_tmp _ _ _)); simp only [List.getD_cons_succ, List.getD_cons_zero] <;> rfl)) (by rfl) (by omega) Tryd.underlying96 (by kernel_rfl) ?_
          (simp only [Act.put, List.setIfInBounds_toArray, List.set_cons_zero, List.set_cons_succ])
          refine plan_cell 65 _ _ _ _ (by rfl) (by rfl) (by rfl) (by first | (with_reducible exact Mem.ev_const _ _) | (with_reducible exact Mem.ev_zero _ _ _) | (with_reducible (apply Eq.trans (Mem.ev_tmp _ _ _)); simp only [List.getD_cons_succ, List.getD_cons_zero] <;> rfl)) (fun w' hw' => (hw'.cell (p := ⟨_, _, none⟩) GX.out).trans X6.out) Tryd.underlying65 (by rfl) ?_
          (simp only [Act.put, List.setIfInBounds_toArray, List.set_cons_zero, List.set_cons_succ])
          refine plan_slice 96 65 8 _ #[.int .u32 (V (tee K Wt r + you r)), .int .u32 (V r.a), .int .u32 (V r.b), .int .u32 (V r.c), .int .u32 (V (r.d + tee K Wt r)), .int .u32 (V r.e), .int .u32 (V r.f), .int .u32 (V r.g)] (by rfl) (by rfl) (by rfl) Tryd.underlying96 (by kernel_rfl) (B.out.alloc B.out.size _) ?_
          (simp only [Act.put, List.setIfInBounds_toArray, List.set_cons_zero, List.set_cons_succ])
          (first | (refine plan_move _ _ (by rfl) (by rfl) (.inl (by rfl)) (by first | (with_reducible exact Mem.ev_const _ _) | (with_reducible exact Mem.ev_zero _ _ _) | (with_reducible (apply Eq.trans (Mem.ev_tmp _ _ _)); simp only [List.getD_cons_succ, List.getD_cons_zero] <;> rfl)) ?_) | (refine plan_move _ _ (by rfl) (by rfl) (.inr (by rfl)) (by first | (with_reducible exact Mem.ev_const _ _) | (with_reducible exact Mem.ev_zero _ _ _) | (with_reducible (apply Eq.trans (Mem.ev_tmp _ _ _)); simp only [List.getD_cons_succ, List.getD_cons_zero] <;> rfl)) ?_) | (refine plan_pick_t _ _ _ _ (by rfl) (by rfl) (by rfl) (by first | (with_reducible exact Mem.ev_const _ _) | (with_reducible exact Mem.ev_zero _ _ _) | (with_reducible (apply Eq.trans (Mem.ev_tmp _ _ _)); simp only [List.getD_cons_succ, List.getD_cons_zero] <;> rfl)) (by first | (with_reducible exact Mem.ev_const _ _) | (with_reducible exact Mem.ev_zero _ _ _) | (with_reducible (apply Eq.trans (Mem.ev_tmp _ _ _)); simp only [List.getD_cons_succ, List.getD_cons_zero] <;> rfl)) ?_) | (refine plan_pick_f _ _ _ _ (by rfl) (by rfl) (by rfl) (by first | (with_reducible exact Mem.ev_const _ _) | (with_reducible exact Mem.ev_zero _ _ _) | (with_reducible (apply Eq.trans (Mem.ev_tmp _ _ _)); simp only [List.getD_cons_succ, List.getD_cons_zero] <;> rfl)) (by first | (with_reducible exact Mem.ev_const _ _) | (with_reducible exact Mem.ev_zero _ _ _) | (with_reducible (apply Eq.trans (Mem.ev_tmp _ _ _)); simp only [List.getD_cons_succ, List.getD_cons_zero] <;> rfl)) ?_))
          (simp only [Act.put, List.setIfInBounds_toArray, List.set_cons_zero, List.set_cons_succ])
          refine plan_nil ?_
          go_wp2_with fail
          go_roundw
          case rel => exact ⟨t2 + 1, by omega, by go_num, by rw [NX.out]; exact wl_new _ (rnd K Wt r).list _, OW.out.below (B.out.alloc B.out.size _), BR.out.trans ((B.out.alloc B.out.size _).mono BR.out.size)⟩
          case measure => simp [intOf]; omega
        · -- the sums
          obtain ⟨gx, cx, rfl, hgx, hxc⟩ := hwl
          rw [list_len] at hxc ⊢
          have ht64 : t2 = 64 := by omega
          rw [ht64] at hr
          obtain ⟨C, hC⟩ : ∃ C, C = comp H Bk := ⟨_, rfl⟩
          have hsum : ∀ i, i < 8 → C.getD i 0 = r.list.getD i 0 + H.getD i 0 := fun i hi => by rw [hC, comp, ← hr, adds_getD _ _ (by rw [list_len, lH]) i (by rw [list_len]; exact hi)]
          have hCl : C.length = 8 := by rw [hC, comp_len H Bk lH]
          have hge2 : ¬ (t2 : Int) < 64 := by omega
          have SUM := Lib.hid hsum; have CL := Lib.hid hCl; have HC := Lib.hid hC; have XC := Lib.hid hxc; have GX := Lib.hid hgx; have BR := Lib.hid hbr
          clear hsum hCl hC hxc hgx hbr hr ht64 how hlt
          go_wp2_with fail
          obtain ⟨w3, rfl⟩ : ∃ w3 : World, w3 = wr := ⟨_, rfl⟩
          go_loopw [19, 20] (fun v i wr => ORel w3 C v i wr) (fun _ i _ => 8 - (intOf i).toNat)
          case atStart => exact ⟨0, by omega, rfl, OwnV.nil _ _ _, Below.refl _ _⟩
          case round =>
            obtain ⟨t3, ht3, rfl, how, hbr⟩ := hrel
            by_cases hlt : t3 < 8
            · have hnx : u32s (C.take (t3 + 1)) = u32s (C.take t3) ++ [.int .u32 (V (r.list.getD t3 0 + H.getD t3 0))] := by rw [u32s_next C t3 (by rw [CL.out]; exact hlt), SUM.out t3 hlt]
              have hl1 : (u32s (C.take t3)).length = t3 := by rw [u32s_length, List.length_take, CL.out]; omega
              have hx3 : w3.cell? ⟨gx, 0 + t3, none⟩ = some (.int .u32 (V (r.list.getD t3 0))) := by rw [Nat.zero_add]; exact XC.out t3 hlt
              have hs3 : w3.cell? ⟨gs, 0 + t3, none⟩ = some (.int .u32 (V (H.getD t3 0))) := by rw [Nat.zero_add, BR.out.cell (p := ⟨gs, t3, none⟩) GS.out]; exact SC.out t3 hlt
              have hgs3 : gs < w3.heap.size := Nat.lt_of_lt_of_le GS.out BR.out.size
              obtain ⟨xv, hxv⟩ : ∃ x, x = r.list.getD t3 0 := ⟨_, rfl⟩
              obtain ⟨sv, hsv⟩ : ∃ x, x = H.getD t3 0 := ⟨_, rfl⟩
              rw [← hxv, ← hsv] at hnx; rw [← hxv] at hx3; rw [← hsv] at hs3
              have NX := Lib.hid hnx; have L1 := Lib.hid hl1; have X3 := Lib.hid hx3; have S3 := Lib.hid hs3; have GS3 := Lib.hid hgs3; have OW := Lib.hid (how.keep (w' := wr.drew) fun _ _ => rfl); have BRR := Lib.hid hbr
              have hlt' : (t3 : Int) < 8 := by omega
              clear hnx hl1 hx3 hs3 hgs3 how hbr hxv hsv
              go_wp2_with fail
              refine wp_region_plan_in (fun w' => Below w3.heap.size w3 w') (.take 0 (.take 1 (.take 2 (.take 3 (.take 4 (.take 5 (.take 6 (.take 7 (.take 8 (.take 9 (.sole 10 (.sole 11 (.take 12 .done))))))))))))) (by kernel_rfl) (by kernel_rfl) (by kernel_rfl) BRR.out.drew ?_
              have B : Hid (Below w3.heap.size w3 wr.drew) := BRR.out.drew
              generalize wr.drew = W at *
              (first | (refine plan_move _ _ (by rfl) (by rfl) (.inl (by rfl)) (by first | (with_reducible exact Mem.ev_const _ _) | (with_reducible exact Mem.ev_zero _ _ _) | (with_reducible (apply Eq.trans (Mem.ev_tmp _ _ _)); simp only [List.getD_cons_succ, List.getD_cons_zero] <;> rfl)) ?_) | (refine plan_move _ _ (by rfl) (by rfl) (.inr (by rfl)) (by first | (with_reducible exact Mem.ev_const _ _) | (with_reducible exact Mem.ev_zero _ _ _) | (with_reducible (apply Eq.trans (Mem.ev_tmp _ _ _)); simp only [List.getD_cons_succ, List.getD_cons_zero] <;> rfl)) ?_) | (refine plan_pick_t _ _ _ _ (by rfl) (by rfl) (by rfl) (by first | (with_reducible exact Mem.ev_const _ _) | (with_reducible exact Mem.ev_zero _ _ _) | (with_reducible (apply Eq.trans (Mem.ev_tmp _ _ _)); simp only [List.getD_cons_succ, List.getD_cons_zero] <;> rfl)) (by first | (with_reducible exact Mem.ev_const _ _) | (with_reducible exact Mem.ev_zero _ _ _) | (with_reducible (apply Eq.trans (Mem.ev_tmp _ _ _)); simp only [List.getD_cons_succ, List.getD_cons_zero] <;> rfl)) ?_) | (refine plan_pick_f _ _ _ _ (by rfl) (by rfl) (by rfl) (by first | (with_reducible exact Mem.ev_const _ _) | (with_reducible exact Mem.ev_zero _ _ _) | (with_reducible (apply Eq.trans (Mem.ev_tmp _ _ _)); simp only [List.getD_cons_succ, List.getD_cons_zero] <;> rfl)) (by first | (with_reducible exact Mem.ev_const _ _) | (with_reducible exact Mem.ev_zero _ _ _) | (with_reducible (apply Eq.trans (Mem.ev_tmp _ _ _)); simp only [List.getD_cons_succ, List.getD_cons_zero] <;> rfl)) ?_))
              (simp only [Act.put, List.setIfInBounds_toArray, List.set_cons_zero, List.set_cons_succ])
              (first | (refine plan_move _ _ (by rfl) (by rfl) (.inl (by rfl)) (by first | (with_reducible exact Mem.ev_const _ _) | (with_reducible exact Mem.ev_zero _ _ _) | (with_reducible (apply Eq.trans (Mem.ev_tmp _ _ _)); simp only [List.getD_cons_succ, List.getD_cons_zero] <;> rfl)) ?_) | (refine plan_move _ _ (by rfl) (by rfl) (.inr (by rfl)) (by first | (with_reducible exact Mem.ev_const _ _) | (with_reducible exact Mem.ev_zero _ _ _) | (with_reducible (apply Eq.trans (Mem.ev_tmp _ _ _)); simp only [List.getD_cons_succ, List.getD_cons_zero] <;> rfl)) ?_) | (refine plan_pick_t _ _ _ _ (by rfl) (by rfl) (by rfl) (by first | (with_reducible exact Mem.ev_const _ _) | (with_reducible exact Mem.ev_zero _ _ _) | (with_reducible (apply Eq.trans (Mem.ev_tmp _ _ _)); simp only [List.getD_cons_succ, List.getD_cons_zero] <;> rfl)) (by first | (with_reducible exact Mem.ev_const _ _) | (with_reducible exact Mem.ev_zero _ _ _) | (with_reducible (apply Eq.trans (Mem.ev_tmp _ _ _)); simp only [List.getD_cons_succ, List.getD_cons_zero] <;> rfl)) ?_) | (refine plan_pick_f _ _ _ _ (by rfl) (by rfl) (by rfl) (by first | (with_reducible exact Mem.ev_const _ _) | (with_reducible exact Mem.ev_zero _ _ _) | (with_reducible (apply Eq.trans (Mem.ev_tmp _ _ _)); simp only [List.getD_cons_succ, List.getD_cons_zero] <;> rfl)) (by first | (with_reducible exact Mem.ev_const _ _) | (with_reducible exact Mem.ev_zero _ _ _) | (with_reducible (apply Eq.trans (Mem.ev_tmp _ _ _)); simp only [List.getD_cons_succ, List.getD_cons_zero] <;> rfl)) ?_))
              (simp only [Act.put, List.setIfInBounds_toArray, List.set_cons_zero, List.set_cons_succ])
              (first | (refine plan_move _ _ (by rfl) (by rfl) (.inl (by rfl)) (by first | (with_reducible exact Mem.ev_const _ _) | (with_reducible exact Mem.ev_zero _ _ _) | (with_reducible (apply Eq.trans (Mem.ev_tmp _ _ _)); simp only [List.getD_cons_succ, List.getD_cons_zero] <;> rfl)) ?_) | (refine plan_move _ _ (by rfl) (by rfl) (.inr (by rfl)) (by first | (with_reducible exact Mem.ev_const _ _) | (with_reducible exact Mem.ev_zero _ _ _) | (with_reducible (apply Eq.trans (Mem.ev_tmp _ _ _)); simp only [List.getD_cons_succ, List.getD_cons_zero] <;> rfl)) ?_) | (refine plan_pick_t _ _ _ _ (by rfl) (by rfl) (by rfl) (by first | (with_reducible exact Mem.ev_const _ _) | (with_reducible exact Mem.ev_zero _ _ _) | (with_reducible (apply Eq.trans (Mem.ev_tmp _ _ _)); simp only [List.getD_cons_succ, List.getD_cons_zero] <;> rfl)) (by first | (with_reducible exact Mem.ev_const _ _) | (with_reducible exact Mem.ev_zero _ _ _) | (with_reducible (apply Eq.trans (Mem.ev_tmp _ _ _)); simp only [List.getD_cons_succ, List.getD_cons_zero] <;> rfl)) ?_) | (refine plan_pick_f _ _ _ _ (by rfl) (by rfl) (by rfl) (by first | (with_reducible exact Mem.ev_const _ _) | (with_reducible exact Mem.ev_zero _ _ _) | (with_reducible (apply Eq.trans (Mem.ev_tmp _ _ _)); simp only [List.getD_cons_succ, List.getD_cons_zero] <;> rfl)) (by first | (with_reducible exact Mem.ev_const _ _) | (with_reducible exact Mem.ev_zero _ _ _) | (with_reducible (apply Eq.trans (Mem.ev_tmp _ _ _)); simp only [List.getD_cons_succ, List.getD_cons_zero] <;> rfl)) ?_))
              (simp only [Act.put, List.setIfInBounds_toArray, List.set_cons_zero, List.set_cons_succ])
              refine plan_index 96 65 _ _ gx 0 8 cx t3 (by rfl) (by rfl) (by rfl) (by first | (with_reducible exact Mem.ev_const _ _) | (with_reducible exact Mem.ev_zero _ _ _) | (with_reducible (apply Eq.trans (Mem.ev_tmp _ _ _)); simp only [List.getD_cons_succ, List.getD_cons_zero] <;> rfl)) (by first | (with_reducible exact Mem.ev_const _ _) | (with_reducible exact Mem.ev_zero _ _ _) | (with_reducible (apply Eq.trans (Mem.ev_tmp _ _ _)); simp only [List.getD_cons_succ, List.getD_cons_zero] <;> rfl)) (by omega) Tryd.underlying96 (by kernel_rfl) ?_
              (simp only [Act.put, List.setIfInBounds_toArray, List.set_cons_zero, List.set_cons_succ])
              refine plan_cell 65 _ _ _ _ (by rfl) (by rfl) (by rfl) (by first | (with_reducible exact Mem.ev_const _ _) | (with_reducible exact Mem.ev_zero _ _ _) | (with_reducible (apply Eq.trans (Mem.ev_tmp _ _ _)); simp only [List.getD_cons_succ, List.getD_cons_zero] <;> rfl)) (fun w' hw' => (hw'.cell (p := ⟨_, _, none⟩) GX.out).trans X3.out) Tryd.underlying65 (by rfl) ?_
              (simp only [Act.put, List.setIfInBounds_toArray, List.set_cons_zero, List.set_cons_succ])
              (first | (refine plan_move _ _ (by rfl) (by rfl) (.inl (by rfl)) (by first | (with_reducible exact Mem.ev_const _ _) | (with_reducible exact Mem.ev_zero _ _ _) | (with_reducible (apply Eq.trans (Mem.ev_tmp _ _ _)); simp only [List.getD_cons_succ, List.getD_cons_zero] <;> rfl)) ?_) | (refine plan_move _ _ (by rfl) (by rfl) (.inr (by rfl)) (by first | (with_reducible exact Mem.ev_const _ _) | (with_reducible exact Mem.ev_zero _ _ _) | (with_reducible (apply Eq.trans (Mem.ev_tmp _ _ _)); simp only [List.getD_cons_succ, List.getD_cons_zero] <;> rfl)) ?_) | (refine plan_pick_t _ _ _ _ (by rfl) (by rfl) (by rfl) (by first | (with_reducible exact Mem.ev_const _ _) | (with_reducible exact Mem.ev_zero _ _ _) | (with_reducible (apply Eq.trans (Mem.ev_tmp _ _ _)); simp only [List.getD_cons_succ, List.getD_cons_zero] <;> rfl)) (by first | (with_reducible exact Mem.ev_const _ _) | (with_reducible exact Mem.ev_zero _ _ _) | (with_reducible (apply Eq.trans (Mem.ev_tmp _ _ _)); simp only [List.getD_cons_succ, List.getD_cons_zero] <;> rfl)) ?_) | (refine plan_pick_f _ _ _ _ (by rfl) (by rfl) (by rfl) (by first | (with_reducible exact Mem.ev_const _ _) | (with_reducible exact Mem.ev_zero _ _ _) | (with_reducible (apply Eq.trans (Mem.ev_tmp _ _ _)); simp only [List.getD_cons_succ, List.getD_cons_zero] <;> rfl)) (by first | (with_reducible exact Mem.ev_const _ _) | (with_reducible exact Mem.ev_zero _ _ _) | (with_reducible (apply Eq.trans (Mem.ev_tmp _ _ _)); simp only [List.getD_cons_succ, List.getD_cons_zero] <;> rfl)) ?_))
              (simp only [Act.put, List.setIfInBounds_toArray, List.set_cons_zero, List.set_cons_succ])
              (first | (refine plan_move _ _ (by rfl) (by rfl) (.inl (by rfl)) (by first | (with_reducible exact Mem.ev_const _ _) | (with_reducible exact Mem.ev_zero _ _ _) | (with_reducible (apply Eq.trans (Mem.ev_tmp _ _ _)); simp only [List.getD_cons_succ, List.getD_cons_zero] <;> rfl)) ?_) | (refine plan_move _ _ (by rfl) (by rfl) (.inr (by rfl)) (by first | (with_reducible exact Mem.ev_const _ _) | (with_reducible exact Mem.ev_zero _ _ _) | (with_reducible (apply Eq.trans (Mem.ev_tmp _ _ _)); simp only [List.getD_cons_succ, List.getD_cons_zero] <;> rfl)) ?_) | (refine plan_pick_t _ _ _ _ (by rfl) (by rfl) (by rfl) (by first | (with_reducible exact Mem.ev_const _ _) | (with_reducible exact Mem.ev_zero _ _ _) | (with_reducible (apply Eq.trans (Mem.ev_tmp _ _ _)); simp only [List.getD_cons_succ, List.getD_cons_zero] <;> rfl)) (by first | (with_reducible exact Mem.ev_const _ _) | (with_reducible exact Mem.ev_zero _ _ _) | (with_reducible (apply Eq.trans (Mem.ev_tmp _ _ _)); simp only [List.getD_cons_succ, List.getD_cons_zero] <;> rfl)) ?_) | (refine plan_pick_f _ _ _ _ (by rfl) (by rfl) (by rfl) (by first | (with_reducible exact Mem.ev_const _ _) | (with_reducible exact Mem.ev_zero _ _ _) | (with_reducible (apply Eq.trans (Mem.ev_tmp _ _ _)); simp only [List.getD_cons_succ, List.getD_cons_zero] <;> rfl)) (by first | (with_reducible exact Mem.ev_const _ _) | (with_reducible exact Mem.ev_zero _ _ _) | (with_reducible (apply Eq.trans (Mem.ev_tmp _ _ _)); simp only [List.getD_cons_succ, List.getD_cons_zero] <;> rfl)) ?_))
              (simp only [Act.put, List.setIfInBounds_toArray, List.set_cons_zero, List.set_cons_succ])
              refine plan_index 96 65 _ _ gs 0 8 cs t3 (by rfl) (by rfl) (by rfl) (by first | (with_reducible exact Mem.ev_const _ _) | (with_reducible exact Mem.ev_zero _ _ _) | (with_reducible (apply Eq.trans (Mem.ev_tmp _ _ _)); simp only [List.getD_cons_succ, List.getD_cons_zero] <;> rfl)) (by first | (with_reducible exact Mem.ev_const _ _) | (with_reducible exact Mem.ev_zero _ _ _) | (with_reducible (apply Eq.trans (Mem.ev_tmp _ _ _)); simp only [List.getD_cons_succ, List.getD_cons_zero] <;> rfl)) (by omega) Tryd.underlying96 (by kernel_rfl) ?_
              (simp only [Act.put, List.setIfInBounds_toArray, List.set_cons_zero, List.set_cons_succ])
              refine plan_cell 65 _ _ _ _ (by rfl) (by rfl) (by rfl) (by first | (with_reducible exact Mem.ev_const _ _) | (with_reducible exact Mem.ev_zero _ _ _) | (with_reducible (apply Eq.trans (Mem.ev_tmp _ _ _)); simp only [List.getD_cons_succ, List.getD_cons_zero] <;> rfl)) (fun w' hw' => (hw'.cell (p := ⟨_, _, none⟩) GS3.out).trans S3.out) Tryd.underlying65 (by rfl) ?_
              (simp only [Act.put, List.setIfInBounds_toArray, List.set_cons_zero, List.set_cons_succ])
              refine plan_bin _ _ _ _ _ _ _ _ (by rfl) (by rfl) (by rfl) (by first | (with_reducible exact Mem.ev_const _ _) | (with_reducible exact Mem.ev_zero _ _ _) | (with_reducible (apply Eq.trans (Mem.ev_tmp _ _ _)); simp only [List.getD_cons_succ, List.getD_cons_zero] <;> rfl)) (by first | (with_reducible exact Mem.ev_const _ _) | (with_reducible exact Mem.ev_zero _ _ _) | (with_reducible (apply Eq.trans (Mem.ev_tmp _ _ _)); simp only [List.getD_cons_succ, List.getD_cons_zero] <;> rfl)) (fun wx => o_add _ _ _ _ _ _ wx) ?_
              (simp only [Act.put, List.setIfInBounds_toArray, List.set_cons_zero, List.set_cons_succ])
              refine plan_slice 96 65 1 _ #[.int .u32 (V (xv + sv))] (by rfl) (by rfl) (by rfl) Tryd.underlying96 (by kernel_rfl) (B.out.alloc B.out.size _) ?_
              (simp only [Act.put, List.setIfInBounds_toArray, List.set_cons_zero, List.set_cons_succ])
              refine plan_append_lit _ _ 96 (by rfl) (by rfl) (by rfl) (.int .u32 (V (xv + sv))) (.int .u32 0) 4 elemW (by rfl) (by first | (with_reducible exact Mem.ev_const _ _) | (with_reducible exact Mem.ev_zero _ _ _) | (with_reducible (apply Eq.trans (Mem.ev_tmp _ _ _)); simp only [List.getD_cons_succ, List.getD_cons_zero] <;> rfl)) OW.out (by first | (with_reducible exact Mem.ev_const _ _) | (with_reducible exact Mem.ev_zero _ _ _) | (with_reducible (apply Eq.trans (Mem.ev_tmp _ _ _)); simp only [List.getD_cons_succ, List.getD_cons_zero] <;> rfl)) (by rfl) (by rw [L1.out]; omega) (by rw [L1.out]; omega) B.out.size ?_
              intro v' w' ho' _ hb' _ _
              refine ⟨B.out.trans hb', ?_⟩
              have OW' := Lib.hid ho'; have BR' := Lib.hid (B.out.trans hb')
              clear ho' hb'
              (simp only [Act.put, List.setIfInBounds_toArray, List.set_cons_zero, List.set_cons_succ])
              (first | (refine plan_move _ _ (by rfl) (by rfl) (.inl (by rfl)) (by first | (with_reducible exact Mem.ev_const _ _) | (with_reducible exact Mem.ev_zero _ _ _) | (with_reducible (apply Eq.trans (Mem.ev_tmp _ _ _)); simp only [List.getD_cons_succ, List.getD_cons_zero] <;> rfl)) ?_) | (refine plan_move _ _ (by rfl) (by rfl) (.inr (by rfl)) (by first | (with_reducible exact Mem.ev_const _ _) | (with_reducible exact Mem.ev_zero _ _ _) | (with_reducible (apply Eq.trans (Mem.ev_tmp _ _ _)); simp only [List.getD_cons_succ, List.getD_cons_zero] <;> rfl)) ?_) | (refine plan_pick_t _ _ _ _ (by rfl) (by rfl) (by rfl) (by first | (with_reducible exact Mem.ev_const _ _) | (with_reducible exact Mem.ev_zero _ _ _) | (with_reducible (apply Eq.trans (Mem.ev_tmp _ _ _)); simp only [List.getD_cons_succ, List.getD_cons_zero] <;> rfl)) (by first | (with_reducible exact Mem.ev_const _ _) | (with_reducible exact Mem.ev_zero _ _ _) | (with_reducible (apply Eq.trans (Mem.ev_tmp _ _ _)); simp only [List.getD_cons_succ, List.getD_cons_zero] <;> rfl)) ?_) | (refine plan_pick_f _ _ _ _ (by rfl) (by rfl) (by rfl) (by first | (with_reducible exact Mem.ev_const _ _) | (with_reducible exact Mem.ev_zero _ _ _) | (with_reducible (apply Eq.trans (Mem.ev_tmp _ _ _)); simp only [List.getD_cons_succ, List.getD_cons_zero] <;> rfl)) (by first | (with_reducible exact Mem.ev_const _ _) | (with_reducible exact Mem.ev_zero _ _ _) | (with_reducible (apply Eq.trans (Mem.ev_tmp _ _ _)); simp only [List.getD_cons_succ, List.getD_cons_zero] <;> rfl)) ?_))
              (simp only [Act.put, List.setIfInBounds_toArray, List.set_cons_zero, List.set_cons_succ])
              refine plan_nil ?_
              go_wp2_with fail
              go_roundw
              case rel => exact ⟨t3 + 1, by omega, by go_num, by rw [NX.out]; exact OW'.out, BR'.out⟩
              case measure => simp [intOf]; omega
            · have h8 : t3 = 8 := by omega
              have hall : C.take t3 = comp H Bk := by rw [List.take_of_length_le (by rw [CL.out]; omega), HC.out]
              rw [hall] at how
              have hge3 : ¬ (t3 : Int) < 8 := by omega
              have OW := Lib.hid how; have BRR := Lib.hid hbr
              clear hall how hbr h8 hlt ht3
              go_wp2_with fail
              go_ret
              exact ⟨_, rfl, ownV_more OW.out BR.out.size, BR.out.trans (BRR.out.mono BR.out.size)⟩
end Sha
end Go.Proofs.YtjadjidjfkahpaaDoor
namespace Go.Proofs.YtjadjidjfkahpaaDoor
namespace Sha
open Go.RowKit Mem
theorem OwnV.wl' {w : World} {B : Nat} {e : TypeId} {v : Value} {l : List (BitVec 32)} (h : OwnV w B e v (u32s l)) (hl : 0 < l.length) : Wl w v l := by
  obtain ⟨a, c, rfl, _, hr⟩ := h.open
  obtain ⟨g, rfl, _, hg, hc⟩ := hr (by intro e; rw [← u32s_length, e] at hl; simp at hl)
  exact ⟨g, c, by rw [u32s_length], hg, fun i hi => hc i _ (u32s_get l i hi)⟩
theorem Wl.below {w w' : World} {v : Value} {l : List (BitVec 32)} (h : Wl w v l) (hb : Below w.heap.size w w') : Wl w' v l := by
  obtain ⟨g, c, rfl, hg, hc⟩ := h
  exact ⟨g, c, rfl, Nat.lt_of_lt_of_le hg hb.size, fun i hi => (hb.cell (p := ⟨g, i, none⟩) hg).trans (hc i hi)⟩
theorem comps_length (T : List (BitVec 8)) : ∀ j, (comps IVl T j).length = 8
  | 0 => by show IVl.length = 8; decide
  | j + 1 => by rw [comps]; exact comp_len _ _ (comps_length T j)
/-- Byte i of the digest. -/
def dByte (l : List (BitVec 32)) (i : Nat) : BitVec 8 := wb (l.getD (i / 4) 0) (24 - 8 * (i % 4))
def oRow (l : List (BitVec 32)) (i : Nat) : List (BitVec 8) := (List.range i).map (dByte l) ++ List.replicate (32 - i) 0
theorem oRow_all (l : List (BitVec 32)) : oRow l 32 = dRow l 8 := by kernel_rfl
theorem oRow_length (l : List (BitVec 32)) (i : Nat) (h : i ≤ 32) : (oRow l i).length = 32 := by simp [oRow]; omega
theorem oRow_set (l : List (BitVec 32)) (i : Nat) (h : i < 32) : (oRow l i).set i (dByte l i) = oRow l (i + 1) := by
  unfold oRow
  rw [List.set_append_right _ _ (by simp), show 32 - i = (32 - (i + 1)) + 1 by omega, List.replicate_succ, List.range_succ]
  simp
theorem wb_pow (x : BitVec 32) (k : Nat) : V x / 2 ^ k % 256 = ((wb x k).toNat : Int) := wb_val x k _ (by simp)
def BRel (w2 : World) (T : List (BitVec 8)) (m : Nat) (vs i : Value) (wr : World) : Prop :=
  ∃ j : Nat, j ≤ m ∧ i = .int .i64 (64 * (j : Int)) ∧ Wl wr vs (comps IVl T j) ∧ Below w2.heap.size w2 wr
set_option maxRecDepth 100000 in
set_option maxHeartbeats 1000000 in
theorem rsum_any (b : List (BitVec 8)) (v : Value) (w : World) (hb : Sl w v b) (lb : b.length ≤ 1099511627776) :
    Calls Tryd.prog 51 #[v] w fun e w' => e = .returned (.agg (dgOf b)) ∧ Below w.heap.size w w' := by
  have ALL := Lib.hid (fun w => all_any w)
  have PAD := Lib.hid (fun wx hx => pad_ref b v wx (hb.below hx) lb)
  obtain ⟨m, hm⟩ := padded_mod b.length
  obtain ⟨T, hT⟩ : ∃ T, T = b ++ padBytes b.length := ⟨_, rfl⟩
  have hTl : T.length = 64 * m := by rw [hT, List.length_append, hm]
  have hdg : dgOf b = (u8s (oRow (comps IVl T m) 32)).toArray := by rw [oRow_all, dgOf, hT, digest_comps b m (by rw [← hT, hTl])]
  rw [hdg]
  rw [← hT] at PAD
  have TL := Lib.hid hTl
  have hm2 : 64 * m ≤ 1099511628000 := by
    have := padBytes_length b.length
    have h2 := padQ_bd (b.length % 64) (Nat.mod_lt _ (by decide))
    rw [this] at hm
    omega
  clear hdg hT hTl hm lb hb
  go_enter Tryd.func51, Tryd.ntmps51
  go_wp2_with fail
  generalize hw0 : w.alloc _ = w0
  have at0 : At w0 w.heap.size Z32 24 := by rw [← hw0]; exact at_new w Z32 _
  have bl0 : Below w.heap.size w w0 := by rw [← hw0]; exact (Below.refl _ _).alloc (Nat.le_refl _) _
  have A0 := Lib.hid at0; have BL0 := Lib.hid bl0
  clear at0 bl0 hw0
  refine (ALL.out _).mono ?_
  rintro e w1 ⟨vk, vf, rfl, hok, hof, hb1⟩
  have WK := Lib.hid (OwnV.wl' hok (by decide)); have WF := Lib.hid (OwnV.wl' hof (by decide)); have BL1 := Lib.hid (BL0.out.trans (hb1.mono BL0.out.size)); have A1 := Lib.hid (A0.out.below hb1 A0.out.lt)
  clear hok hof hb1
  go_wp2_with fail
  refine (PAD.out _ BL1.out).mono ?_
  rintro e w2 ⟨vp, rfl, hop, hb2⟩
  obtain ⟨ap, cp, rfl, hcp, hpc⟩ := hop.open
  have WK2 := Lib.hid (Wl.below WK.out hb2); have WF2 := Lib.hid (Wl.below WF.out hb2); have BL2 := Lib.hid (BL1.out.trans (hb2.mono BL1.out.size)); have A2 := Lib.hid (A1.out.below hb2 A1.out.lt)
  rw [TL.out] at hcp ⊢
  have PC := Lib.hid hpc; have CP := Lib.hid hcp
  clear WK WF A1 BL1 BL0 A0 hb2 hop hpc hcp ALL PAD
  go_wp2_with fail
  go_loopw [4, 6] (fun v i wr => BRel w2 T m v i wr) (fun _ i _ => (64 * (m : Int) - intOf i).toNat)
  case atStart => exact ⟨0, by omega, rfl, WF2.out, Below.refl _ _⟩
  case round =>
    obtain ⟨j, hj, rfl, hwl, hbr⟩ := hrel
    by_cases hlt : j < m
    · obtain ⟨gp, rfl, _, hgp, hpcell⟩ := PC.out (by intro e; have := TL.out; rw [e] at this; simp at this; omega)
      have hs1 : 64 * j < cp := by have := CP.out; omega
      have hs2 : 64 * j + 64 ≤ cp := by have := CP.out; omega
      have hlt' : 64 * (j : Int) < 64 * (m : Int) := by omega
      have hsl : Sl wr (.slice (some ⟨gp, 64 * j, none⟩) 64 (cp - 64 * j)) ((T.drop (64 * j)).take 64) := by
        have hl : ((T.drop (64 * j)).take 64).length = 64 := by rw [List.length_take, List.length_drop, TL.out]; omega
        refine ⟨_, cp - 64 * j, by rw [hl], by rw [hl]; omega, fun _ => ⟨gp, 64 * j, rfl, Nat.lt_of_lt_of_le hgp hbr.size, fun i hi => ?_⟩⟩
        rw [hl] at hi
        rw [hbr.cell (p := ⟨gp, 64 * j + i, none⟩) hgp, hpcell (64 * j + i) (by rw [TL.out]; omega)]
        simp [List.getD_eq_getElem?_getD, hi]
      have hst := step_ref (comps IVl T j) ((T.drop (64 * j)).take 64) vk u4 _ wr (Wl.below WK2.out hbr) hwl hsl (comps_length T j) (by rw [List.length_take, List.length_drop, TL.out]; omega)
      have ST := Lib.hid hst; have BR := Lib.hid hbr; have S1 := Lib.hid hs1; have S2 := Lib.hid hs2
      clear hst hbr hs1 hs2 hsl hwl hpcell hgp
      go_wp2_with (refine wpList_slice_mid (by rfl) _ _ _ _ (by rfl) _ Tryd.underlying22 (by kernel_rfl) gp 0 (64 * m) cp (64 * j) (64 * j + 64) (by rfl) (by first | rfl | (go_num; done)) (by first | rfl | (go_num; done)) (by omega) S2.out S1.out ?_)
      refine ST.out.mono ?_
      rintro e w' ⟨v', rfl, ho', hb'⟩
      have OW' := Lib.hid (OwnV.wl' ho' (by rw [comp_len _ _ (comps_length T j)]; decide)); have BR' := Lib.hid (BR.out.trans (hb'.mono BR.out.size))
      clear ho' hb'
      go_wp2_with fail
      go_roundw
      case rel => exact ⟨j + 1, by omega, by first | rfl | (go_num; done) | (simp; omega), OW'.out, BR'.out⟩
      case measure => simp [intOf]; omega
    · have hjm : j = m := by omega
      have hge : ¬ 64 * (j : Int) < 64 * (m : Int) := by omega
      rw [hjm] at hwl
      obtain ⟨gs, cs, rfl, hgs, hsc⟩ := hwl
      rw [comps_length] at hsc ⊢
      have GS := Lib.hid hgs; have SC := Lib.hid hsc; have BR := Lib.hid hbr
      clear hgs hsc hbr hjm PC WK2 WF2 CP
      go_wp2_with fail
      have hrow0 : (u8s (oRow (comps IVl T m) 0)).toArray = Z32 := by kernel_rfl
      generalize hwa : wr.alloc _ = wa
      have at0 : At wa wr.heap.size (u8s (oRow (comps IVl T m) 0)).toArray 24 := by rw [← hwa, hrow0]; exact at_new wr Z32 _
      have bl0 : Below wr.heap.size wr wa := by rw [← hwa]; exact (Below.refl _ _).alloc (Nat.le_refl _) _
      obtain ⟨L, hL⟩ : ∃ L, L = comps IVl T m := ⟨_, rfl⟩
      rw [← hL] at at0 SC
      have HL := Lib.hid hL; have AA := Lib.hid at0; have BA := Lib.hid bl0
      clear hwa at0 bl0 hrow0 hL
      obtain ⟨wq, rfl⟩ : ∃ wq : World, wq = wr := ⟨_, rfl⟩
      go_loopw [8] (fun i wr => ∃ k : Nat, k ≤ 32 ∧ i = .int .i64 k ∧ At wr wq.heap.size (u8s (oRow L k)).toArray 24 ∧ Below wq.heap.size wq wr) (fun i _ => 32 - (intOf i).toNat)
      case atStart => exact ⟨0, by omega, rfl, AA.out, BA.out⟩
      case round =>
        clear AA BA
        obtain ⟨k, hk, rfl, hat, hbx⟩ := hrel
        by_cases hlt2 : k < 32
        · obtain ⟨q, hq⟩ : ∃ q : Nat, q = k / 4 := ⟨_, rfl⟩
          obtain ⟨r, hr⟩ : ∃ q : Nat, q = k % 4 := ⟨_, rfl⟩
          have hq1 : (k : Int).tdiv 4 = (q : Int) := by rw [Int.tdiv_eq_ediv_of_nonneg (by omega)]; omega
          have hr1 : (k : Int).tmod 4 = (r : Int) := by rw [Int.tmod_eq_emod_of_nonneg (by omega)]; omega
          have hq8 : q < 8 := by omega
          have hr4 : r < 4 := by omega
          obtain ⟨x, hx⟩ : ∃ x, x = L.getD q 0 := ⟨_, rfl⟩
          have hcell : wr.cell? ⟨gs, q, none⟩ = some (.int .u32 (V x)) := by rw [hbx.cell (p := ⟨gs, q, none⟩) GS.out, hx]; exact SC.out q hq8
          have hdb : dByte L k = wb x (24 - 8 * r) := by rw [dByte, hx, hq, hr]
          have DB := Lib.hid hdb; have AT := Lib.hid hat; have BX := Lib.hid hbx
          have hlt' : (k : Int) < 32 := by omega
          have hv0 := V_lo x
          clear hdb hat hbx hx hq hr
          go_wp2_with (refine Mem.wpList_store_one (by rfl) 5 _ _ (by rfl) (by rfl) wq.heap.size k (.int .u8 ((wb x (24 - 8 * r)).toNat : Int)) (by rfl) (by exact congrArg (Value.int .u8) (wb_pow x _)) (by rfl) infoB _ _ AT.out (by simp [u8s, oRow_length L k hk]; omega) ?_; intro w' hat' ho' hb'; have AT' := Lib.hid hat'; have BX' := Lib.hid (hb' _ _ BX.out (Nat.le_refl _)); clear hat' ho' hb')
          go_roundw
          case rel => exact ⟨k + 1, by omega, by go_num, by rw [← oRow_set L k hlt2, DB.out, ← u8s_set]; exact AT'.out, BX'.out⟩
          case measure => simp [intOf]; omega
        · have hk32 : k = 32 := by omega
          rw [hk32] at hat
          obtain ⟨G, hG⟩ : ∃ G, G = (u8s (oRow L 32)).toArray := ⟨_, rfl⟩
          rw [← hG] at hat
          have hGs : G.size = 32 := by rw [hG]; simp [u8s, oRow_length]
          have hGo : G.all (·.oneCell') = true := by rw [hG]; exact u8s_one _
          have hge2 : ¬ (k : Int) < 32 := by omega
          have BX := Lib.hid ((BR.out.trans (hbx.mono BR.out.size)))
          have hA := (A2.out.below BX.out A2.out.lt)
          have HG := Lib.hid hG; have AT := Lib.hid hat; have GZ := Lib.hid hGs; have GO := Lib.hid hGo; have A3 := Lib.hid hA
          clear hG hat hGs hGo hbx hA hk32 hlt2 hk
          go_wp2_with (first | (refine wpList_load_all (by rfl) 24 _ (by rfl) wq.heap.size (by rfl) _ Tryd.underlying24 (by rfl) G _ AT.out (by rw [GZ.out]; exact info32) ?_) | (refine wpList_store_all (by rfl) 24 _ _ (by rfl) (by rfl) w.heap.size G (by rfl) (by rfl) (by rw [GZ.out]; exact info32) _ _ A3.out (by rw [GZ.out]; simp [Z32, u8s]) GO.out ?_))
          try simp only [Exit.inBlock, Exit.then]
          refine ret_row (by rfl) w.heap.size 24 G _ (by rfl) (A3.out.row G) Tryd.underlying24 (by rfl) (by rw [GZ.out]; exact info32) ?_
          exact ⟨by rw [HG.out, HL.out], (BL2.out.trans (BX.out.mono BL2.out.size)).trans ⟨rfl, rfl, rfl, by simp, fun k hk => setRow_other _ _ k G (by omega)⟩⟩
end Sha
end Go.Proofs.YtjadjidjfkahpaaDoor
