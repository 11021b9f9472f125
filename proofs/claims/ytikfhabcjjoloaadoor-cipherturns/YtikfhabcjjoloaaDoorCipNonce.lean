/- The document's nonce: its walk. -/
import Derived.Test.YtikfhabcjjoloaaDoorCipPlaces
namespace Go.Proofs.YtikfhabcjjoloaaDoor
namespace Sha
open Go.RowKit Mem
def Z12 : Array Value := (u8s (List.replicate 12 0)).toArray
theorem zero12 (w : World) : (zeroValue 23).run Tryd.prog w = .ok (.agg Z12) w := by kernel_rfl
theorem info12 : (Tryd.prog.info? 23).map (·.size) = some 12 := by kernel_rfl
/-- The first i bytes of a row of n, the others 0. -/
def rowZ (l : List (BitVec 8)) (n i : Nat) : List (BitVec 8) := l.take i ++ List.replicate (n - i) 0
theorem rowZ_length (l : List (BitVec 8)) (n i : Nat) (hl : l.length = n) (h : i ≤ n) : (rowZ l n i).length = n := by simp [rowZ, hl]; omega
theorem rowZ_set (l : List (BitVec 8)) (n i : Nat) (hl : l.length = n) (h : i < n) : (rowZ l n i).set i (l.getD i 0) = rowZ l n (i + 1) := by
  unfold rowZ
  have hi : i < l.length := by omega
  rw [List.set_append_right _ _ (by rw [List.length_take]; omega), List.length_take, Nat.min_eq_left (by omega), Nat.sub_self, show n - i = (n - (i + 1)) + 1 by omega, List.replicate_succ, List.set_cons_zero, List.take_succ_eq_append_getElem hi, List.append_assoc]
  simp [List.getD_eq_getElem?_getD, hi]
theorem rowZ_all (l : List (BitVec 8)) (n : Nat) (hl : l.length = n) : rowZ l n n = l := by
  unfold rowZ
  rw [List.take_of_length_le (by omega)]
  simp
theorem cnonce_low (e : BitVec 32) (b : BitVec 64) (j : Nat) (h : j < 4) : (cnonce e b).getD j 0 = wb e (8 * j) := by
  simp [cnonce, List.getD_eq_getElem?_getD, List.getElem?_append, h]
theorem cnonce_high (e : BitVec 32) (b : BitVec 64) (j : Nat) (h : j < 8) : (cnonce e b).getD (4 + j) 0 = wb64 b (8 * j) := by
  have h4 : ¬ 4 + j < 4 := by omega
  simp [cnonce, List.getD_eq_getElem?_getD, List.getElem?_append, h, h4]
theorem wb_pow' (x : BitVec 32) (k : Nat) : V x / 2 ^ k % 256 = ((wb x k).toNat : Int) := wb_val x k _ (by simp)
theorem wb64_pow (x : BitVec 64) (k : Nat) : (x.toNat : Int) / 2 ^ k % 256 = ((wb64 x k).toNat : Int) := by
  have h : (wb64 x k).toNat = x.toNat / 2 ^ k % 256 := by
    rw [wb64, BitVec.toNat_setWidth, BitVec.toNat_ushiftRight, Nat.shiftRight_eq_div_pow]
  rw [h]; simp
structure NInv (L : List (BitVec 8)) (B : Nat) (X : Array Value) (w wr : World) : Prop where
  r : At wr B X 23
  k : At wr (B + 1) (u8s L).toArray 23
  b : Below w.heap.size w wr
def ncOf (e : BitVec 32) (b : BitVec 64) : Array Value := (u8s (cnonce e b)).toArray
set_option maxRecDepth 100000 in
set_option maxHeartbeats 1000000 in
theorem rnonce_any (e : BitVec 32) (b : BitVec 64) (w : World) :
    Calls Tryd.prog 19 #[.int .u32 (V e), .int .u64 (b.toNat : Int)] w fun o w' => o = .returned (.agg (ncOf e b)) ∧ Below w.heap.size w w' := by
  obtain ⟨X, hX⟩ : ∃ X, X = Z12 := ⟨_, rfl⟩
  have hx := zero12
  rw [← hX] at hx
  have hXs : X.size = 12 := by rw [hX]; simp [Z12, u8s]
  obtain ⟨l, hl⟩ : ∃ l, l = cnonce e b := ⟨_, rfl⟩
  have ll : l.length = 12 := by rw [hl]; exact cnonce_length e b
  have hlo : ∀ j, j < 4 → l.getD j 0 = wb e (8 * j) := by rw [hl]; exact cnonce_low e b
  have hhi : ∀ j, j < 8 → l.getD (4 + j) 0 = wb64 b (8 * j) := by rw [hl]; exact cnonce_high e b
  have hI : NInv (rowZ l 12 0) w.heap.size X w ((w.alloc (.cells X 23)).alloc (.cells X 23)) := by
    refine ⟨(at_new w X _).alloc _, ?_, ((Below.refl _ _).alloc (Nat.le_refl _) _).alloc (by simp) _⟩
    have h := at_new (w.alloc (.cells X 23)) X 23
    have e : (u8s (rowZ l 12 0)).toArray = X := by rw [hX]; simp [rowZ, Z12]
    rw [e]
    simpa using h
  have HI := Lib.hid hI; have HL := Lib.hid hl; have XS := Lib.hid hXs; have LL := Lib.hid ll; have LO := Lib.hid hlo; have HH := Lib.hid hhi
  clear hI hl hX hXs ll hlo hhi
  have ve0 := V_lo e; have ve1 := V_hi e
  have vb0 : 0 ≤ (b.toNat : Int) := Int.natCast_nonneg _
  go_enter Tryd.func19, Tryd.ntmps19
  go_wp2_with fail
  generalize (w.alloc (.cells X 23)).alloc (.cells X 23) = w4 at *
  clear hx
  go_loopw [6] (fun i wr => ∃ j : Nat, j ≤ 4 ∧ i = .int .i64 j ∧ NInv (rowZ l 12 j) w.heap.size X w wr) (fun i _ => 4 - (intOf i).toNat)
  case atStart => exact ⟨0, by omega, rfl, HI.out⟩
  case round =>
    clear HI
    obtain ⟨j, hj, rfl, hI⟩ := hrel
    by_cases hlt : j < 4
    · have hset : (u8s (rowZ l 12 j)).toArray.setIfInBounds j (.int .u8 ((wb e (8 * j)).toNat : Int)) = (u8s (rowZ l 12 (j + 1))).toArray := by
        rw [← rowZ_set l 12 j LL.out (by omega), LO.out j hlt]; exact u8s_set _ _ _
      have hEs : j < (u8s (rowZ l 12 j)).toArray.size := by simp [u8s, rowZ_length l 12 j LL.out (by omega)]; omega
      have hR := hI.r; have hB := hI.b; have hk := hI.k
      obtain ⟨E, hE⟩ : ∃ E, E = (u8s (rowZ l 12 j)).toArray := ⟨_, rfl⟩
      rw [← hE] at hk hset hEs
      have KK := Lib.hid hk; have ST := Lib.hid hset; have ES := Lib.hid hEs; have RR := Lib.hid hR; have BB := Lib.hid hB
      have hlt' : (j : Int) < 4 := by omega
      clear hk hset hEs hI hE hR hB
      go_wp2_with (refine Mem.wpList_store_one (by rfl) 5 _ _ (by rfl) (by rfl) (w.heap.size + 1) j (.int .u8 ((wb e (8 * j)).toNat : Int)) (by rfl) (by exact congrArg (Value.int .u8) (wb_pow' e _)) (by rfl) infoB _ _ KK.out ES.out ?_; intro w' hat' ho' hb'; have KK' := Lib.hid hat'; have RR' := Lib.hid (at_keep RR.out ho' (by omega)); have BB' := Lib.hid (hb' _ _ BB.out (by omega)); clear hat' ho' hb')
      go_roundw
      case rel => exact ⟨j + 1, by omega, by go_num, RR'.out, by rw [← ST.out]; exact KK'.out, BB'.out⟩
      case measure => simp [intOf]; omega
    · have hj4 : j = 4 := by omega
      have hge : ¬ (j : Int) < 4 := by omega
      rw [hj4] at hI
      have hI2 := Lib.hid hI
      clear hI hj4 hlt hj
      go_wp2_with fail
      go_loopw [7] (fun i wr => ∃ j : Nat, j ≤ 8 ∧ i = .int .i64 j ∧ NInv (rowZ l 12 (4 + j)) w.heap.size X w wr) (fun i _ => 8 - (intOf i).toNat)
      case atStart => exact ⟨0, by omega, rfl, hI2.out⟩
      case round =>
        clear hI2
        obtain ⟨k, hk8, rfl, hI⟩ := hrel
        by_cases hlt : k < 8
        · have hset : (u8s (rowZ l 12 (4 + k))).toArray.setIfInBounds (4 + k) (.int .u8 ((wb64 b (8 * k)).toNat : Int)) = (u8s (rowZ l 12 (4 + (k + 1)))).toArray := by
            rw [show 4 + (k + 1) = (4 + k) + 1 by omega, ← rowZ_set l 12 (4 + k) LL.out (by omega), HH.out k hlt]; exact u8s_set _ _ _
          have hEs : 4 + k < (u8s (rowZ l 12 (4 + k))).toArray.size := by simp [u8s, rowZ_length l 12 (4 + k) LL.out (by omega)]; omega
          have hR := hI.r; have hB := hI.b; have hk := hI.k
          obtain ⟨E, hE⟩ : ∃ E, E = (u8s (rowZ l 12 (4 + k))).toArray := ⟨_, rfl⟩
          rw [← hE] at hk hset hEs
          have KK := Lib.hid hk; have ST := Lib.hid hset; have ES := Lib.hid hEs; have RR := Lib.hid hR; have BB := Lib.hid hB
          have hlt' : (k : Int) < 8 := by omega
          clear hk hset hEs hI hE hR hB
          go_wp2_with (refine Mem.wpList_store_one (by rfl) 5 _ _ (by rfl) (by rfl) (w.heap.size + 1) (4 + k) (.int .u8 ((wb64 b (8 * k)).toNat : Int)) (by rfl) (by exact congrArg (Value.int .u8) (wb64_pow b _)) (by rfl) infoB _ _ KK.out ES.out ?_; intro w' hat' ho' hb'; have KK' := Lib.hid hat'; have RR' := Lib.hid (at_keep RR.out ho' (by omega)); have BB' := Lib.hid (hb' _ _ BB.out (by omega)); clear hat' ho' hb')
          go_roundw
          case rel => exact ⟨k + 1, by omega, by go_num, RR'.out, by rw [← ST.out]; exact KK'.out, BB'.out⟩
          case measure => simp [intOf]; omega
        · have hk8' : 4 + k = 12 := by omega
          have hge2 : ¬ (k : Int) < 8 := by omega
          have hall : rowZ l 12 (4 + k) = l := by rw [hk8']; exact rowZ_all l 12 LL.out
          rw [hall] at hI
          obtain ⟨M, hM⟩ : ∃ M, M = ncOf e b := ⟨_, rfl⟩
          have hk := hI.k
          rw [show (u8s l).toArray = M by rw [hM, HL.out]; rfl] at hk
          have hMs : M.size = 12 := by rw [hM]; simp [ncOf, u8s, cnonce_length]
          have hMo : M.all (·.oneCell') = true := by rw [hM]; exact u8s_one _
          have HM := Lib.hid hM; have MS := Lib.hid hMs; have MO := Lib.hid hMo; have KK := Lib.hid hk; have RR := Lib.hid hI.r; have BB := Lib.hid hI.b
          clear hM hMs hMo hk hI hall hk8' hlt hk8
          go_wp2_with (first | (refine wpList_load_all (by rfl) 23 _ (by rfl) (w.heap.size + 1) (by rfl) _ Tryd.underlying23 (by rfl) M _ KK.out (by rw [MS.out]; exact info12) ?_) | (refine wpList_store_all (by rfl) 23 _ _ (by rfl) (by rfl) w.heap.size M (by rfl) (by rfl) (by rw [MS.out]; exact info12) _ _ RR.out (by rw [MS.out, XS.out]) MO.out ?_))
          try simp only [Exit.inBlock, Exit.then]
          refine ret_row (by rfl) w.heap.size 23 M _ (by rfl) (RR.out.row M) Tryd.underlying23 (by rfl) (by rw [MS.out]; exact info12) ?_
          exact ⟨by rw [HM.out], below_row BB.out (by omega) M⟩
end Sha
end Go.Proofs.YtikfhabcjjoloaaDoor
