/- A region that draws its order and whose last operations stand in one forced order: the ones ahead of them are walked once, in the order of the text. Over any program. The walks of the digest's small functions: turning a word, a state's length, the length of its tail, a new state, a round constant. The walk of the message schedule: the words of a block. Plain mathematics: a state is fed byte by byte; that is as it is fed chunk by chunk. The walk of a block that turns a state. The walk of a state's Write: its loop copies chunk by chunk. Loads of several cells, and cuts of arrays, in a region that draws its order. Over any program. The walk of a state's pad. The walk of a state's Sum. The walks of writeAll, Sum of parts, and the check that the digest of three bytes is right. The walks of New, of Sum of parts, and of the law's own check that the digest of three bytes is right. Slices of bytes that a call makes itself: they read as lists; append onto them. The law's own far. The digest's functions by the bytes so far: a state is that of its bytes. -/
import Derived.StillTailTactics
import Derived.Deep.QuietTactic
import Derived.BigQuiet
import Derived.WalkKit
import Derived.Test.YtjadjidjfkahpaaDoorChecked
import Derived.Test.YtjadjidjfkahpaaDoorBA
import Derived.WalkSpells
import Derived.WalkLawsBesides
import Derived.Lib.Hide
import Derived.Deep.MidRow
import Derived.Deep.DeepFit
import Derived.Maps.AppendAt
import Derived.OwnWalk
namespace Go.Proofs.YtjadjidjfkahpaaDoor
namespace Mem
variable {P : Program}

theorem still_of_quiet {ops : Array Oper} {w : World} {Q : Act → Prop} : ∀ (l : List Oper) (a : Act), wpQuiet P ops (fun w' => w' = w) Q l a → wpStill P ops w Q l a
  | [], _, h => h
  | o :: rest, a, h => by
    unfold wpQuiet at h
    unfold wpStill
    split
    · rename_i hw
      rw [if_pos hw] at h
      obtain ⟨v, h1, h2⟩ := h
      have h3 := h1 w rfl
      unfold Oper.quietAt at h3
      unfold Oper.still
      generalize (execOp a.eval o).run P w = r at h3
      cases r with
      | ok x w' =>
        cases x <;> simp only [Oper.quietUpon] at h3 <;> simp only [Oper.stillUpon]
        case value u => exact ⟨h3.1, by rw [h3.2]; exact still_of_quiet rest _ h2⟩
        case skip => exact ⟨h3.1, by rw [← h3.2]; exact still_of_quiet rest _ h2⟩
        case enter f args => exact ⟨h3.1, v, h3.2, still_of_quiet rest _ h2⟩
      | halt x w' => simp only [Oper.quietUpon] at h3
    · rename_i hw
      rw [if_neg hw] at h
      exact still_of_quiet rest _ h

theorem wp_region_quiet_tail {id : Nat} {Q : Exit → Act → World → Prop} {a : Act} {w : World} {l : List Oper} (n : Nat) (hm : P.follows .mixedOrders = true) (hB : Region.lexTailB .any l.toArray n = true)
    (h : wpQuiet P l.toArray (fun w' => w' = w.drew) (fun a' => wpList P l.toArray Q (l.drop n) a' w.drew) (l.take n) a) : (Code.region id l.toArray true).wp P Q a w :=
  wp_region_still_tail n hm hB (still_of_quiet _ _ h)
end Mem
end Go.Proofs.YtjadjidjfkahpaaDoor
namespace Go.Proofs.YtjadjidjfkahpaaDoor
namespace Sha
open Go.RowKit
theorem rotl_val (x : BitVec 32) (k : Nat) (hk : k < 32) :
    bits BinOp.or IntKind.u32 (V x * 2 ^ k % 4294967296) (V x / 2 ^ (32 - k)) = V (x.rotateLeft k) := by
  have e1 : V x * 2 ^ k % 4294967296 = V (x <<< k) := by
    unfold V
    rw [BitVec.toNat_shiftLeft, Nat.shiftLeft_eq]
    show _ = ((x.toNat * 2 ^ k % 4294967296 : Nat) : Int)
    rw [Int.natCast_emod, Int.natCast_mul, Int.natCast_pow]; rfl
  have e2 : V x / 2 ^ (32 - k) = V (x >>> (32 - k)) := by
    unfold V
    rw [BitVec.toNat_ushiftRight, Nat.shiftRight_eq_div_pow, Int.natCast_ediv, Int.natCast_pow]; rfl
  rw [e1, e2, r_or, BitVec.rotateLeft_def, Nat.mod_eq_of_lt hk]
set_option maxHeartbeats 400000 in
theorem rotl_any (x : BitVec 32) (n : Int) (k : Nat) (w : World) (hk : bits BinOp.and IntKind.u64 (IntKind.u64.wrap n) 31 = (k : Int)) (hk' : k < 32) :
    Calls Tryd.prog 80 #[.int .u32 (V x), .int .i64 n] w fun e w' => e = .returned (.int .u32 (V (x.rotateLeft k))) ∧ w = w' := by
  have hv0 := V_lo x
  have hv1 := V_hi x
  go_enter Tryd.func80, Tryd.ntmps80
  go_wp2
  go_ret
  exact ⟨congrArg (fun q => Ending.returned (.int .u32 q)) (rotl_val x k hk'), rfl⟩
set_option maxHeartbeats 400000 in
theorem tailSize_any (C : Array Value) (n : Nat) (w : World) (h1 : C[72]? = some (.int .u64 n)) :
    Calls Tryd.prog 59 #[.agg C] w fun e w' => e = .returned (.int .i64 (n % 64 : Nat)) ∧ Below w.heap.size w w' := by
  have h2 : n % 64 < 64 := Nat.mod_lt _ (by decide)
  go_enter Tryd.func59, Tryd.ntmps59
  go_wp2
  go_ret
  exact ⟨rfl, (Below.refl _ _).alloc (Nat.le_refl _) _⟩
set_option maxHeartbeats 400000 in
theorem turn_any (x : BitVec 32) (n : Int) (r : Nat) (w : World) (hr : (n % 32).toNat = r) (_h0 : -9223372036854775808 ≤ n) (_h1 : n ≤ 9223372036854775807) :
    Calls Tryd.prog 69 #[.int .u32 (V x), .int .i64 n] w fun e w' => e = .returned (.int .u32 (V (x.rotateRight r))) ∧ w = w' := by
  have ht : n.tmod 32 = n % 32 ∨ (n.tmod 32 = n % 32 - 32 ∧ n % 32 ≠ 0) := by
    rw [Int.tmod_eq_emod]
    split
    · left; omega
    · rename_i h
      right
      refine ⟨by simp, fun e => h (Or.inr (Int.dvd_of_emod_eq_zero e))⟩
  have hm : -32 < n.tmod 32 ∧ n.tmod 32 < 32 := by omega
  have hk : (-n.tmod 32 % 32).toNat = (32 - r) % 32 := by omega
  have hr32 : r < 32 := by omega
  have hw : wrap64 (-n.tmod 32) = -n.tmod 32 := IntWalk.wrap64_in _ (by omega)
  have c : Calls Tryd.prog 80 #[.int .u32 (V x), .int .i64 (wrap64 (-n.tmod 32))] w fun e w' => e = .returned (.int .u32 (V (x.rotateRight r))) ∧ w = w' := by
    rw [hw, ← rotr_rotl x r hr32, ← hk]
    exact rotl_any x _ _ w (and31 _) (by omega)
  clear ht hm hk hw
  have HR := Lib.hid hr; clear hr
  have C := Lib.hid c; clear c
  go_enter Tryd.func69, Tryd.ntmps69
  go_wp2_with (go_at_call 80; refine C.out.mono ?_; rintro e w' ⟨rfl, rfl⟩)
  go_ret
  exact ⟨rfl, rfl⟩
end Sha
end Go.Proofs.YtjadjidjfkahpaaDoor
namespace Go.Proofs.YtjadjidjfkahpaaDoor
namespace Sha
open Go.RowKit Mem

/-- The row of the first k words, 0 behind them. -/
def wrow (l : List (BitVec 32)) : Array Value := (u32s (l ++ List.replicate (64 - l.length) 0)).toArray
def Z64 : Array Value := wrow []
theorem zero64 (w : World) : (zeroValue 104).run Tryd.prog w = .ok (.agg Z64) w := by kernel_rfl
theorem wrow_get (l : List (BitVec 32)) (i : Nat) (h : i < 64) (hl : l.length ≤ 64) : (wrow l)[i]? = some (.int .u32 (V (l.getD i 0))) := by
  unfold wrow
  rw [List.getElem?_toArray]
  rw [u32s_get _ i (by simp; omega)]
  have e : (l ++ List.replicate (64 - l.length) 0).getD i 0 = l.getD i 0 := ?_
  · rw [e]
  simp only [List.getD_eq_getElem?_getD, List.getElem?_append]
  split
  · rfl
  · rename_i h'
    rw [List.getElem?_replicate, List.getElem?_eq_none (by omega)]
    split <;> rfl
theorem wrow_set (l : List (BitVec 32)) (x : BitVec 32) (hl : l.length < 64) : (wrow l).setIfInBounds l.length (.int .u32 (V x)) = wrow (l ++ [x]) := by
  unfold wrow u32s
  rw [List.setIfInBounds_toArray]
  congr 1
  have e : 64 - l.length = (64 - (l ++ [x]).length) + 1 := by simp; omega
  rw [e, List.replicate_succ]
  simp
theorem wrow_size (l : List (BitVec 32)) (h : l.length ≤ 64) : (wrow l).size = 64 := by
  simp [wrow, u32s]; omega
theorem info64 : (Tryd.prog.info? 104).map (·.size) = some 64 := by kernel_rfl
structure SInv (B : Nat) (A : Array Value) (l : List (BitVec 32)) (w wr : World) : Prop where
  a : At wr B A 67
  r : At wr (B + 1) Z64 104
  v : At wr (B + 2) (wrow l) 104
  b : Below B w wr
set_option maxRecDepth 100000 in
set_option maxHeartbeats 400000 in
theorem sched_any (T : List (BitVec 8)) (hT : T.length = 64) (w : World) :
    Calls Tryd.prog 68 #[.agg (u8s T).toArray] w fun e w' => e = .returned (.agg (u32s (sched T)).toArray) ∧ Below w.heap.size w w' := by
  obtain ⟨A, hA⟩ : ∃ A, A = (u8s T).toArray := ⟨_, rfl⟩
  obtain ⟨Z, hZ⟩ : ∃ Z, Z = Z64 := ⟨_, rfl⟩
  rw [← hA]
  have hz := zero64
  rw [← hZ] at hz
  have HA := Lib.hid hA; have HZ := Lib.hid hZ; have HT := Lib.hid hT; clear hA hZ hT
  go_enter Tryd.func68, Tryd.ntmps68
  go_wp2_with fail
  go_loopw [4, 10] (fun _ v10 wr => ∃ k : Nat, k ≤ 16 ∧ v10 = .int .i64 k ∧ SInv w.heap.size A (wds T k) w wr) (fun _ v10 _ => 16 - (intOf v10).toNat)
  case atStart =>
    refine ⟨0, by omega, rfl, ?_, ?_, ?_, ?_⟩
    · exact ((at_new w A _).alloc _).alloc _
    · rw [← HZ.out]
      have := (at_new (w.alloc (.cells A 67)) Z 104).alloc (.cells Z 104)
      simpa using this
    · have e : wrow (wds T 0) = Z := HZ.out.symm
      rw [e]
      have := at_new ((w.alloc (.cells A 67)).alloc (.cells Z 104)) Z 104
      simpa using this
    · exact (((Below.refl _ _).alloc (Nat.le_refl _) _).alloc (by simp) _).alloc (by simp; omega) _
  case round =>
    obtain ⟨k, hk, rfl, hI⟩ := hrel
    by_cases hlt : k < 16
    · have key : ∀ j, j < 4 → wr.cell? ⟨w.heap.size, 4 * k + j, none⟩ = some (.int .u8 ((T.getD (4 * k + j) 0).toNat : Int)) := fun j hj => by
        rw [hI.a.cell, HA.out, List.getElem?_toArray]
        exact u8s_get T _ (by rw [HT.out]; omega)
      have c0 := key 0 (by omega)
      have c1 := key 1 (by omega)
      have c2 := key 2 (by omega)
      have c3 := key 3 (by omega)
      clear key
      obtain ⟨b0, e0⟩ : ∃ b, b = T.getD (4 * k) 0 := ⟨_, rfl⟩
      obtain ⟨b1, e1⟩ : ∃ b, b = T.getD (4 * k + 1) 0 := ⟨_, rfl⟩
      obtain ⟨b2, e2⟩ : ∃ b, b = T.getD (4 * k + 2) 0 := ⟨_, rfl⟩
      obtain ⟨b3, e3⟩ : ∃ b, b = T.getD (4 * k + 3) 0 := ⟨_, rfl⟩
      rw [Nat.add_zero, ← e0] at c0
      rw [← e1] at c1
      rw [← e2] at c2
      rw [← e3] at c3
      have E := Lib.hid (And.intro e0 (And.intro e1 (And.intro e2 e3)))
      clear e0 e1 e2 e3
      have l0 := b0.isLt
      have l1 := b1.isLt
      have l2 := b2.isLt
      have l3 := b3.isLt
      have hf : wr.frozen? ⟨w.heap.size + 1 + 1, k, none⟩ = false := hI.v.free k
      have hdr : wr.drew.heap = wr.heap := rfl
      have hc : wr.cell? ⟨w.heap.size + 1 + 1, k, none⟩ = some (.int .u32 0) := by
        rw [show w.heap.size + 1 + 1 = w.heap.size + 2 from rfl, hI.v.cell, wrow_get _ k (by omega) (by rw [wds_length]; omega)]
        rw [List.getD_eq_getElem?_getD, List.getElem?_eq_none (by rw [wds_length]; omega)]; rfl
      go_wp2_with fail
      refine wp_region_quiet_tail 31 (by kernel_rfl) (by kernel_rfl) ?_
      simp only [List.take_succ_cons, List.take_zero, List.drop_succ_cons, List.drop_zero]
      repeat (go_big_quiet_step (fail))
      refine wpQuiet_nil ?_
      go_wp2_with fail
      go_roundw
      case rel =>
        refine ⟨k + 1, by omega, by go_num, ?_⟩
        rw [word_val]
        refine ⟨(hI.a.set_other _ _ (by simp; omega)).drew, (hI.r.set_other _ _ (by simp)).drew, ?_, (hI.b.setCell (by simp; omega) _).drew⟩
        have e := wrow_set (wds T k) (word T k) (by rw [wds_length]; omega)
        rw [wds_length] at e
        have hv := hI.v.set k (.int .u32 (V (word T k)))
        rw [e] at hv
        obtain ⟨e0, e1, e2, e3⟩ := E.out
        rw [e0, e1, e2, e3]
        exact hv.drew
      case measure => simp [intOf]; omega
    · have hk16 : k = 16 := by omega
      rw [hk16] at hI
      have hge : ¬ (k : Int) < 16 := by omega
      clear hk16 hk hlt
      go_wp2_with fail
      obtain ⟨wo, rfl⟩ : ∃ wo : World, wo = wr := ⟨_, rfl⟩
      go_loopw [5] (fun v5 wq => ∃ j : Nat, j ≤ 48 ∧ v5 = .int .i64 ((j : Int) + 16) ∧ SInv w.heap.size A (ext (wds T 16) j) w wq) (fun v5 _ => 64 - (intOf v5).toNat)
      case atStart => exact ⟨0, by omega, rfl, hI⟩
      case round =>
        clear hI
        obtain ⟨j, hj, rfl, hI⟩ := hrel
        by_cases hlt : j < 48
        · have hlen : (ext (wds T 16) j).length = j + 16 := by rw [ext_length, wds_length]; omega
          have key : ∀ i, i < 64 → wr.cell? ⟨w.heap.size + 1 + 1, i, none⟩ = some (.int .u32 (V ((ext (wds T 16) j).getD i 0))) := fun i hi => by
            rw [show w.heap.size + 1 + 1 = w.heap.size + 2 from rfl, hI.v.cell, wrow_get _ i hi (by omega)]
          obtain ⟨x, hx⟩ : ∃ x, x = (ext (wds T 16) j).getD (j + 14) 0 := ⟨_, rfl⟩
          obtain ⟨y, hy⟩ : ∃ y, y = (ext (wds T 16) j).getD (j + 1) 0 := ⟨_, rfl⟩
          obtain ⟨z, hz'⟩ : ∃ z, z = (ext (wds T 16) j).getD (j + 9) 0 := ⟨_, rfl⟩
          obtain ⟨v, hv⟩ : ∃ v, v = (ext (wds T 16) j).getD j 0 := ⟨_, rfl⟩
          have c2 := key (j + 14) (by omega)
          have c15 := key (j + 1) (by omega)
          have c7 := key (j + 9) (by omega)
          have c16 := key j (by omega)
          have hc := key (j + 16) (by omega)
          rw [← hx] at c2
          rw [← hy] at c15
          rw [← hz'] at c7
          rw [← hv] at c16
          obtain ⟨o, ho⟩ : ∃ o : Int, o = V ((ext (wds T 16) j).getD (j + 16) 0) := ⟨_, rfl⟩
          rw [← ho] at hc
          have hf : wr.frozen? ⟨w.heap.size + 1 + 1, j + 16, none⟩ = false := hI.v.free _
          have E := Lib.hid (And.intro hx (And.intro hy (And.intro hz' hv)))
          have HL := Lib.hid hlen
          clear hx hy hz' hv key ho hlen
          have s2 : IntKind.i64.wrap ((j : Int) + 16 - 2) = (j : Int) + 14 := by rw [IntWalk.i64_in _ (by omega)]; omega
          have s15 : IntKind.i64.wrap ((j : Int) + 16 - 15) = (j : Int) + 1 := by rw [IntWalk.i64_in _ (by omega)]; omega
          have s7 : IntKind.i64.wrap ((j : Int) + 16 - 7) = (j : Int) + 9 := by rw [IntWalk.i64_in _ (by omega)]; omega
          have s16 : IntKind.i64.wrap ((j : Int) + 16 - 16) = (j : Int) := by rw [IntWalk.i64_in _ (by omega)]; omega
          have q0 : 0 ≤ (j : Int) := by omega
          have q1 : 0 ≤ (j : Int) + 1 := by omega
          have q9 : 0 ≤ (j : Int) + 9 := by omega
          have q14 : 0 ≤ (j : Int) + 14 := by omega
          have i14 : (j : Int) + 14 < 64 := by omega
          have i9 : (j : Int) + 9 < 64 := by omega
          have i1 : (j : Int) + 1 < 64 := by omega
          have i0 : (j : Int) < 64 := by omega
          have n14 : ((j : Int) + 14).toNat = j + 14 := by omega
          have n9 : ((j : Int) + 9).toNat = j + 9 := by omega
          have n1 : ((j : Int) + 1).toNat = j + 1 := by omega
          go_wp2_with fail
          go_quiet (fail)
          go_wp2_with (go_at_call 69; first | ((with_reducible refine (turn_any _ 17 17 _ rfl (by decide) (by decide)).mono ?_); rintro e w' ⟨rfl, rfl⟩) | ((with_reducible refine (turn_any _ 19 19 _ rfl (by decide) (by decide)).mono ?_); rintro e w' ⟨rfl, rfl⟩) | ((with_reducible refine (turn_any _ 7 7 _ rfl (by decide) (by decide)).mono ?_); rintro e w' ⟨rfl, rfl⟩) | ((with_reducible refine (turn_any _ 18 18 _ rfl (by decide) (by decide)).mono ?_); rintro e w' ⟨rfl, rfl⟩))
          refine wp_region_quiet_tail 15 (by kernel_rfl) (by kernel_rfl) ?_
          simp only [List.take_succ_cons, List.take_zero, List.drop_succ_cons, List.drop_zero]
          repeat (go_big_quiet_step (fail))
          refine wpQuiet_nil ?_
          go_wp2_with fail
          go_roundw
          case rel =>
            refine ⟨j + 1, by omega, by go_num, ?_⟩
            rw [r_xor, r_xor, shr10, shr3, r_xor, r_xor, r_add4]
            have hlen := HL.out
            have e := wrow_set (ext (wds T 16) j) (nextW (ext (wds T 16) j)) (by omega)
            rw [hlen] at e
            have hv := At.set (w := wr.drewN (nq + 1)) hI.v (j + 16) (.int .u32 (V (nextW (ext (wds T 16) j))))
            rw [e] at hv
            refine ⟨At.set_other (w := wr.drewN (nq + 1)) hI.a _ _ (by simp; omega), At.set_other (w := wr.drewN (nq + 1)) hI.r _ _ (by simp), ?_, (Below.drewN' hI.b).setCell (by simp; omega) _⟩
            obtain ⟨ex, ey, ez, ev⟩ := E.out
            have en : nextW (ext (wds T 16) j) = (x.rotateRight 17 ^^^ x.rotateRight 19 ^^^ (x >>> 10)) + z + (y.rotateRight 7 ^^^ y.rotateRight 18 ^^^ (y >>> 3)) + v := by
              unfold nextW s0 s1
              rw [hlen, show j + 16 - 2 = j + 14 from rfl, show j + 16 - 15 = j + 1 from rfl, show j + 16 - 7 = j + 9 from rfl, show j + 16 - 16 = j from rfl, ← ex, ← ey, ← ez, ← ev]
            rw [← en]
            exact hv
          case measure => simp [intOf]; omega
        · have hj48 : j = 48 := by omega
          rw [hj48] at hI
          have hge' : ¬ (j : Int) + 16 < 64 := by omega
          clear hj48 hj hlt
          have hv : At wr (w.heap.size + 1 + 1) (wrow (ext (wds T 16) 48)) 104 := hI.v
          have hr : At wr (w.heap.size + 1) Z64 104 := hI.r
          have hb := hI.b
          have hsz : (wrow (ext (wds T 16) 48)).size = 64 := wrow_size _ (by rw [ext_length, wds_length]; omega)
          have hfin : wrow (ext (wds T 16) 48) = (u32s (sched T)).toArray := by
            have : (ext (wds T 16) 48).length = 64 := by rw [ext_length, wds_length]
            unfold wrow sched; rw [this]; simp
          have HF := Lib.hid hfin; clear hfin
          generalize wrow (ext (wds T 16) 48) = D at *
          have HV := Lib.hid hv; have HR := Lib.hid hr; have HB := Lib.hid hb; have HS := Lib.hid hsz
          have h1 : D.all (·.oneCell') = true := by rw [HF.out]; exact u32s_one _
          have H1 := Lib.hid h1
          clear hv hr hb hsz hI h1
          go_wp2_with (first | (refine wpList_load_all (by rfl) 104 _ (by rfl) _ (by rfl) _ Tryd.underlying104 (by rfl) _ _ HV.out (by rw [HS.out]; exact info64) ?_) | (refine wpList_store_all (by rfl) 104 _ _ (by rfl) (by rfl) _ _ (by rfl) (by rfl) (by rw [HS.out]; exact info64) _ _ HR.out (by rw [HS.out]; rfl) H1.out ?_))
          try simp only [Exit.inBlock, Exit.then]
          refine ret_row (by rfl) (w.heap.size + 1) 104 D _ (by rfl) (HR.out.row D) Tryd.underlying104 (by rfl) (by rw [HS.out]; exact info64) ?_
          exact ⟨by rw [HF.out], below_row HB.out (by omega) D⟩
end Sha
end Go.Proofs.YtjadjidjfkahpaaDoor
namespace Go.Proofs.YtjadjidjfkahpaaDoor
namespace Sha
open Go.RowKit Mem

def addB (H : List (BitVec 32)) (T : List (BitVec 8)) : List (BitVec 32) := adds H (rnds (sched T) (regOf (adds IVl H)) 64).list
def zs64 : List (BitVec 8) := List.replicate 64 0
/-- What whole blocks added; the tail; how many of its bytes there are. -/
structure Fed where
  H : List (BitVec 32)
  T : List (BitVec 8)
  at' : Nat
def feed (s : Fed) (b : BitVec 8) : Fed :=
  if s.at' + 1 = 64 then ⟨addB s.H (s.T.set s.at' b), zs64, 0⟩ else ⟨s.H, s.T.set s.at' b, s.at' + 1⟩
def feeds (s : Fed) (l : List (BitVec 8)) : Fed := l.foldl feed s
structure Ok (s : Fed) : Prop where
  h : s.H.length = 8
  t : s.T.length = 64
  a : s.at' < 64
theorem addB_length (H : List (BitVec 32)) (T : List (BitVec 8)) (h : H.length = 8) : (addB H T).length = 8 := by
  simp [addB, adds, h, Reg.list]
theorem feed_ok {s : Fed} (h : Ok s) (b : BitVec 8) : Ok (feed s b) := by
  unfold feed
  split
  · exact ⟨addB_length _ _ h.h, by simp [zs64], by simp⟩
  · exact ⟨h.h, by simp [h.t], by have := h.a; simp; omega⟩
theorem feeds_ok : ∀ (l : List (BitVec 8)) {s : Fed}, Ok s → Ok (feeds s l)
  | [], _, h => h
  | b :: l, _, h => feeds_ok l (feed_ok h b)
theorem feeds_append (s : Fed) (l m : List (BitVec 8)) : feeds s (l ++ m) = feeds (feeds s l) m := by simp [feeds]
/-- A row with a chunk laid over it. -/
def lay (T : List (BitVec 8)) (a : Nat) (c : List (BitVec 8)) : List (BitVec 8) := T.take a ++ c ++ T.drop (a + c.length)
theorem lay_nil (T : List (BitVec 8)) (a : Nat) : lay T a [] = T := by simp [lay]
theorem lay_length (T : List (BitVec 8)) (a : Nat) (c : List (BitVec 8)) (h : a + c.length ≤ T.length) : (lay T a c).length = T.length := by
  simp [lay]; omega
theorem lay_cons (T : List (BitVec 8)) (a : Nat) (b : BitVec 8) (c : List (BitVec 8)) (h : a < T.length) : lay (T.set a b) (a + 1) c = lay T a (b :: c) := by
  unfold lay
  have e1 : (T.set a b).take (a + 1) = T.take a ++ [b] := by
    rw [List.take_succ_eq_append_getElem (by simpa using h), List.take_set_of_le (Nat.le_refl a)]
    simp
  rw [e1, List.drop_set_of_lt (by omega)]
  simp
  omega
/-- A chunk that does not fill the block. -/
theorem feeds_part : ∀ (c : List (BitVec 8)) (s : Fed), s.T.length = 64 → s.at' + c.length < 64 → feeds s c = ⟨s.H, lay s.T s.at' c, s.at' + c.length⟩
  | [], s, _, _ => by simp [feeds, lay_nil]
  | b :: c, s, hT, h => by
    simp only [List.length_cons] at h
    have e : feed s b = ⟨s.H, s.T.set s.at' b, s.at' + 1⟩ := by unfold feed; rw [if_neg (by omega)]
    have ih := feeds_part c ⟨s.H, s.T.set s.at' b, s.at' + 1⟩ (by simpa using hT) (by simp; omega)
    rw [feeds, List.foldl_cons, e]
    rw [feeds] at ih
    rw [ih, lay_cons _ _ _ _ (by omega)]
    simp; omega
/-- A chunk that fills it. -/
theorem feeds_full : ∀ (c : List (BitVec 8)) (s : Fed), s.T.length = 64 → s.at' < 64 → s.at' + c.length = 64 → feeds s c = ⟨addB s.H (lay s.T s.at' c), zs64, 0⟩
  | [], s, _, h0, h => by simp at h; omega
  | [b], s, hT, h0, h => by
    simp at h
    have e : feed s b = ⟨addB s.H (s.T.set s.at' b), zs64, 0⟩ := by unfold feed; rw [if_pos (by omega)]
    rw [feeds, List.foldl_cons, e, List.foldl_nil, ← lay_cons _ _ _ _ (by omega), lay_nil]
  | b :: b' :: c, s, hT, h0, h => by
    simp only [List.length_cons] at h
    have e : feed s b = ⟨s.H, s.T.set s.at' b, s.at' + 1⟩ := by unfold feed; rw [if_neg (by omega)]
    have ih := feeds_full (b' :: c) ⟨s.H, s.T.set s.at' b, s.at' + 1⟩ (by simpa using hT) (by simp; omega) (by simp; omega)
    rw [feeds, List.foldl_cons, e]
    rw [feeds] at ih
    rw [ih, lay_cons _ _ _ _ (by omega)]

/-! ### the row of a state -/
def stL (H : List (BitVec 32)) (T : List (BitVec 8)) (n : Nat) : List Value := u32s H ++ u8s T ++ [.int .u64 (n : Int)]
def stRow (H : List (BitVec 32)) (T : List (BitVec 8)) (n : Nat) : Array Value := (stL H T n).toArray
theorem stRow_size {H : List (BitVec 32)} {T : List (BitVec 8)} {n : Nat} (h : H.length = 8) (t : T.length = 64) : (stRow H T n).size = 73 := by
  simp [stRow, stL, u32s, u8s, h, t]
theorem stRow_n {H : List (BitVec 32)} {T : List (BitVec 8)} {n : Nat} (h : H.length = 8) (t : T.length = 64) : (stRow H T n)[72]? = some (.int .u64 (n : Int)) := by
  simp [stRow, stL, u32s, u8s, h, t]
theorem stRow_set {H : List (BitVec 32)} {T : List (BitVec 8)} {n m : Nat} (h : H.length = 8) (t : T.length = 64) : (stRow H T n).setIfInBounds 72 (.int .u64 (m : Int)) = stRow H T m := by
  simp [stRow, stL, u32s, u8s, h, t]
theorem stRow_H {H : List (BitVec 32)} {T : List (BitVec 8)} {n : Nat} (h : H.length = 8) : (stRow H T n).extract 0 (0 + 8) = (u32s H).toArray := by
  have e : (u32s H).length = 8 := by rw [u32s_length, h]
  simp [stRow, stL, e]
theorem stRow_T {H : List (BitVec 32)} {T : List (BitVec 8)} {n : Nat} (h : H.length = 8) (t : T.length = 64) : (stRow H T n).extract 8 (8 + 64) = (u8s T).toArray := by
  have e : (u32s H).length = 8 := by rw [u32s_length, h]
  have e' : (u8s T).length = 64 := by rw [u8s_length, t]
  simp [stRow, stL, e, e']
theorem stRow_putH {H H' : List (BitVec 32)} {T : List (BitVec 8)} {n : Nat} (h : H.length = 8) (h' : H'.length = 8) : Mem.splice (stRow H T n) 0 (u32s H') = stRow H' T n := by
  have e : (u32s H).length = 8 := by rw [u32s_length, h]
  have e' : (u32s H').length = 8 := by rw [u32s_length, h']
  simp [Mem.splice, stRow, stL, e, e']
theorem stRow_putT {H : List (BitVec 32)} {T : List (BitVec 8)} {n : Nat} (h : H.length = 8) (t : T.length = 64) (a : Nat) (c : List (BitVec 8)) (hc : a + c.length ≤ 64) : Mem.splice (stRow H T n) (8 + a) (u8s c) = stRow H (lay T a c) n := by
  have e : (u32s H).length = 8 := by rw [u32s_length, h]
  have e' : (u8s c).length = c.length := u8s_length c
  have e1 : List.take (8 + a) (stL H T n) = u32s H ++ u8s (T.take a) := by
    unfold stL
    rw [List.append_assoc, List.take_append, e, List.take_of_length_le (by omega), List.take_append, u8s_length, t]
    simp [u8s, List.map_take]
    omega
  have e2 : List.drop (8 + a + c.length) (stL H T n) = u8s (T.drop (a + c.length)) ++ [.int .u64 (n : Int)] := by
    unfold stL
    rw [List.append_assoc, List.drop_append, e, List.drop_of_length_le (by omega), List.drop_append, u8s_length, t]
    have z : 8 + a + c.length - 8 - 64 = 0 := by omega
    have z' : 8 + a + c.length - 8 = a + c.length := by omega
    rw [z, z']
    simp [u8s, List.map_drop]
  unfold Mem.splice
  rw [e', show (stRow H T n).toList = stL H T n from rfl, e1, e2]
  simp [stRow, stL, lay, u8s, List.append_assoc]
/-! ### the padding -/
def padQ (t : Nat) : Nat := if t < 56 then 56 - t else 120 - t
def P0 : List (BitVec 8) := 128 :: List.replicate 71 0
def lenByte (m i : Nat) : BitVec 8 := BitVec.ofNat 8 (m / 2 ^ (56 - 8 * i))
def padRow (q m : Nat) : Nat → List (BitVec 8)
  | 0 => P0
  | i + 1 => (padRow q m i).set (q + i) (lenByte m i)
def padBytes (n : Nat) : List (BitVec 8) := (padRow (padQ (n % 64)) (n * 8) 8).take (padQ (n % 64) + 8)
theorem padRow_length (q m : Nat) : ∀ i, (padRow q m i).length = 72
  | 0 => by simp [padRow, P0]
  | i + 1 => by simp [padRow, padRow_length q m i]
theorem padQ_bd (t : Nat) (h : t < 64) : 1 ≤ padQ t ∧ padQ t ≤ 64 := by
  unfold padQ; split <;> omega
theorem padBytes_length (n : Nat) : (padBytes n).length = padQ (n % 64) + 8 := by
  have := padQ_bd (n % 64) (Nat.mod_lt _ (by decide))
  simp [padBytes, padRow_length]; omega
/-! ### the digest's bytes -/
def dRow (l : List (BitVec 32)) : Nat → List (BitVec 8)
  | 0 => List.replicate 32 0
  | i + 1 => ((((dRow l i).set (4 * i) (wb (l.getD i 0) 24)).set (4 * i + 1) (wb (l.getD i 0) 16)).set (4 * i + 2) (wb (l.getD i 0) 8)).set (4 * i + 3) (wb (l.getD i 0) 0)
theorem dRow_length (l : List (BitVec 32)) : ∀ i, (dRow l i).length = 32
  | 0 => by simp [dRow]
  | i + 1 => by simp [dRow, dRow_length l i]
/-- The digest of a state. -/
def digest (s : Fed) (n : Nat) : List (BitVec 8) := dRow (adds (feeds s (padBytes n)).H IVl) 8
end Sha
end Go.Proofs.YtjadjidjfkahpaaDoor
namespace Go.Proofs.YtjadjidjfkahpaaDoor
namespace Sha
open Go.RowKit Mem

/-- The two tables of package sha, as the program's text lays them. -/
def Tab (w : World) (g : Nat) (l : List (BitVec 32)) : Prop := g < w.heap.size ∧ ∀ i, i < l.length → w.cell? ⟨g, i, none⟩ = some (.int .u32 (V (l.getD i 0)))
theorem Tab.below {w w' : World} {B g : Nat} {l : List (BitVec 32)} (h : Tab w g l) (hb : Below B w w') (hlt : g < B) : Tab w' g l :=
  ⟨Nat.lt_of_lt_of_le h.1 hb.size, fun i hi => by rw [hb.cell (p := ⟨g, i, none⟩) hlt]; exact h.2 i hi⟩
theorem Tab.keep {w w' : World} {b g : Nat} {l : List (BitVec 32)} (h : Tab w g l) (o : ∀ k, k ≠ b → w'.heap[k]? = w.heap[k]?) (hne : g ≠ b) : Tab w' g l := by
  have e := o g hne
  refine ⟨?_, fun i hi => by rw [World.cell?_of_block (w := w) (w' := w') e]; exact h.2 i hi⟩
  have h1 := h.1
  rcases Nat.lt_or_ge g w'.heap.size with h2 | h2
  · exact h2
  · rw [Array.getElem?_eq_none h2, Array.getElem?_eq_getElem h1] at e
    cases e
theorem Tab.set_other {w : World} {g : Nat} {l : List (BitVec 32)} (h : Tab w g l) (a : Addr) (v : Value) (hne : g ≠ a.block) : Tab (w.setCell a v) g l :=
  h.keep (b := a.block) (fun k hk => heap_setCell_other w a k v hk) hne
structure Tabs (w : World) : Prop where
  k : Tab w 1 Kl
  f : Tab w 0 IVl
theorem Tabs.below {w w' : World} {B : Nat} (h : Tabs w) (hb : Below B w w') (hB : w.heap.size ≤ B) : Tabs w' :=
  ⟨h.k.below hb (Nat.lt_of_lt_of_le h.k.1 hB), h.f.below hb (Nat.lt_of_lt_of_le h.f.1 hB)⟩
theorem turn_q (x : BitVec 32) (n : Int) (r : Nat) (w : World) (hr : (n % 32).toNat = r) (h0 : -9223372036854775808 ≤ n) (h1 : n ≤ 9223372036854775807) :
    Calls Tryd.prog 69 #[.int .u32 (V x), .int .i64 n] w fun e w' => e = .returned (.int .u32 (V (x.rotateRight r))) ∧ w' = w :=
  (turn_any x n r w hr h0 h1).mono fun _ _ ⟨a, b⟩ => ⟨a, b.symm⟩
def Z8 : Array Value := (u32s (List.replicate 8 0)).toArray
theorem zero8 (w : World) : (zeroValue 79).run Tryd.prog w = .ok (.agg Z8) w := by kernel_rfl
theorem info8 : (Tryd.prog.info? 79).map (·.size) = some 8 := by kernel_rfl
theorem infoW : (Tryd.prog.info? 65).map (·.size) = some 1 := by kernel_rfl
theorem info64b : (Tryd.prog.info? 67).map (·.size) = some 64 := by kernel_rfl
structure AInv (B Bw : Nat) (w : World) (Hr D : Array Value) (wr : World) : Prop where
  h : At wr B Hr 79
  r : At wr (B + 2) Z8 79
  d : At wr Bw D 104
  tabs : Tabs wr
  b : Below B w wr
theorem AInv.drewN {B Bw n : Nat} {w wr : World} {Hr D : Array Value} (h : AInv B Bw w Hr D wr) : AInv B Bw w Hr D (wr.drewN n) :=
  ⟨h.h, h.r, h.d, ⟨h.tabs.k, h.tabs.f⟩, Below.drewN' h.b⟩
/-- The eight words in their slots, behind t rounds. -/
def Slots (r : Reg) (a b c d e f g h : Value) : Prop :=
  a = .int .u32 (V r.a) ∧ b = .int .u32 (V r.b) ∧ c = .int .u32 (V r.c) ∧ d = .int .u32 (V r.d) ∧ e = .int .u32 (V r.e) ∧ f = .int .u32 (V r.f) ∧ g = .int .u32 (V r.g) ∧ h = .int .u32 (V r.h)
set_option maxRecDepth 100000 in
set_option maxHeartbeats 1000000 in
theorem addBlock_any (H : List (BitVec 32)) (T : List (BitVec 8)) (hH : H.length = 8) (hT : T.length = 64) (w : World) (hL : Tabs w) :
    Calls Tryd.prog 60 #[.agg (u32s H).toArray, .agg (u8s T).toArray] w fun e w' => e = .returned (.agg (u32s (addB H T)).toArray) ∧ Below w.heap.size w w' := by
  obtain ⟨Hr, hHr⟩ : ∃ A, A = (u32s H).toArray := ⟨_, rfl⟩
  obtain ⟨Tr, hTr⟩ : ∃ A, A = (u8s T).toArray := ⟨_, rfl⟩
  obtain ⟨Z, hZ⟩ : ∃ A, A = Z64 := ⟨_, rfl⟩
  obtain ⟨Y, hY⟩ : ∃ A, A = Z8 := ⟨_, rfl⟩
  obtain ⟨D, hD⟩ : ∃ A, A = (u32s (sched T)).toArray := ⟨_, rfl⟩
  have hsc : ∀ w, Calls Tryd.prog 68 #[.agg Tr] w fun e w' => e = .returned (.agg D) ∧ Below w.heap.size w w' := by
    rw [hTr, hD]; exact sched_any T hT
  have hz := zero64
  have hy := zero8
  have sT : Tr.size = 64 := by rw [hTr]; simp [u8s, hT]
  have sD : D.size = 64 := by rw [hD]; simp [u32s, sched, ext_length, wds_length]
  have sZ : Z.size = 64 := by rw [hZ]; exact wrow_size [] (by simp)
  have oD : D.all (·.oneCell') = true := by rw [hD]; exact u32s_one _
  rw [← hHr, ← hTr]
  rw [← hZ] at hz
  rw [← hY] at hy
  have HHr := Lib.hid hHr; have HTr := Lib.hid hTr; have HZ := Lib.hid hZ; have HY := Lib.hid hY; have HD := Lib.hid hD; have HSC := Lib.hid hsc
  have HT := Lib.hid hT; have HH := Lib.hid hH; have ST := Lib.hid sT; have SD := Lib.hid sD; have SZ := Lib.hid sZ; have OD := Lib.hid oD; have HL := Lib.hid hL
  clear hHr hTr hZ hY hD hsc hT hH sT sD sZ oD hL
  have aT : At (((w.alloc (.cells Hr 79)).alloc (.cells Tr 67)).alloc (.cells Y 79)) (w.heap.size + 1) Tr 67 := by
    have := (at_new (w.alloc (.cells Hr 79)) Tr 67).alloc (.cells Y 79)
    simpa using this
  have AT := Lib.hid aT; clear aT
  go_enter Tryd.func60, Tryd.ntmps60
  go_wp2_with (first | (refine wpList_load_all (by rfl) 67 _ (by rfl) _ (by rfl) _ Tryd.underlying67 (by rfl) _ _ AT.out (by rw [ST.out]; exact info64b) ?_) | (go_at_call 68; refine (HSC.out _).mono ?_; rintro e w2 ⟨rfl, hb2⟩) | (refine wpList_store_new (by rfl) 104 _ _ (by rfl) (by rfl) D _ _ (by rfl) (by rfl) (by rw [SD.out]; exact info64) (by rw [SD.out, SZ.out]) OD.out ?_))
  clear hz hy
  have hI : AInv w.heap.size w2.heap.size w Hr D (w2.alloc (.cells D 104)) := by
    have hb1 : Below w.heap.size w (((w.alloc (.cells Hr 79)).alloc (.cells Tr 67)).alloc (.cells Y 79)) := (((Below.refl _ _).alloc (Nat.le_refl _) _).alloc (by simp) _).alloc (by simp; omega) _
    have aH : At (((w.alloc (.cells Hr 79)).alloc (.cells Tr 67)).alloc (.cells Y 79)) w.heap.size Hr 79 := ((at_new w Hr 79).alloc _).alloc _
    have aY : At (((w.alloc (.cells Hr 79)).alloc (.cells Tr 67)).alloc (.cells Y 79)) (w.heap.size + 2) Y 79 := by
      have := at_new ((w.alloc (.cells Hr 79)).alloc (.cells Tr 67)) Y 79
      simpa using this
    have hsz2 := hb2.size
    have hs1 : (((w.alloc (.cells Hr 79)).alloc (.cells Tr 67)).alloc (.cells Y 79)).heap.size = w.heap.size + 3 := by simp
    rw [hs1] at hb2 hsz2
    refine ⟨(aH.below hb2 (by omega)).alloc _, ?_, at_new w2 D _, ?_, ?_⟩
    · rw [← HY.out]; exact (aY.below hb2 (by omega)).alloc _
    · have t1 := HL.out.below hb1 (Nat.le_refl _)
      have t2 := t1.below hb2 (by rw [hs1]; exact Nat.le_refl _)
      exact t2.below ((Below.refl w2.heap.size w2).alloc (Nat.le_refl _) _) (Nat.le_refl _)
    · exact (hb1.trans (hb2.mono (by omega))).alloc (by omega) _
  have hBw : w.heap.size + 3 ≤ w2.heap.size := by have := hb2.size; simpa using this
  clear hb2
  generalize hB2 : w2.alloc (.cells D 104) = w3 at *
  generalize w2.heap.size = Bw at *
  clear hB2 w2
  have f0 : w3.cell? ⟨0, 0, none⟩ = some (.int .u32 (V (IVl.getD 0 0))) := hI.tabs.f.2 0 (by decide)
  have h0 : w3.cell? ⟨w.heap.size, 0, none⟩ = some (.int .u32 (V (H.getD 0 0))) := by rw [hI.h.cell, HHr.out, List.getElem?_toArray]; exact u32s_get H 0 (by rw [HH.out]; decide)
  have f1 : w3.cell? ⟨0, 1, none⟩ = some (.int .u32 (V (IVl.getD 1 0))) := hI.tabs.f.2 1 (by decide)
  have h1 : w3.cell? ⟨w.heap.size, 1, none⟩ = some (.int .u32 (V (H.getD 1 0))) := by rw [hI.h.cell, HHr.out, List.getElem?_toArray]; exact u32s_get H 1 (by rw [HH.out]; decide)
  have f2 : w3.cell? ⟨0, 2, none⟩ = some (.int .u32 (V (IVl.getD 2 0))) := hI.tabs.f.2 2 (by decide)
  have h2 : w3.cell? ⟨w.heap.size, 2, none⟩ = some (.int .u32 (V (H.getD 2 0))) := by rw [hI.h.cell, HHr.out, List.getElem?_toArray]; exact u32s_get H 2 (by rw [HH.out]; decide)
  have f3 : w3.cell? ⟨0, 3, none⟩ = some (.int .u32 (V (IVl.getD 3 0))) := hI.tabs.f.2 3 (by decide)
  have h3 : w3.cell? ⟨w.heap.size, 3, none⟩ = some (.int .u32 (V (H.getD 3 0))) := by rw [hI.h.cell, HHr.out, List.getElem?_toArray]; exact u32s_get H 3 (by rw [HH.out]; decide)
  have f4 : w3.cell? ⟨0, 4, none⟩ = some (.int .u32 (V (IVl.getD 4 0))) := hI.tabs.f.2 4 (by decide)
  have h4 : w3.cell? ⟨w.heap.size, 4, none⟩ = some (.int .u32 (V (H.getD 4 0))) := by rw [hI.h.cell, HHr.out, List.getElem?_toArray]; exact u32s_get H 4 (by rw [HH.out]; decide)
  have f5 : w3.cell? ⟨0, 5, none⟩ = some (.int .u32 (V (IVl.getD 5 0))) := hI.tabs.f.2 5 (by decide)
  have h5 : w3.cell? ⟨w.heap.size, 5, none⟩ = some (.int .u32 (V (H.getD 5 0))) := by rw [hI.h.cell, HHr.out, List.getElem?_toArray]; exact u32s_get H 5 (by rw [HH.out]; decide)
  have f6 : w3.cell? ⟨0, 6, none⟩ = some (.int .u32 (V (IVl.getD 6 0))) := hI.tabs.f.2 6 (by decide)
  have h6 : w3.cell? ⟨w.heap.size, 6, none⟩ = some (.int .u32 (V (H.getD 6 0))) := by rw [hI.h.cell, HHr.out, List.getElem?_toArray]; exact u32s_get H 6 (by rw [HH.out]; decide)
  have f7 : w3.cell? ⟨0, 7, none⟩ = some (.int .u32 (V (IVl.getD 7 0))) := hI.tabs.f.2 7 (by decide)
  have h7 : w3.cell? ⟨w.heap.size, 7, none⟩ = some (.int .u32 (V (H.getD 7 0))) := by rw [hI.h.cell, HHr.out, List.getElem?_toArray]; exact u32s_get H 7 (by rw [HH.out]; decide)
  obtain ⟨p0, hp0⟩ : ∃ p, p = IVl.getD 0 0 := ⟨_, rfl⟩
  obtain ⟨q0, hq0⟩ : ∃ q, q = H.getD 0 0 := ⟨_, rfl⟩
  rw [← hp0] at f0
  rw [← hq0] at h0
  have P0 := Lib.hid hp0; have Q0 := Lib.hid hq0; clear hp0 hq0
  obtain ⟨p1, hp1⟩ : ∃ p, p = IVl.getD 1 0 := ⟨_, rfl⟩
  obtain ⟨q1, hq1⟩ : ∃ q, q = H.getD 1 0 := ⟨_, rfl⟩
  rw [← hp1] at f1
  rw [← hq1] at h1
  have P1 := Lib.hid hp1; have Q1 := Lib.hid hq1; clear hp1 hq1
  obtain ⟨p2, hp2⟩ : ∃ p, p = IVl.getD 2 0 := ⟨_, rfl⟩
  obtain ⟨q2, hq2⟩ : ∃ q, q = H.getD 2 0 := ⟨_, rfl⟩
  rw [← hp2] at f2
  rw [← hq2] at h2
  have P2 := Lib.hid hp2; have Q2 := Lib.hid hq2; clear hp2 hq2
  obtain ⟨p3, hp3⟩ : ∃ p, p = IVl.getD 3 0 := ⟨_, rfl⟩
  obtain ⟨q3, hq3⟩ : ∃ q, q = H.getD 3 0 := ⟨_, rfl⟩
  rw [← hp3] at f3
  rw [← hq3] at h3
  have P3 := Lib.hid hp3; have Q3 := Lib.hid hq3; clear hp3 hq3
  obtain ⟨p4, hp4⟩ : ∃ p, p = IVl.getD 4 0 := ⟨_, rfl⟩
  obtain ⟨q4, hq4⟩ : ∃ q, q = H.getD 4 0 := ⟨_, rfl⟩
  rw [← hp4] at f4
  rw [← hq4] at h4
  have P4 := Lib.hid hp4; have Q4 := Lib.hid hq4; clear hp4 hq4
  obtain ⟨p5, hp5⟩ : ∃ p, p = IVl.getD 5 0 := ⟨_, rfl⟩
  obtain ⟨q5, hq5⟩ : ∃ q, q = H.getD 5 0 := ⟨_, rfl⟩
  rw [← hp5] at f5
  rw [← hq5] at h5
  have P5 := Lib.hid hp5; have Q5 := Lib.hid hq5; clear hp5 hq5
  obtain ⟨p6, hp6⟩ : ∃ p, p = IVl.getD 6 0 := ⟨_, rfl⟩
  obtain ⟨q6, hq6⟩ : ∃ q, q = H.getD 6 0 := ⟨_, rfl⟩
  rw [← hp6] at f6
  rw [← hq6] at h6
  have P6 := Lib.hid hp6; have Q6 := Lib.hid hq6; clear hp6 hq6
  obtain ⟨p7, hp7⟩ : ∃ p, p = IVl.getD 7 0 := ⟨_, rfl⟩
  obtain ⟨q7, hq7⟩ : ∃ q, q = H.getD 7 0 := ⟨_, rfl⟩
  rw [← hp7] at f7
  rw [← hq7] at h7
  have P7 := Lib.hid hp7; have Q7 := Lib.hid hq7; clear hp7 hq7
  have HI := Lib.hid hI; clear hI
  go_quiet (fail)
  go_wp2_with fail
  go_quiet (fail)
  go_wp2_with fail
  obtain ⟨R, hR⟩ : ∃ R, R = regOf (adds IVl H) := ⟨_, rfl⟩
  have HR := Lib.hid hR; clear hR
  go_loopw [6, 7, 8, 9, 10, 11, 12, 13, 61] (fun a b c d e f g h i wr => ∃ t : Nat, t ≤ 64 ∧ i = .int .i64 t ∧ Slots (rnds (sched T) R t) a b c d e f g h ∧ AInv w.heap.size Bw w Hr D wr) (fun _ _ _ _ _ _ _ _ i _ => 64 - (intOf i).toNat)
  case atStart =>
    refine ⟨0, by omega, rfl, ?_, HI.out.drewN.drewN⟩
    have e : R = ⟨p0 + q0, p1 + q1, p2 + q2, p3 + q3, p4 + q4, p5 + q5, p6 + q6, p7 + q7⟩ := by
      have hl := HH.out
      rw [HR.out, P0.out, P1.out, P2.out, P3.out, P4.out, P5.out, P6.out, P7.out, Q0.out, Q1.out, Q2.out, Q3.out, Q4.out, Q5.out, Q6.out, Q7.out]
      match H, hl with
      | [a, b, c, d, e, f, g, h], _ => rfl
    rw [r_add, r_add, r_add, r_add, r_add, r_add, r_add, r_add, e]
    exact ⟨rfl, rfl, rfl, rfl, rfl, rfl, rfl, rfl⟩
  case round =>
    obtain ⟨t, ht, rfl, ⟨rfl, rfl, rfl, rfl, rfl, rfl, rfl, rfl⟩, hI⟩ := hrel
    by_cases hlt : t < 64
    · obtain ⟨r, hr⟩ : ∃ r, r = rnds (sched T) R t := ⟨_, rfl⟩
      rw [← hr]
      have HRR := Lib.hid hr; clear hr
      obtain ⟨ra, rb, rc, rd, re, rf, rg, rh⟩ := r
      have ck : wr.cell? ⟨1, t, none⟩ = some (.int .u32 (V (Kl.getD t 0))) := hI.tabs.k.2 t hlt
      have cm : wr.cell? ⟨Bw, t, none⟩ = some (.int .u32 (V ((sched T).getD t 0))) := by
        rw [hI.d.cell, HD.out, List.getElem?_toArray]; exact u32s_get _ t (by rw [sched, ext_length, wds_length]; exact hlt)
      obtain ⟨k, hk⟩ : ∃ k, k = Kl.getD t 0 := ⟨_, rfl⟩
      obtain ⟨m, hm⟩ : ∃ m, m = (sched T).getD t 0 := ⟨_, rfl⟩
      rw [← hk] at ck
      rw [← hm] at cm
      have HK := Lib.hid hk; have HM := Lib.hid hm; have HI' := Lib.hid hI
      clear hk hm hI
      have T6 := Lib.hid (fun w => turn_q re 6 6 w rfl (by decide) (by decide))
      have T11 := Lib.hid (fun w => turn_q re 11 11 w rfl (by decide) (by decide))
      have T25 := Lib.hid (fun w => turn_q re 25 25 w rfl (by decide) (by decide))
      have T2 := Lib.hid (fun w => turn_any ra 2 2 w rfl (by decide) (by decide))
      have T13 := Lib.hid (fun w => turn_any ra 13 13 w rfl (by decide) (by decide))
      have T22 := Lib.hid (fun w => turn_any ra 22 22 w rfl (by decide) (by decide))
      go_wp2_with fail
      go_quiet ((go_at_call 69; first | (with_reducible exact Calls.quiet_of_same (T6.out _)) | (with_reducible exact Calls.quiet_of_same (T11.out _)) | (with_reducible exact Calls.quiet_of_same (T25.out _))))
      have HI2 := Lib.hid (HI'.out.drewN (n := nq))
      generalize wr.drewN nq = wq at *
      go_wp2_with (go_at_call 69; first | ((with_reducible refine (T2.out _).mono ?_); rintro e w' ⟨rfl, rfl⟩) | ((with_reducible refine (T13.out _).mono ?_); rintro e w' ⟨rfl, rfl⟩) | ((with_reducible refine (T22.out _).mono ?_); rintro e w' ⟨rfl, rfl⟩))
      go_roundw
      case rel =>
        refine ⟨t + 1, by omega, by go_num, ?_, HI2.out⟩
        have e : rnds (sched T) R (t + 1) = rnd k m ⟨ra, rb, rc, rd, re, rf, rg, rh⟩ := by rw [HK.out, HM.out, HRR.out]; rfl
        rw [e]
        have et := tee_val k m ⟨ra, rb, rc, rd, re, rf, rg, rh⟩
        have ey := you_val ⟨ra, rb, rc, rd, re, rf, rg, rh⟩
        rw [et, ey, r_add, r_add]
        exact ⟨rfl, rfl, rfl, rfl, rfl, rfl, rfl, rfl⟩
      case measure => simp [intOf]; omega
    · have ht64 : t = 64 := by omega
      obtain ⟨r, hr⟩ : ∃ r, r = rnds (sched T) R t := ⟨_, rfl⟩
      rw [← hr]
      rw [ht64] at hr
      have hge : ¬ (t : Int) < 64 := by omega
      have HRR := Lib.hid hr; clear hr ht64 ht hlt
      obtain ⟨ra, rb, rc, rd, re, rf, rg, rh⟩ := r
      obtain ⟨M, hM⟩ : ∃ M, M = Reg.list ⟨ra, rb, rc, rd, re, rf, rg, rh⟩ := ⟨_, rfl⟩
      have hlen : H.length = M.length := by rw [HH.out, hM]; rfl
      have hMl : M.length = 8 := by rw [hM]; rfl
      have HM := Lib.hid hM; have HLEN := Lib.hid hlen; have HML := Lib.hid hMl; have HI' := Lib.hid hI
      clear hM hlen hMl hI
      go_wp2_with fail
      obtain ⟨wo, rfl⟩ : ∃ wo : World, wo = wr := ⟨_, rfl⟩
      go_loopw [133] (fun i wr => ∃ j : Nat, j ≤ 8 ∧ i = .int .i64 j ∧ AInv w.heap.size Bw w (u32s (addTo H M j)).toArray D wr) (fun i _ => 8 - (intOf i).toNat)
      case atStart =>
        refine ⟨0, by omega, rfl, ?_⟩
        have := HI'.out
        rw [HHr.out] at this
        simpa [addTo] using this
      case round =>
        obtain ⟨j, hj, rfl, hI⟩ := hrel
        by_cases hlt : j < 8
        · have hl1 : (addTo H M j).length = 8 := by rw [addTo_length H M HLEN.out, HH.out]
          have ca : wr.cell? ⟨w.heap.size, j, none⟩ = some (.int .u32 (V (H.getD j 0))) := by
            rw [hI.h.cell, List.getElem?_toArray, u32s_get _ j (by omega), addTo_get H M HLEN.out j (by rw [HH.out]; exact hlt)]
          have fa : wr.frozen? ⟨w.heap.size, j, none⟩ = false := hI.h.free j
          obtain ⟨x, hx⟩ : ∃ x, x = H.getD j 0 := ⟨_, rfl⟩
          rw [← hx] at ca
          have HX := Lib.hid hx; have HI2 := Lib.hid hI; have HL1 := Lib.hid hl1
          clear hx hI hl1
          have hjv : (u32s M).toArray[j]? = some (.int .u32 (V (M.getD j 0))) := by rw [List.getElem?_toArray]; exact u32s_get M j (by rw [HML.out]; exact hlt)
          obtain ⟨y, hy'⟩ : ∃ y, y = M.getD j 0 := ⟨_, rfl⟩
          rw [← hy'] at hjv
          have HYV := Lib.hid hy'; have HJV := Lib.hid hjv
          clear hy' hjv
          go_wp2_with (refine wpList_index_row (by rfl) 79 _ _ (by rfl) 8 65 Tryd.underlying79 _ Tryd.underlying65 (by rfl) infoW (u32s M).toArray j (by rw [HM.out]; rfl) (by rfl) hlt _ HJV.out ?_)
          go_roundw
          case rel =>
            refine ⟨j + 1, by omega, by go_num, ?_⟩
            rw [r_add]
            have hI := HI2.out
            have e : (u32s (addTo H M j)).toArray.setIfInBounds j (.int .u32 (V (x + y))) = (u32s (addTo H M (j + 1))).toArray := by
              rw [u32s_set, HX.out, HYV.out, addTo_set H M HLEN.out j (by rw [HH.out]; exact hlt)]
            have hh := hI.h.set j (.int .u32 (V (x + y)))
            rw [e] at hh
            have hb2' : w.heap.size + 3 ≤ Bw := hBw
            exact ⟨hh, hI.r.set_other _ _ (by simp), hI.d.set_other _ _ (by simp; omega), ⟨hI.tabs.k.set_other _ _ (by simp; have := HL.out.k.1; omega), hI.tabs.f.set_other _ _ (by simp; have := HL.out.f.1; omega)⟩, hI.b.setCell (by simp) _⟩
          case measure => simp [intOf]; omega
        · have hj8 : j = 8 := by omega
          rw [hj8] at hI
          have hge' : ¬ (j : Int) < 8 := by omega
          have hfin : addTo H M 8 = addB H T := by
            have e := addTo_all H M HLEN.out
            rw [HH.out] at e
            rw [e, addB, ← HR.out, ← HRR.out, HM.out]
          rw [hfin] at hI
          have hs8 : (u32s (addB H T)).toArray.size = 8 := by
            rw [← hfin]; simp [u32s, addTo_length H M HLEN.out, HH.out]
          have h8 := hI.h; have hr8 := hI.r; have hb8 := hI.b
          have ho8 := u32s_one (addB H T)
          obtain ⟨E, hE⟩ : ∃ E, E = (u32s (addB H T)).toArray := ⟨_, rfl⟩
          rw [← hE] at h8 hs8 ho8
          have HE := Lib.hid hE; have H8 := Lib.hid h8; have HR8 := Lib.hid hr8; have HB8 := Lib.hid hb8; have HS8 := Lib.hid hs8; have HO8 := Lib.hid ho8
          clear hj8 hj hlt hfin hE h8 hr8 hb8 hs8 ho8 hI
          go_wp2_with (first | (refine wpList_load_all (by rfl) 79 _ (by rfl) _ (by rfl) _ Tryd.underlying79 (by rfl) _ _ H8.out (by rw [HS8.out]; exact info8) ?_) | (refine wpList_store_all (by rfl) 79 _ _ (by rfl) (by rfl) _ _ (by rfl) (by rfl) (by rw [HS8.out]; exact info8) _ _ HR8.out (by rw [HS8.out]; rfl) HO8.out ?_))
          try simp only [Exit.inBlock, Exit.then]
          refine ret_row (by rfl) (w.heap.size + 2) 79 E _ (by rfl) (HR8.out.row E) Tryd.underlying79 (by rfl) (by rw [HS8.out]; exact info8) ?_
          exact ⟨by rw [HE.out], below_row HB8.out (by omega) E⟩
end Sha
end Go.Proofs.YtjadjidjfkahpaaDoor
namespace Go.Proofs.YtjadjidjfkahpaaDoor
namespace Sha
open Go.RowKit Mem

def lenOf : Value → Nat | .slice _ n _ => n | _ => 0
def Zst : Array Value := stRow (List.replicate 8 0) zs64 0
def ZT : Array Value := (u8s zs64).toArray
theorem zeroSt (w : World) : (zeroValue 81).run Tryd.prog w = .ok (.agg Zst) w := by kernel_rfl
theorem buildT (w : World) : (Instr.build 67 #[]).run Tryd.prog w = .ok (.agg ZT) w := by kernel_rfl
theorem infoSt : (Tryd.prog.info? 81).map (·.size) = some 73 := by kernel_rfl
theorem stRow_one {H : List (BitVec 32)} {T : List (BitVec 8)} {n : Nat} : (stRow H T n).all (·.oneCell') = true := by
  simp [stRow, stL, u32s, u8s, Value.oneCell']
theorem ZT_size : ZT.size = 64 := by simp [ZT, u8s, zs64]
theorem Zst_size : Zst.size = 73 := stRow_size (by simp) (by simp [zs64])

structure WInv (s : Fed) (N : Nat) (B : Nat) (w wr : World) : Prop where
  c : At wr B (stRow s.H s.T N) 81
  z : At wr (B + 1) Zst 81
  b : Below B w wr
def WRel (s : Fed) (l : List (BitVec 8)) (N : Nat) (w : World) (vb va : Value) (wr : World) : Prop :=
  ∃ done rest, l = done ++ rest ∧ Sl w vb rest ∧ va = .int .i64 ((feeds s done).at' : Int) ∧ WInv (feeds s done) N w.heap.size w wr
set_option maxRecDepth 100000 in
set_option maxHeartbeats 1000000 in
theorem write_any (s : Fed) (hs : Ok s) (n : Nat) (hn : n % 64 = s.at') (l : List (BitVec 8)) (v : Value) (w : World) (hN : n + l.length ≤ 9223372036854775807) (hv : Sl w v l) (hL : Tabs w) :
    Calls Tryd.prog 44 #[.agg (stRow s.H s.T n), v] w fun e w' => e = .returned (.agg (stRow (feeds s l).H (feeds s l).T (n + l.length))) ∧ Below w.heap.size w w' := by
  have hv0 := hv
  obtain ⟨a0, cap0, rfl, hcap0, _⟩ := hv
  obtain ⟨C, hC⟩ : ∃ C, C = stRow s.H s.T n := ⟨_, rfl⟩
  obtain ⟨Z, hZ⟩ : ∃ Z, Z = Zst := ⟨_, rfl⟩
  obtain ⟨N, hNN⟩ : ∃ N, N = n + l.length := ⟨_, rfl⟩
  have hz := zeroSt
  rw [← hZ] at hz
  rw [← hC]
  have hsz : C.size = 73 := by rw [hC]; exact stRow_size hs.h hs.t
  have h72 : C[72]? = some (.int .u64 (n : Int)) := by rw [hC]; exact stRow_n hs.h hs.t
  have hmod : ((n % 64 : Nat) : Int) = (s.at' : Int) := by rw [hn]
  have aC : At ((w.alloc (.cells C 81)).alloc (.cells Z 81)) w.heap.size C 81 := (at_new w C _).alloc _
  have aZ : At ((w.alloc (.cells C 81)).alloc (.cells Z 81)) (w.heap.size + 1) Z 81 := by
    have := at_new (w.alloc (.cells C 81)) Z 81
    simpa using this
  have b1 : Below w.heap.size w ((w.alloc (.cells C 81)).alloc (.cells Z 81)) := ((Below.refl _ _).alloc (Nat.le_refl _) _).alloc (by simp) _
  have s1 : ((w.alloc (.cells C 81)).alloc (.cells Z 81)).heap.size = w.heap.size + 2 := by simp
  have HC := Lib.hid hC; have HZ := Lib.hid hZ; have HNN := Lib.hid hNN; have HSZ := Lib.hid hsz; have H72 := Lib.hid h72; have HM := Lib.hid hmod; have AC := Lib.hid aC; have AZ := Lib.hid aZ; have B1 := Lib.hid b1; have S1 := Lib.hid s1
  have HV := Lib.hid hv0; have HLT' := Lib.hid hL; have HS := Lib.hid hs; have HMOD := Lib.hid hn
  clear hC hZ hNN hsz h72 hmod aC aZ b1 s1 hv0 hL hs hn
  have TS : Hid (∀ w : World, Calls Tryd.prog 59 #[.agg C] w fun e w' => e = .returned (.int .i64 (s.at' : Int)) ∧ Below w.heap.size w w') := fun w => by
    have := tailSize_any C n w H72.out
    rw [HM.out] at this
    exact this
  go_enter Tryd.func44, Tryd.ntmps44
  go_wp2_with (first | (refine wpList_load_all (by rfl) 81 _ (by rfl) _ (by rfl) _ Tryd.underlying81 (by rfl) _ _ AC.out (by rw [HSZ.out]; exact infoSt) ?_) | (go_at_call 59; refine (TS.out _).mono ?_; rintro e w2 ⟨rfl, hb2⟩; have a2 := AC.out.below hb2 (by rw [S1.out]; omega); have c72 := (a2.cell 72).trans H72.out; have f72 := a2.free 72; have A2 := Lib.hid a2; have HB2 := Lib.hid hb2; clear a2 hb2))
  have hI0 : WInv s N w.heap.size w (w2.setCell ⟨w.heap.size, 72, none⟩ (.int .u64 ((n : Int) + (l.length : Int)))) := by
    have hb2 := HB2.out
    rw [S1.out] at hb2
    refine ⟨?_, ?_, (B1.out.trans (hb2.mono (by omega))).setCell (by simp) _⟩
    · have h := A2.out.set 72 (.int .u64 ((N : Nat) : Int))
      rw [HC.out, stRow_set HS.out.h HS.out.t] at h
      rw [← Int.natCast_add, ← HNN.out]
      exact h
    · rw [← HZ.out]; exact (AZ.out.below hb2 (by omega)).set_other _ _ (by simp)
  have HI0 := Lib.hid hI0
  clear hI0 c72 f72 hz
  go_loopw [1, 5, 6] (fun vb va _ wr => WRel s l N w vb va wr) (fun vb _ _ _ => lenOf vb)
  case atStart => exact ⟨[], l, rfl, HV.out, rfl, HI0.out⟩
  case round =>
    obtain ⟨done, rest, hl, ⟨a, cap, rfl, hcap, hcells⟩, rfl, hI⟩ := hrel
    have hok := feeds_ok done HS.out
    obtain ⟨F, hF⟩ : ∃ F, F = feeds s done := ⟨_, rfl⟩
    rw [← hF] at hI hok ⊢
    obtain ⟨m, hm⟩ : ∃ m, m = rest.length := ⟨_, rfl⟩
    rw [← hm] at hcap ⊢
    have HF := Lib.hid hF; have HL := Lib.hid hl; have HI := Lib.hid hI; have HOK := Lib.hid hok; have HMM := Lib.hid hm; have HCE := Lib.hid hcells
    clear hF hl hI hok hcells
    by_cases hne : m = 0
    · have hlen : ¬ (0 : Int) < (m : Int) := by omega
      have hr0 : rest = [] := List.eq_nil_of_length_eq_zero (by rw [← hm]; exact hne)
      have hld : l = done := by rw [HL.out, hr0, List.append_nil]
      have hA := HI.out.c
      obtain ⟨G, hG⟩ : ∃ G, G = stRow F.H F.T N := ⟨_, rfl⟩
      rw [← hG] at hA
      have hGs : G.size = 73 := by rw [hG]; exact stRow_size HOK.out.h HOK.out.t
      have hGo : G.all (·.oneCell') = true := by rw [hG]; exact stRow_one
      have hfin : stRow (feeds s l).H (feeds s l).T (n + l.length) = G := by rw [hG, ← HNN.out, hld, ← HF.out]
      have HA := Lib.hid hA; have HG := Lib.hid hG; have HGS := Lib.hid hGs; have HGO := Lib.hid hGo; have HFIN := Lib.hid hfin
      clear hr0 hld hA hG hGs hGo hfin hm hne
      go_wp2_with (first | (refine wpList_load_all (by rfl) 81 _ (by rfl) _ (by rfl) _ Tryd.underlying81 (by rfl) _ _ HA.out (by rw [HGS.out]; exact infoSt) ?_) | (refine wpList_store_all (by rfl) 81 _ _ (by rfl) (by rfl) _ _ (by rfl) (by rfl) (by rw [HGS.out]; exact infoSt) _ _ HI.out.z (by rw [HGS.out, Zst_size]) HGO.out ?_))
      try simp only [Exit.inBlock, Exit.then]
      refine ret_row (by rfl) (w.heap.size + 1) 81 G _ (by rfl) (HI.out.z.row G) Tryd.underlying81 (by rfl) (by rw [HGS.out]; exact infoSt) ?_
      exact ⟨by rw [HFIN.out], below_row HI.out.b (by omega) G⟩
    · obtain ⟨bb, oo, ha, hbb, hce⟩ := HCE.out (by intro e; rw [e] at hm; exact hne hm)
      subst ha
      have hpos : (0 : Int) < (m : Int) := by omega
      have hp := HOK.out.a
      obtain ⟨p, hpp⟩ : ∃ p, p = F.at' := ⟨_, rfl⟩
      rw [← hpp] at hp ⊢
      have HP := Lib.hid hpp; have HCC := Lib.hid hce
      clear hpp hce hne
      obtain ⟨k, hk⟩ : ∃ k, k = min (64 - p) m := ⟨_, rfl⟩
      have hkm : k ≤ m := by omega
      have hk0 : 0 < k := by omega
      obtain ⟨c, hc⟩ : ∃ c, c = rest.take k := ⟨_, rfl⟩
      have hcl : c.length = k := by rw [hc, List.length_take]; omega
      obtain ⟨cs, hcs⟩ : ∃ cs, cs = u8s c := ⟨_, rfl⟩
      have hcsl : cs.length = k := by rw [hcs, u8s_length, hcl]
      have hn : cs.length = Nat.min m (64 - p) := by rw [hcsl, hk]; exact Nat.min_comm _ _
      have hsrc : ∀ j v, cs[j]? = some v → wr.cell? ((⟨bb, oo, none⟩ : Addr).add j) = some v := fun j v hv => by
        have hj : j < cs.length := (List.getElem?_eq_some_iff.1 hv).1
        rw [Addr.add_mid, HI.out.b.cell (p := ⟨bb, oo + j, none⟩) hbb, HCC.out j (by rw [← HMM.out]; omega), ← hv, hcs, u8s_get c j (by omega), hc]
        simp [List.getD_eq_getElem?_getD, show j < k by omega]
      have h1 : ∀ v ∈ cs, v.oneCell' = true := by rw [hcs]; intro v hv; simp only [u8s, List.mem_map] at hv; obtain ⟨_, _, rfl⟩ := hv; rfl
      obtain ⟨E, hE⟩ : ∃ E, E = stRow F.H (lay F.T p c) N := ⟨_, rfl⟩
      have hsp : Mem.splice (stRow F.H F.T N) (8 + p) cs = E := by rw [hcs, hE]; exact stRow_putT HOK.out.h HOK.out.t p c (by omega)
      have hfit : 8 + p + cs.length ≤ (stRow F.H F.T N).size := by rw [stRow_size HOK.out.h HOK.out.t]; omega
      obtain ⟨C0, hC0⟩ : ∃ C0, C0 = stRow F.H F.T N := ⟨_, rfl⟩
      have hAc := HI.out.c
      rw [← hC0] at hAc hsp hfit
      have hlt : (lay F.T p c).length = 64 := by rw [lay_length _ _ _ (by rw [HOK.out.t]; omega), HOK.out.t]
      have hnext : WRel s l N w (.slice (none : Option Addr) 0 0) (.int .i64 0) wr ∨ True := Or.inr trivial
      clear hnext
      have HK := Lib.hid hk; have HC' := Lib.hid hc; have HCL := Lib.hid hcl; have HCS := Lib.hid hcs; have HCSL := Lib.hid hcsl; have HN' := Lib.hid hn; have HSRC := Lib.hid hsrc; have H1 := Lib.hid h1; have HE := Lib.hid hE; have HSP := Lib.hid hsp; have HFIT := Lib.hid hfit; have HC0 := Lib.hid hC0; have HAC := Lib.hid hAc; have HLT := Lib.hid hlt
      have hk64 : p + k ≤ 64 := by omega
      have hkm' : ¬ p + k = 64 → k = m := by omega
      clear hk hc hcl hcs hcsl hn hsrc h1 hE hsp hfit hC0 hAc hlt hm
      by_cases hfull : p + k = 64
      · have hb : (((p : Int) + (k : Int)) == 64) = true := by rw [beq_iff_eq]; omega
        clear hkm'
        have HFULL := Lib.hid hfull
        have hOK := HOK.out
        have hE2 : E.extract 0 (0 + 8) = (u32s F.H).toArray := by rw [HE.out]; exact stRow_H hOK.h
        have hE3 : E.extract 8 (8 + 64) = (u8s (lay F.T p c)).toArray := by rw [HE.out]; exact stRow_T hOK.h HLT.out
        have hEs : E.size = 73 := by rw [HE.out]; exact stRow_size hOK.h HLT.out
        obtain ⟨J, hJ⟩ : ∃ J, J = addB F.H (lay F.T p c) := ⟨_, rfl⟩
        have hJl : J.length = 8 := by rw [hJ]; exact addB_length _ _ hOK.h
        obtain ⟨G, hG⟩ : ∃ G, G = stRow J (lay F.T p c) N := ⟨_, rfl⟩
        obtain ⟨Q2, hQ2⟩ : ∃ Q2, Q2 = stRow J zs64 N := ⟨_, rfl⟩
        have hGs : G.size = 73 := by rw [hG]; exact stRow_size hJl HLT.out
        have hput : Mem.splice E 0 (u32s J).toArray.toList = G := by rw [HE.out, hG]; exact stRow_putH hOK.h hJl
        have hput2 : Mem.splice G 8 ZT.toList = Q2 := by
          have := stRow_putT (n := N) hJl HLT.out 0 zs64 (by simp [zs64])
          rw [hG, hQ2]
          have e : lay (lay F.T p c) 0 zs64 = zs64 := by
            have h1 : zs64.length = 64 := by simp [zs64]
            show (lay F.T p c).take 0 ++ zs64 ++ (lay F.T p c).drop (0 + zs64.length) = zs64
            rw [h1, List.drop_of_length_le (by rw [HLT.out]; decide)]; simp
          rw [e] at this
          exact this
        have hJs : (u32s J).toArray.size = 8 := by simp [u32s, hJl]
        have hJo := u32s_one J
        obtain ⟨JR, hJR⟩ : ∃ JR, JR = (u32s J).toArray := ⟨_, rfl⟩
        rw [← hJR] at hput hJs hJo
        have hadd : ∀ wx, Tabs wx → Calls Tryd.prog 60 #[.agg (u32s F.H).toArray, .agg (u8s (lay F.T p c)).toArray] wx fun e w' => e = .returned (.agg JR) ∧ Below wx.heap.size wx w' := fun wx hx => by
          rw [hJR, hJ]; exact addBlock_any F.H (lay F.T p c) hOK.h HLT.out wx hx
        obtain ⟨FR, hFR⟩ : ∃ FR, FR = (u32s F.H).toArray := ⟨_, rfl⟩
        obtain ⟨TR, hTR⟩ : ∃ TR, TR = (u8s (lay F.T p c)).toArray := ⟨_, rfl⟩
        rw [← hFR, ← hTR] at hadd
        rw [← hFR] at hE2
        rw [← hTR] at hE3
        obtain ⟨Y, hY⟩ : ∃ Y, Y = ZT := ⟨_, rfl⟩
        rw [← hY] at hput2
        have hYs : Y.size = 64 := by rw [hY]; exact ZT_size
        have hYo : Y.all (·.oneCell') = true := by rw [hY]; exact u8s_one _
        have htab : ∀ wx, Below w.heap.size w wx → Tabs wx := fun wx hx => HLT'.out.below hx (Nat.le_refl _)
        have HE2 := Lib.hid hE2; have HE3 := Lib.hid hE3; have HES := Lib.hid hEs; have HJ := Lib.hid hJ; have HG := Lib.hid hG; have HGS := Lib.hid hGs; have HPUT := Lib.hid hput; have HPUT2 := Lib.hid hput2; have HJS := Lib.hid hJs; have HJO := Lib.hid hJo; have HADD := Lib.hid hadd; have HYD := Lib.hid hY; have HYS := Lib.hid hYs; have HYO := Lib.hid hYo; have HTAB := Lib.hid htab; have HQ2 := Lib.hid hQ2; have HJL := Lib.hid hJl
        clear hOK hE2 hE3 hEs hJ hG hGs hput hput2 hJs hJo hadd hYs hYo htab hQ2 hJl hJR hFR hTR hY hfull
        go_wp2_with (first | (refine wpList_slice_arr (by rfl) 67 _ _ (by rfl) 64 5 Tryd.underlying67 infoB _ 8 p (by rfl) (by rfl) hp ?_) | (refine wpList_copy_at (by rfl) _ _ 22 22 (by rfl) 5 Tryd.underlying22 infoB w.heap.size (8 + p) (64 - p) (64 - p) ⟨bb, oo, none⟩ m cap (by rfl) (by rfl) cs HN'.out HSRC.out H1.out C0 _ HAC.out HFIT.out E HSP.out k HCSL.out ?_; intro w4 a4 s4 o4 b4; have A4 := Lib.hid a4; have S4 := Lib.hid s4; have B4 := Lib.hid b4; have O4 := Lib.hid o4; clear a4 s4 o4 b4) | (refine wpList_slice_low (by rfl) 22 _ _ (by rfl) 5 Tryd.underlying22 infoB (some ⟨bb, oo, none⟩) m cap k (by rfl) (by rfl) hkm ?_; intro a1 ha1; have HA1 := Lib.hid ha1; clear ha1) | (refine wpList_load_is (by rfl) 79 _ (by rfl) w.heap.size 0 8 (by rfl) _ Tryd.underlying79 (by rfl) info8 E _ A4.out (by rw [HES.out]; decide) FR HE2.out ?_) | (refine wpList_load_is (by rfl) 67 _ (by rfl) w.heap.size 8 64 (by rfl) _ Tryd.underlying67 (by rfl) info64b E _ A4.out (by rw [HES.out]; decide) TR HE3.out ?_) | (go_at_call 60; refine (HADD.out _ (HTAB.out _ (B4.out _ _ HI.out.b (Nat.le_refl _)))).mono ?_; rintro e w5 ⟨rfl, hb5⟩; have a5 := A4.out.below hb5 A4.out.lt; have A5 := Lib.hid a5; have HB5 := Lib.hid hb5; clear a5 hb5) | (refine wpList_store_is (by rfl) 79 _ _ (by rfl) (by rfl) w.heap.size 0 JR (by rfl) (by rfl) (by rw [HJS.out]; exact info8) E _ A5.out (by rw [HES.out, HJS.out]; decide) HJO.out G HPUT.out ?_; intro w6 a6 s6 o6 b6; have A6 := Lib.hid a6; have O6 := Lib.hid o6; have B6 := Lib.hid b6; clear a6 s6 o6 b6) | (refine wpList_store_is (by rfl) 67 _ _ (by rfl) (by rfl) w.heap.size 8 Y (by rfl) (by rw [HYD.out]; rfl) (by rw [HYS.out]; exact info64b) G _ A6.out (by rw [HGS.out, HYS.out]; decide) HYO.out Q2 HPUT2.out ?_; intro w7 a7 s7 o7 b7; have A7 := Lib.hid a7; have O7 := Lib.hid o7; have B7 := Lib.hid b7; clear a7 s7 o7 b7))
        go_roundw
        case rel =>
          have e1 : feeds F c = ⟨addB F.H (lay F.T F.at' c), zs64, 0⟩ := feeds_full c F HOK.out.t (by rw [← HP.out]; exact hp) (by rw [← HP.out, HCL.out]; exact HFULL.out)
          refine ⟨done ++ c, rest.drop k, ?_, sl_drop HMM.out hkm hcap hbb HCC.out HA1.out, ?_, ?_⟩
          · rw [HL.out, HC'.out, List.append_assoc, List.take_append_drop]
          · rw [feeds_append, ← HF.out, e1]; rfl
          · rw [feeds_append, ← HF.out, e1]
            have a7 := A7.out
            rw [HQ2.out, HJ.out, HP.out] at a7
            have z4 := at_keep HI.out.z O4.out (show w.heap.size + 1 ≠ w.heap.size by omega)
            have z5 := z4.below HB5.out z4.lt
            have z6 := at_keep z5 O6.out (show w.heap.size + 1 ≠ w.heap.size by omega)
            have b4 := B4.out _ _ HI.out.b (Nat.le_refl _)
            have b5 := b4.trans (HB5.out.mono (Nat.le_of_lt A4.out.lt))
            exact ⟨a7, at_keep z6 O7.out (by omega), B7.out _ _ (B6.out _ _ b5 (Nat.le_refl _)) (Nat.le_refl _)⟩
        case measure => simp [lenOf]; omega
      · have hb : (((p : Int) + (k : Int)) == 64) = false := by rw [beq_eq_false_iff_ne]; omega
        have hkm2 := Lib.hid (hkm' hfull)
        clear hkm'
        go_wp2_with (first | (refine wpList_slice_arr (by rfl) 67 _ _ (by rfl) 64 5 Tryd.underlying67 infoB _ 8 p (by rfl) (by rfl) hp ?_) | (refine wpList_copy_at (by rfl) _ _ 22 22 (by rfl) 5 Tryd.underlying22 infoB w.heap.size (8 + p) (64 - p) (64 - p) ⟨bb, oo, none⟩ m cap (by rfl) (by rfl) cs HN'.out HSRC.out H1.out C0 _ HAC.out HFIT.out E HSP.out k HCSL.out ?_; intro w4 a4 s4 o4 b4; have A4 := Lib.hid a4; have S4 := Lib.hid s4; have B4 := Lib.hid b4; have O4 := Lib.hid o4; clear a4 s4 o4 b4) | (refine wpList_slice_low (by rfl) 22 _ _ (by rfl) 5 Tryd.underlying22 infoB (some ⟨bb, oo, none⟩) m cap k (by rfl) (by rfl) hkm ?_; intro a1 ha1; have HA1 := Lib.hid ha1; clear ha1))
        go_roundw
        case rel =>
          have e1 : feeds F c = ⟨F.H, lay F.T F.at' c, F.at' + c.length⟩ := feeds_part c F HOK.out.t (by rw [← HP.out, HCL.out]; omega)
          refine ⟨done ++ c, rest.drop k, ?_, sl_drop HMM.out hkm hcap hbb HCC.out HA1.out, ?_, ?_⟩
          · rw [HL.out, HC'.out, List.append_assoc, List.take_append_drop]
          · rw [feeds_append, ← HF.out, e1, ← HP.out, HCL.out]; simp
          · rw [feeds_append, ← HF.out, e1]
            have a4 := A4.out
            rw [HE.out, HP.out] at a4
            exact ⟨a4, at_keep HI.out.z O4.out (by omega), B4.out _ _ HI.out.b (Nat.le_refl _)⟩
        case measure => simp [lenOf]; omega
end Sha
end Go.Proofs.YtjadjidjfkahpaaDoor
namespace Go.Proofs.YtjadjidjfkahpaaDoor
namespace Mem
open Go.RowKit
variable {P : Program} {ops : Array Oper} {K : World → Prop} {Q : Act → Prop} {a : Act} {op : Oper} {rest : List Oper}

theorem wpQuiet_value (hgd : op.guard = none) (v : Value) (hv : ∀ w, K w → (execOp a.eval op).run P w = .ok (.value v) w) (h : wpQuiet P ops K Q rest (a.put op.dst v)) : wpQuiet P ops K Q (op :: rest) a := by
  refine wpQuiet_step fun L hL => ?_
  rw [if_pos (by simp [Region.wanted, hgd])]
  refine ⟨v, fun w hw => ?_, hL _ h⟩
  unfold Oper.quietAt
  rw [hv w hw]
  exact ⟨rfl, rfl⟩
theorem wpQuiet_load_all (hgd : op.guard = none) (ty : TypeId) (x : Operand) (ho : op.op = .load ty x) (b : Nat) (hx : a.eval x = .pointer (some ⟨b, 0, none⟩)) (d : TypeDesc) (hu : P.underlying ty = some d) (hd : d.isRow = true)
    (C : Array Value) (t : TypeId) (hC : ∀ w, K w → At w b C t) (hi : (P.info? ty).map (·.size) = some C.size) (h : wpQuiet P ops K Q rest (a.put op.dst (.agg C))) : wpQuiet P ops K Q (op :: rest) a :=
  wpQuiet_value hgd (.agg C) (fun w hw => by
    have hr := run_loadAt_mid (P := P) w b 0 ty (C.extract 0 (0 + C.size)).toList d ((hC w hw).range 0 C.size) hu hd (by rw [hi]; simp)
    unfold execOp
    simp only [ho, hx, Sem.run_bind, hr, Result.andThen_ok, Sem.run_pure]
    simp) h
theorem wpQuiet_slice_arr_to (hgd : op.guard = none) (ty : TypeId) (x i : Operand) (ho : op.op = .slice ty x none (some i) none)
    (n : Nat) (elem : TypeId) (hu : P.underlying ty = some (.array n elem)) (hs : (P.info? elem).map (·.size) = some 1) (b o k : Nat) (hx : a.eval x = .pointer (some ⟨b, o, none⟩)) (hi : a.eval i = .int .i64 (k : Int)) (hk : k ≤ n)
    (h : wpQuiet P ops K Q rest (a.put op.dst (.slice (some ⟨b, o, none⟩) k n))) : wpQuiet P ops K Q (op :: rest) a :=
  wpQuiet_value hgd _ (fun w _ => by
    cases hq : P.info? elem with
    | none => simp [hq] at hs
    | some q =>
      have hs1 : q.size = 1 := by simpa [hq] using hs
      have hat : (Instr.sliceAt ty (.pointer (some ⟨b, o, none⟩)) none (some (.int .i64 (k : Int))) none).run P w = .ok (.slice (some ⟨b, o, none⟩) k n) w := by
        simp [Instr.sliceAt, Instr.sureAddr, Instr.sliceBounds, Instr.sliceBound, asIntOf, Sem.run_bind, run_underlying hu, sizeOf, typeInfo, hq, hk, Addr.add_mid]
      unfold execOp
      simp only [ho, hx, hi, Option.map_some, Option.map_none, Sem.run_bind, hat, Result.andThen_ok, Sem.run_pure]) h
end Mem
end Go.Proofs.YtjadjidjfkahpaaDoor
namespace Go.Proofs.YtjadjidjfkahpaaDoor
namespace Sha
open Go.RowKit Mem

def Z72 : Array Value := (u8s (List.replicate 72 0)).toArray
theorem zero72 (w : World) : (zeroValue 107).run Tryd.prog w = .ok (.agg Z72) w := by kernel_rfl
theorem info72 : (Tryd.prog.info? 107).map (·.size) = some 72 := by kernel_rfl
theorem Z72_set : Z72.setIfInBounds 0 (.int .u8 128) = (u8s P0).toArray := by
  unfold Z72 P0
  have : (List.replicate 72 (0 : BitVec 8)) = 0 :: List.replicate 71 0 := rfl
  rw [this]
  have e := u8s_set (0 :: List.replicate 71 0) 0 128
  simpa using e
theorem lenByte_val (n j : Nat) : ((n : Int) * 8 / 2 ^ (56 - 8 * j) % (256 : Int)) = ((lenByte (n * 8) j).toNat : Int) := by
  unfold lenByte
  rw [BitVec.toNat_ofNat]
  show _ = ((n * 8 / 2 ^ (56 - 8 * j) % 256 : Nat) : Int)
  rw [Int.natCast_emod, Int.natCast_ediv, Int.natCast_mul, Int.natCast_pow]; rfl
structure PInv (B : Nat) (C : Array Value) (l : List (BitVec 8)) (w wr : World) : Prop where
  c : At wr B C 81
  z : At wr (B + 1) Zst 81
  p : At wr (B + 2) (u8s l).toArray 107
  b : Below B w wr
set_option maxRecDepth 100000 in
set_option maxHeartbeats 1000000 in
theorem pad_any (s : Fed) (hs : Ok s) (n : Nat) (hn : n % 64 = s.at') (w : World) (hN : n ≤ 1152921504606846975) (hL : Tabs w) :
    Calls Tryd.prog 61 #[.agg (stRow s.H s.T n)] w fun e w' => e = .returned (.agg (stRow (feeds s (padBytes n)).H (feeds s (padBytes n)).T (n + (padBytes n).length))) ∧ Below w.heap.size w w' := by
  obtain ⟨C, hC⟩ : ∃ C, C = stRow s.H s.T n := ⟨_, rfl⟩
  obtain ⟨Z, hZ⟩ : ∃ Z, Z = Zst := ⟨_, rfl⟩
  obtain ⟨X, hX⟩ : ∃ X, X = Z72 := ⟨_, rfl⟩
  have hz := zeroSt
  have hx := zero72
  rw [← hZ] at hz
  rw [← hX] at hx
  have hwr := fun (wx : World) (v : Value) (hv : Sl wx v (padBytes n)) (ht : Tabs wx) => write_any s hs n hn (padBytes n) v wx (by have := padQ_bd (n % 64) (Nat.mod_lt _ (by decide)); rw [padBytes_length]; omega) hv ht
  rw [← hC] at hwr ⊢
  have hsz : C.size = 73 := by rw [hC]; exact stRow_size hs.h hs.t
  have h72 : C[72]? = some (.int .u64 (n : Int)) := by rw [hC]; exact stRow_n hs.h hs.t
  have hmod : ((n % 64 : Nat) : Int) = (s.at' : Int) := by rw [hn]
  have X0 : X[0]? = some (.int .u8 0) := by rw [hX]; simp [Z72, u8s]
  have aC : At (((w.alloc (.cells C 81)).alloc (.cells Z 81)).alloc (.cells (X.setIfInBounds 0 (.int .u8 128)) 107)) w.heap.size C 81 := ((at_new w C _).alloc _).alloc _
  have aZ : At (((w.alloc (.cells C 81)).alloc (.cells Z 81)).alloc (.cells (X.setIfInBounds 0 (.int .u8 128)) 107)) (w.heap.size + 1) Z 81 := by
    have := (at_new (w.alloc (.cells C 81)) Z 81).alloc (.cells (X.setIfInBounds 0 (.int .u8 128)) 107)
    simpa using this
  have aX : At (((w.alloc (.cells C 81)).alloc (.cells Z 81)).alloc (.cells (X.setIfInBounds 0 (.int .u8 128)) 107)) (w.heap.size + 2) (X.setIfInBounds 0 (.int .u8 128)) 107 := by
    have := at_new ((w.alloc (.cells C 81)).alloc (.cells Z 81)) (X.setIfInBounds 0 (.int .u8 128)) 107
    simpa using this
  have b1 : Below w.heap.size w (((w.alloc (.cells C 81)).alloc (.cells Z 81)).alloc (.cells (X.setIfInBounds 0 (.int .u8 128)) 107)) := (((Below.refl _ _).alloc (Nat.le_refl _) _).alloc (by simp) _).alloc (by simp; omega) _
  have s1 : (((w.alloc (.cells C 81)).alloc (.cells Z 81)).alloc (.cells (X.setIfInBounds 0 (.int .u8 128)) 107)).heap.size = w.heap.size + 3 := by simp
  have HC := Lib.hid hC; have HZ := Lib.hid hZ; have HX := Lib.hid hX; have HSZ := Lib.hid hsz; have H72 := Lib.hid h72; have HM := Lib.hid hmod; have AC := Lib.hid aC; have AZ := Lib.hid aZ; have AX := Lib.hid aX; have B1 := Lib.hid b1; have S1 := Lib.hid s1
  have HLT := Lib.hid hL; have HS := Lib.hid hs; have HMOD := Lib.hid hn; have HWR := Lib.hid hwr
  clear hC hZ hX hsz h72 hmod aC aZ aX b1 s1 hL hs hn hwr
  have TS : Hid (∀ w : World, Calls Tryd.prog 59 #[.agg C] w fun e w' => e = .returned (.int .i64 (s.at' : Int)) ∧ Below w.heap.size w w') := fun w => by
    have := tailSize_any C n w H72.out
    rw [HM.out] at this
    exact this
  obtain ⟨t, ht⟩ : ∃ t, t = s.at' := ⟨_, rfl⟩
  rw [← ht] at TS
  have htl : t < 64 := by rw [ht]; exact HS.out.a
  obtain ⟨q, hq⟩ : ∃ q, q = padQ (n % 64) := ⟨_, rfl⟩
  have hqt : q = padQ t := by rw [hq, ht, HMOD.out]
  have hqb : 1 ≤ q ∧ q ≤ 64 := by rw [hqt]; exact padQ_bd t htl
  obtain ⟨hq1, hq2⟩ := hqb
  have HT := Lib.hid ht; have HQ := Lib.hid hq
  clear ht hq
  by_cases h56 : t < 56
  · have hr : (56 : Int) - (t : Int) = (q : Int) := by rw [hqt, padQ, if_pos h56]; omega
    have hr1 : decide ((q : Int) < 1) = false := by simp; omega
    have hr2 : ¬ (q : Int) < 1 := by omega
    clear hqt h56
    go_enter Tryd.func61, Tryd.ntmps61
    go_wp2_with (first | (refine wpList_load_all (by rfl) 81 _ (by rfl) _ (by rfl) _ Tryd.underlying81 (by rfl) _ _ AC.out (by rw [HSZ.out]; exact infoSt) ?_) | (go_at_call 59; refine (TS.out _).mono ?_; rintro e w2 ⟨rfl, hb2⟩; have a2 := AC.out.below hb2 (by rw [S1.out]; omega); have c72 := (a2.cell 72).trans H72.out; have A2 := Lib.hid a2; have HB2 := Lib.hid hb2; clear a2 hb2))
    have hI0 : PInv w.heap.size C P0 w w2 := by
      have hb2 := HB2.out
      rw [S1.out] at hb2
      refine ⟨A2.out, ?_, ?_, B1.out.trans (hb2.mono (by omega))⟩
      · rw [← HZ.out]; exact AZ.out.below hb2 (by omega)
      · have := AX.out.below hb2 (by omega)
        rw [HX.out, Z72_set] at this
        exact this
    have HI0 := Lib.hid hI0
    clear hI0 c72 hz hx X0
    go_loopw [6, 18] (fun _ i wr => ∃ j : Nat, j ≤ 8 ∧ i = .int .i64 j ∧ PInv w.heap.size C (padRow q (n * 8) j) w wr) (fun _ i _ => 8 - (intOf i).toNat)
    case atStart => exact ⟨0, by omega, rfl, HI0.out⟩
    case round =>
      obtain ⟨j, hj, rfl, hI⟩ := hrel
      by_cases hlt : j < 8
      · have ca : ∃ o, wr.cell? ⟨w.heap.size + 1 + 1, q + j, none⟩ = some (.int .u8 o) := by
          refine ⟨(((padRow q (n * 8) j).getD (q + j) 0).toNat : Int), ?_⟩
          rw [show w.heap.size + 1 + 1 = w.heap.size + 2 from rfl, hI.p.cell, List.getElem?_toArray]
          exact u8s_get _ _ (by rw [padRow_length]; omega)
        obtain ⟨o, ca⟩ := ca
        have fa : wr.frozen? ⟨w.heap.size + 1 + 1, q + j, none⟩ = false := hI.p.free _
        have HI := Lib.hid hI
        clear hI
        go_wp2_with fail
        go_roundw
        case rel =>
          refine ⟨j + 1, by omega, by go_num, ?_⟩
          rw [lenByte_val]
          have hI := HI.out
          have hp := hI.p.set (q + j) (.int .u8 ((lenByte (n * 8) j).toNat : Int))
          rw [u8s_set] at hp
          exact ⟨hI.c.set_other _ _ (by simp; omega), hI.z.set_other _ _ (by simp), hp, hI.b.setCell (by simp; omega) _⟩
        case measure => simp [intOf]; omega
      · have hj8 : j = 8 := by omega
        rw [hj8] at hI
        have hge : ¬ (j : Int) < 8 := by omega
        have hpl : (padBytes n).length = q + 8 := by rw [padBytes_length, HQ.out]
        have hqs : IntKind.i64.wrap ((q : Int) + 8) = (q : Int) + 8 := by rw [IntWalk.i64_in _ (by omega)]
        obtain ⟨R, hR⟩ : ∃ R, R = stRow (feeds s (padBytes n)).H (feeds s (padBytes n)).T (n + (padBytes n).length) := ⟨_, rfl⟩
        have hfo := feeds_ok (padBytes n) HS.out
        have hRs : R.size = 73 := by rw [hR]; exact stRow_size hfo.h hfo.t
        have hRo : R.all (·.oneCell') = true := by rw [hR]; exact stRow_one
        have hcall : Calls Tryd.prog 44 #[.agg C, .slice (some ⟨w.heap.size + 1 + 1, 0, none⟩) (q + 8) 72] wr.drew fun e w' => e = .returned (.agg R) ∧ Below wr.drew.heap.size wr.drew w' := by
          have hsl : Sl wr.drew (.slice (some ⟨w.heap.size + 1 + 1, 0, none⟩) (q + 8) 72) (padBytes n) := by
            refine ⟨_, _, by rw [hpl], by rw [hpl]; omega, fun _ => ⟨_, _, rfl, hI.p.lt, fun i hi => ?_⟩⟩
            rw [hpl] at hi
            have e := At.cell (w := wr.drew) hI.p (0 + i)
            rw [show w.heap.size + 1 + 1 = w.heap.size + 2 from rfl, e, Nat.zero_add, List.getElem?_toArray, u8s_get _ i (by rw [padRow_length]; omega), padBytes, ← HQ.out]
            simp [List.getD_eq_getElem?_getD, hi]
          have := HWR.out wr.drew _ hsl (HLT.out.below hI.b.drew (Nat.le_refl _))
          rw [hR]; exact this
        have HI := Lib.hid hI; have HR := Lib.hid hR; have HRS := Lib.hid hRs; have HRO := Lib.hid hRo; have HCALL := Lib.hid hcall; have HPL := Lib.hid hpl
        clear hI hR hRs hRo hcall hpl hfo hj8 hj hlt
        go_wp2_with fail
        refine wp_region_quiet_tail 4 (by kernel_rfl) (by kernel_rfl) ?_
        simp only [List.take_succ_cons, List.take_zero, List.drop_succ_cons, List.drop_zero]
        refine wpQuiet_load_all (by rfl) 81 _ (by rfl) w.heap.size (by rfl) _ Tryd.underlying81 (by rfl) C 81 (fun w' e => by rw [e]; exact HI.out.c) (by rw [HSZ.out]; exact infoSt) ?_
        simp only [Act.put, List.setIfInBounds_toArray, List.set_cons_zero, List.set_cons_succ]
        repeat (go_big_quiet_step (fail))
        refine wpQuiet_slice_arr_to (by rfl) 107 _ _ (by rfl) 72 5 Tryd.underlying107 infoB (w.heap.size + 1 + 1) 0 (q + 8) (by rfl) (by rfl) (by omega) ?_
        simp only [Act.put, List.setIfInBounds_toArray, List.set_cons_zero, List.set_cons_succ]
        refine wpQuiet_nil ?_
        go_wp2_with (first | (go_at_call 44; refine HCALL.out.mono ?_; rintro e w9 ⟨rfl, hb9⟩; have z9 := (At.drew HI.out.z).below hb9 HI.out.z.lt; have Z9 := Lib.hid z9; have HB9 := Lib.hid hb9; clear z9 hb9) | (refine wpList_store_all (by rfl) 81 _ _ (by rfl) (by rfl) (w.heap.size + 1) R (by rfl) (by rfl) (by rw [HRS.out]; exact infoSt) _ _ Z9.out (by rw [HRS.out, Zst_size]) HRO.out ?_))
        try simp only [Exit.inBlock, Exit.then]
        refine ret_row (by rfl) (w.heap.size + 1) 81 R _ (by rfl) (Z9.out.row R) Tryd.underlying81 (by rfl) (by rw [HRS.out]; exact infoSt) ?_
        have hlt9 : w.heap.size ≤ wr.heap.size := HI.out.b.size
        exact ⟨by rw [HR.out], below_row (HI.out.b.drew.trans (HB9.out.mono hlt9)) (by omega) R⟩
  · obtain ⟨d, hd⟩ : ∃ d : Int, d = 56 - (t : Int) := ⟨_, rfl⟩
    have hr : (56 : Int) - (t : Int) = d := hd.symm
    have hr3 : d + 64 = (q : Int) := by rw [hqt, padQ, if_neg h56, hd]; omega
    have hr2 : d < 1 := by omega
    have hr1 : decide (d < 1) = true := by simp; omega
    have hr4 : -8 < d := by omega
    clear hqt h56 hd
    go_enter Tryd.func61, Tryd.ntmps61
    go_wp2_with (first | (refine wpList_load_all (by rfl) 81 _ (by rfl) _ (by rfl) _ Tryd.underlying81 (by rfl) _ _ AC.out (by rw [HSZ.out]; exact infoSt) ?_) | (go_at_call 59; refine (TS.out _).mono ?_; rintro e w2 ⟨rfl, hb2⟩; have a2 := AC.out.below hb2 (by rw [S1.out]; omega); have c72 := (a2.cell 72).trans H72.out; have A2 := Lib.hid a2; have HB2 := Lib.hid hb2; clear a2 hb2))
    have hI0 : PInv w.heap.size C P0 w w2 := by
      have hb2 := HB2.out
      rw [S1.out] at hb2
      refine ⟨A2.out, ?_, ?_, B1.out.trans (hb2.mono (by omega))⟩
      · rw [← HZ.out]; exact AZ.out.below hb2 (by omega)
      · have := AX.out.below hb2 (by omega)
        rw [HX.out, Z72_set] at this
        exact this
    have HI0 := Lib.hid hI0
    clear hI0 c72 hz hx X0
    go_loopw [6, 18] (fun _ i wr => ∃ j : Nat, j ≤ 8 ∧ i = .int .i64 j ∧ PInv w.heap.size C (padRow q (n * 8) j) w wr) (fun _ i _ => 8 - (intOf i).toNat)
    case atStart => exact ⟨0, by omega, rfl, HI0.out⟩
    case round =>
      obtain ⟨j, hj, rfl, hI⟩ := hrel
      by_cases hlt : j < 8
      · have ca : ∃ o, wr.cell? ⟨w.heap.size + 1 + 1, q + j, none⟩ = some (.int .u8 o) := by
          refine ⟨(((padRow q (n * 8) j).getD (q + j) 0).toNat : Int), ?_⟩
          rw [show w.heap.size + 1 + 1 = w.heap.size + 2 from rfl, hI.p.cell, List.getElem?_toArray]
          exact u8s_get _ _ (by rw [padRow_length]; omega)
        obtain ⟨o, ca⟩ := ca
        have fa : wr.frozen? ⟨w.heap.size + 1 + 1, q + j, none⟩ = false := hI.p.free _
        have HI := Lib.hid hI
        clear hI
        go_wp2_with fail
        go_roundw
        case rel =>
          refine ⟨j + 1, by omega, by go_num, ?_⟩
          rw [lenByte_val]
          have hI := HI.out
          have hp := hI.p.set (q + j) (.int .u8 ((lenByte (n * 8) j).toNat : Int))
          rw [u8s_set] at hp
          exact ⟨hI.c.set_other _ _ (by simp; omega), hI.z.set_other _ _ (by simp), hp, hI.b.setCell (by simp; omega) _⟩
        case measure => simp [intOf]; omega
      · have hj8 : j = 8 := by omega
        rw [hj8] at hI
        have hge : ¬ (j : Int) < 8 := by omega
        have hpl : (padBytes n).length = q + 8 := by rw [padBytes_length, HQ.out]
        have hqs : IntKind.i64.wrap ((q : Int) + 8) = (q : Int) + 8 := by rw [IntWalk.i64_in _ (by omega)]
        obtain ⟨R, hR⟩ : ∃ R, R = stRow (feeds s (padBytes n)).H (feeds s (padBytes n)).T (n + (padBytes n).length) := ⟨_, rfl⟩
        have hfo := feeds_ok (padBytes n) HS.out
        have hRs : R.size = 73 := by rw [hR]; exact stRow_size hfo.h hfo.t
        have hRo : R.all (·.oneCell') = true := by rw [hR]; exact stRow_one
        have hcall : Calls Tryd.prog 44 #[.agg C, .slice (some ⟨w.heap.size + 1 + 1, 0, none⟩) (q + 8) 72] wr.drew fun e w' => e = .returned (.agg R) ∧ Below wr.drew.heap.size wr.drew w' := by
          have hsl : Sl wr.drew (.slice (some ⟨w.heap.size + 1 + 1, 0, none⟩) (q + 8) 72) (padBytes n) := by
            refine ⟨_, _, by rw [hpl], by rw [hpl]; omega, fun _ => ⟨_, _, rfl, hI.p.lt, fun i hi => ?_⟩⟩
            rw [hpl] at hi
            have e := At.cell (w := wr.drew) hI.p (0 + i)
            rw [show w.heap.size + 1 + 1 = w.heap.size + 2 from rfl, e, Nat.zero_add, List.getElem?_toArray, u8s_get _ i (by rw [padRow_length]; omega), padBytes, ← HQ.out]
            simp [List.getD_eq_getElem?_getD, hi]
          have := HWR.out wr.drew _ hsl (HLT.out.below hI.b.drew (Nat.le_refl _))
          rw [hR]; exact this
        have HI := Lib.hid hI; have HR := Lib.hid hR; have HRS := Lib.hid hRs; have HRO := Lib.hid hRo; have HCALL := Lib.hid hcall; have HPL := Lib.hid hpl
        clear hI hR hRs hRo hcall hpl hfo hj8 hj hlt
        go_wp2_with fail
        refine wp_region_quiet_tail 4 (by kernel_rfl) (by kernel_rfl) ?_
        simp only [List.take_succ_cons, List.take_zero, List.drop_succ_cons, List.drop_zero]
        refine wpQuiet_load_all (by rfl) 81 _ (by rfl) w.heap.size (by rfl) _ Tryd.underlying81 (by rfl) C 81 (fun w' e => by rw [e]; exact HI.out.c) (by rw [HSZ.out]; exact infoSt) ?_
        simp only [Act.put, List.setIfInBounds_toArray, List.set_cons_zero, List.set_cons_succ]
        repeat (go_big_quiet_step (fail))
        refine wpQuiet_slice_arr_to (by rfl) 107 _ _ (by rfl) 72 5 Tryd.underlying107 infoB (w.heap.size + 1 + 1) 0 (q + 8) (by rfl) (by rfl) (by omega) ?_
        simp only [Act.put, List.setIfInBounds_toArray, List.set_cons_zero, List.set_cons_succ]
        refine wpQuiet_nil ?_
        go_wp2_with (first | (go_at_call 44; refine HCALL.out.mono ?_; rintro e w9 ⟨rfl, hb9⟩; have z9 := (At.drew HI.out.z).below hb9 HI.out.z.lt; have Z9 := Lib.hid z9; have HB9 := Lib.hid hb9; clear z9 hb9) | (refine wpList_store_all (by rfl) 81 _ _ (by rfl) (by rfl) (w.heap.size + 1) R (by rfl) (by rfl) (by rw [HRS.out]; exact infoSt) _ _ Z9.out (by rw [HRS.out, Zst_size]) HRO.out ?_))
        try simp only [Exit.inBlock, Exit.then]
        refine ret_row (by rfl) (w.heap.size + 1) 81 R _ (by rfl) (Z9.out.row R) Tryd.underlying81 (by rfl) (by rw [HRS.out]; exact infoSt) ?_
        have hlt9 : w.heap.size ≤ wr.heap.size := HI.out.b.size
        exact ⟨by rw [HR.out], below_row (HI.out.b.drew.trans (HB9.out.mono hlt9)) (by omega) R⟩
end Sha
end Go.Proofs.YtjadjidjfkahpaaDoor
namespace Go.Proofs.YtjadjidjfkahpaaDoor
namespace Sha
open Go.RowKit Mem

def Z32 : Array Value := (u8s (List.replicate 32 0)).toArray
theorem zero32 (w : World) : (zeroValue 24).run Tryd.prog w = .ok (.agg Z32) w := by kernel_rfl
theorem info32 : (Tryd.prog.info? 24).map (·.size) = some 32 := by kernel_rfl
structure DInv (B Bd : Nat) (l : List (BitVec 8)) (w wr : World) : Prop where
  z : At wr (B + 1) Z32 24
  d : At wr Bd (u8s l).toArray 24
  tabs : Tabs wr
  b : Below B w wr
set_option maxRecDepth 100000 in
set_option maxHeartbeats 1000000 in
theorem sum_any (s : Fed) (hs : Ok s) (n : Nat) (hn : n % 64 = s.at') (w : World) (hN : n ≤ 1152921504606846975) (hL : Tabs w) :
    Calls Tryd.prog 45 #[.agg (stRow s.H s.T n)] w fun e w' => e = .returned (.agg (u8s (digest s n)).toArray) ∧ Below w.heap.size w w' := by
  obtain ⟨C, hC⟩ : ∃ C, C = stRow s.H s.T n := ⟨_, rfl⟩
  obtain ⟨X, hX⟩ : ∃ X, X = Z32 := ⟨_, rfl⟩
  obtain ⟨Z, hZ⟩ : ∃ Z, Z = Zst := ⟨_, rfl⟩
  obtain ⟨f, hf⟩ : ∃ f, f = feeds s (padBytes n) := ⟨_, rfl⟩
  obtain ⟨E, hE⟩ : ∃ E, E = stRow f.H f.T (n + (padBytes n).length) := ⟨_, rfl⟩
  obtain ⟨FR, hFR⟩ : ∃ FR, FR = (u32s f.H).toArray := ⟨_, rfl⟩
  have hfo : Ok f := by rw [hf]; exact feeds_ok _ hs
  have hz := zeroSt
  have hx := zero32
  rw [← hX] at hx
  rw [← hZ] at hz
  have hpad := fun wx (ht : Tabs wx) => pad_any s hs n hn wx hN ht
  rw [← hf, ← hE] at hpad
  rw [← hC] at hpad ⊢
  have hsz : C.size = 73 := by rw [hC]; exact stRow_size hs.h hs.t
  have hEs : E.size = 73 := by rw [hE]; exact stRow_size hfo.h hfo.t
  have hEo : E.all (·.oneCell') = true := by rw [hE]; exact stRow_one
  have hE2 : E.extract 0 (0 + 8) = FR := by rw [hE, hFR]; exact stRow_H hfo.h
  have hZs : Z.size = 73 := by rw [hZ]; exact Zst_size
  have aC : At ((w.alloc (.cells C 81)).alloc (.cells X 24)) w.heap.size C 81 := (at_new w C _).alloc _
  have aX : At ((w.alloc (.cells C 81)).alloc (.cells X 24)) (w.heap.size + 1) X 24 := by
    have := at_new (w.alloc (.cells C 81)) X 24
    simpa using this
  have b1 : Below w.heap.size w ((w.alloc (.cells C 81)).alloc (.cells X 24)) := ((Below.refl _ _).alloc (Nat.le_refl _) _).alloc (by simp) _
  have s1 : ((w.alloc (.cells C 81)).alloc (.cells X 24)).heap.size = w.heap.size + 2 := by simp
  have hcall := hpad _ (hL.below b1 (Nat.le_refl _))
  have HC := Lib.hid hC; have HX := Lib.hid hX; have HZ := Lib.hid hZ; have HF := Lib.hid hf; have HE := Lib.hid hE; have HFR := Lib.hid hFR; have HFO := Lib.hid hfo; have HSZ := Lib.hid hsz; have HES := Lib.hid hEs; have HEO := Lib.hid hEo; have HE2 := Lib.hid hE2; have HZS := Lib.hid hZs; have AC := Lib.hid aC; have AX := Lib.hid aX; have B1 := Lib.hid b1; have S1 := Lib.hid s1; have HCALL := Lib.hid hcall; have HL := Lib.hid hL
  clear hC hX hZ hf hE hFR hfo hsz hEs hEo hE2 hZs aC aX b1 s1 hcall hL hs hn hpad
  go_enter Tryd.func45, Tryd.ntmps45
  go_wp2_with (first | (refine wpList_load_all (by rfl) 81 _ (by rfl) w.heap.size (by rfl) _ Tryd.underlying81 (by rfl) C _ AC.out (by rw [HSZ.out]; exact infoSt) ?_) | (go_at_call 61; refine HCALL.out.mono ?_; rintro e w2 ⟨rfl, hb2⟩; have HB2 := Lib.hid hb2; clear hb2) | (refine wpList_store_new (by rfl) 81 _ _ (by rfl) (by rfl) E _ _ (by rfl) (by rfl) (by rw [HES.out]; exact infoSt) (by rw [HES.out, HZS.out]) HEO.out ?_) | (refine wpList_load_is (by rfl) 79 _ (by rfl) w2.heap.size 0 8 (by rfl) _ Tryd.underlying79 (by rfl) info8 E 81 ((at_new w2 E _).alloc _) (by rw [HES.out]; decide) FR HE2.out ?_))
  have hI : DInv w.heap.size (w2.heap.size + 1) (List.replicate 32 0) w ((w2.alloc (.cells E 81)).alloc (.cells X 24)) := by
    have hb2 := HB2.out
    rw [S1.out] at hb2
    have hs2 := hb2.size
    rw [S1.out] at hs2
    have bb : Below w.heap.size w w2 := B1.out.trans (hb2.mono (by omega))
    have bb' : Below w.heap.size w ((w2.alloc (.cells E 81)).alloc (.cells X 24)) := (bb.alloc (by omega) _).alloc (by simp; omega) _
    refine ⟨?_, ?_, HL.out.below bb' (Nat.le_refl _), bb'⟩
    · rw [← HX.out]; exact ((AX.out.below hb2 (by omega)).alloc _).alloc _
    · have := at_new (w2.alloc (.cells E 81)) X 24
      have e : (w2.alloc (.cells E 81)).heap.size = w2.heap.size + 1 := by simp
      rw [e] at this
      have e2 : (u8s (List.replicate 32 0)).toArray = X := by rw [HX.out]; rfl
      rw [e2]
      exact this
  have hBp : w.heap.size + 2 ≤ w2.heap.size := by have := HB2.out.size; rw [S1.out] at this; exact this
  have HI0 := Lib.hid hI
  clear hI HB2 hz hx
  generalize (w2.alloc (.cells E 81)).alloc (.cells X 24) = w3 at *
  generalize w2.heap.size = Bp at *
  clear w2
  obtain ⟨l, hl⟩ : ∃ l, l = adds f.H IVl := ⟨_, rfl⟩
  have HLL := Lib.hid hl; clear hl
  go_loopw [5, 6, 11] (fun _ _ i wr => ∃ j : Nat, j ≤ 8 ∧ i = .int .i64 j ∧ DInv w.heap.size (Bp + 1) (dRow l j) w wr) (fun _ _ i _ => 8 - (intOf i).toNat)
  case atStart => exact ⟨0, by omega, rfl, HI0.out⟩
  case round =>
    obtain ⟨j, hj, rfl, hI⟩ := hrel
    by_cases hlt : j < 8
    · have cg : wr.cell? ⟨0, j, none⟩ = some (.int .u32 (V (IVl.getD j 0))) := hI.tabs.f.2 j hlt
      obtain ⟨y, hy⟩ : ∃ y, y = IVl.getD j 0 := ⟨_, rfl⟩
      rw [← hy] at cg
      have hjv : FR[j]? = some (.int .u32 (V (f.H.getD j 0))) := by rw [HFR.out, List.getElem?_toArray]; exact u32s_get f.H j (by rw [HFO.out.h]; exact hlt)
      obtain ⟨x, hx⟩ : ∃ x, x = f.H.getD j 0 := ⟨_, rfl⟩
      rw [← hx] at hjv
      have hd0 := hI.d
      obtain ⟨R0, hR0⟩ : ∃ R, R = (u8s (dRow l j)).toArray := ⟨_, rfl⟩
      have hR0s : R0.size = 32 := by rw [hR0]; simp [u8s, dRow_length]
      rw [← hR0] at hd0
      have i0 : 4 * j < R0.size := by omega
      have i1 : 4 * j + 1 < R0.size := by omega
      have i2 : 4 * j + 2 < R0.size := by omega
      have i3 : 4 * j + 3 < R0.size := by omega
      have D0 := Lib.hid hd0; have HR0 := Lib.hid hR0; have I0 := Lib.hid i0; have I1 := Lib.hid i1; have I2 := Lib.hid i2; have I3 := Lib.hid i3
      clear hd0 hR0 hR0s i0 i1 i2 i3
      have e0 : (V x + V y) % (4294967296 : Int) / (16777216 : Int) = ((wb (x + y) 24).toNat : Int) := by
        rw [r_add, ← wb24]; have := V_lo (x + y); have := V_hi (x + y); omega
      have e1 : (V x + V y) % (4294967296 : Int) / (65536 : Int) % (256 : Int) = ((wb (x + y) 16).toNat : Int) := by rw [r_add, ← wb16]
      have e2 : (V x + V y) % (4294967296 : Int) / (256 : Int) % (256 : Int) = ((wb (x + y) 8).toNat : Int) := by rw [r_add, ← wb8]
      have e3 : (V x + V y) % (256 : Int) = ((wb (x + y) 0).toNat : Int) := by rw [← wb0, ← r_add]; omega
      have e4 : (V x + V y) % (4294967296 : Int) % (256 : Int) = ((wb (x + y) 0).toNat : Int) := by rw [r_add, ← wb0]
      have E4 := Lib.hid e4; clear e4
      have E0 := Lib.hid e0; have E1 := Lib.hid e1; have E2 := Lib.hid e2; have E3 := Lib.hid e3
      clear e0 e1 e2 e3
      have HI := Lib.hid hI; have HYY := Lib.hid hy; have HXX := Lib.hid hx; have HJV := Lib.hid hjv
      clear hI hy hx hjv
      go_wp2_with (first | (refine wpList_index_row (by rfl) 79 _ _ (by rfl) 8 65 Tryd.underlying79 _ Tryd.underlying65 (by rfl) infoW FR j (by rfl) (by rfl) hlt _ HJV.out ?_) | (refine Mem.wpList_store_one (by rfl) 5 _ _ (by rfl) (by rfl) (Bp + 1) (4 * j) (.int .u8 ((wb (x + y) 24).toNat : Int)) (by rfl) (by exact congrArg (Value.int .u8) E0.out) (by rfl) infoB _ _ D0.out (by simpa using I0.out) ?_; intro w4 a4 o4 b4; have D4 := Lib.hid a4; have O4 := Lib.hid o4; have B4 := Lib.hid b4; clear a4 o4 b4) | (refine Mem.wpList_store_one (by rfl) 5 _ _ (by rfl) (by rfl) (Bp + 1) (4 * j + 1) (.int .u8 ((wb (x + y) 16).toNat : Int)) (by rfl) (by exact congrArg (Value.int .u8) E1.out) (by rfl) infoB _ _ D4.out (by simpa using I1.out) ?_; intro w5 a5 o5 b5; have D5 := Lib.hid a5; have O5 := Lib.hid o5; have B5 := Lib.hid b5; clear a5 o5 b5) | (refine Mem.wpList_store_one (by rfl) 5 _ _ (by rfl) (by rfl) (Bp + 1) (4 * j + 2) (.int .u8 ((wb (x + y) 8).toNat : Int)) (by rfl) (by exact congrArg (Value.int .u8) E2.out) (by rfl) infoB _ _ D5.out (by simpa using I2.out) ?_; intro w6 a6 o6 b6; have D6 := Lib.hid a6; have O6 := Lib.hid o6; have B6 := Lib.hid b6; clear a6 o6 b6) | (refine Mem.wpList_store_one (by rfl) 5 _ _ (by rfl) (by rfl) (Bp + 1) (4 * j + 3) (.int .u8 ((wb (x + y) 0).toNat : Int)) (by rfl) (by first | exact congrArg (Value.int .u8) E3.out | exact congrArg (Value.int .u8) E4.out) (by rfl) infoB _ _ D6.out (by simpa using I3.out) ?_; intro w7 a7 o7 b7; have D7 := Lib.hid a7; have O7 := Lib.hid o7; have B7 := Lib.hid b7; clear a7 o7 b7))
      go_roundw
      case rel =>
        refine ⟨j + 1, by omega, by go_num, ?_⟩
        have hI := HI.out
        have hd := D7.out
        have hz : (adds f.H IVl).getD j 0 = x + y := by
          have h1 : j < f.H.length := by rw [HFO.out.h]; exact hlt
          have h2 : j < IVl.length := hlt
          rw [HXX.out, HYY.out]
          simp only [adds, List.getD_eq_getElem?_getD, List.getElem?_zipWith, List.getElem?_eq_getElem h1, List.getElem?_eq_getElem h2, Option.getD_some]
        have e : (((R0.setIfInBounds (4 * j) (.int .u8 ((wb (x + y) 24).toNat : Int))).setIfInBounds (4 * j + 1) (.int .u8 ((wb (x + y) 16).toNat : Int))).setIfInBounds (4 * j + 2) (.int .u8 ((wb (x + y) 8).toNat : Int))).setIfInBounds (4 * j + 3) (.int .u8 ((wb (x + y) 0).toNat : Int)) = (u8s (dRow l (j + 1))).toArray := by
          rw [HR0.out, u8s_set, u8s_set, u8s_set, u8s_set, dRow, HLL.out, hz]
        rw [e] at hd
        have keep : ∀ k, k ≠ Bp + 1 → w7.heap[k]? = wr.heap[k]? := fun k hk => by rw [O7.out k hk, O6.out k hk, O5.out k hk, O4.out k hk]
        have hb := B7.out _ _ (B6.out _ _ (B5.out _ _ (B4.out _ _ hI.b (by omega)) (by omega)) (by omega)) (by omega)
        have hk0 := HL.out.k.1
        have hf0 := HL.out.f.1
        exact ⟨at_keep hI.z keep (by omega), hd, ⟨hI.tabs.k.keep keep (by omega), hI.tabs.f.keep keep (by omega)⟩, hb⟩
      case measure => simp [intOf]; omega
    · have hj8 : j = 8 := by omega
      rw [hj8] at hI
      have hge : ¬ (j : Int) < 8 := by omega
      have hd := hI.d
      obtain ⟨G, hG⟩ : ∃ G, G = (u8s (dRow l 8)).toArray := ⟨_, rfl⟩
      rw [← hG] at hd
      have hGs : G.size = 32 := by rw [hG]; simp [u8s, dRow_length]
      have hGo : G.all (·.oneCell') = true := by rw [hG]; exact u8s_one _
      have hfin : (u8s (digest s n)).toArray = G := by rw [hG, digest, ← HF.out, HLL.out]
      have HI := Lib.hid hI; have HD := Lib.hid hd; have HGS := Lib.hid hGs; have HGO := Lib.hid hGo; have HFIN := Lib.hid hfin
      clear hI hd hG hGs hGo hfin hj8 hj hlt
      go_wp2_with (first | (refine wpList_load_all (by rfl) 24 _ (by rfl) (Bp + 1) (by rfl) _ Tryd.underlying24 (by rfl) G _ HD.out (by rw [HGS.out]; exact info32) ?_) | (refine wpList_store_all (by rfl) 24 _ _ (by rfl) (by rfl) (w.heap.size + 1) G (by rfl) (by rfl) (by rw [HGS.out]; exact info32) _ _ HI.out.z (by rw [HGS.out]; simp [Z32, u8s]) HGO.out ?_))
      try simp only [Exit.inBlock, Exit.then]
      refine ret_row (by rfl) (w.heap.size + 1) 24 G _ (by rfl) (HI.out.z.row G) Tryd.underlying24 (by rfl) (by rw [HGS.out]; exact info32) ?_
      exact ⟨by rw [HFIN.out], below_row HI.out.b (by omega) G⟩
end Sha
end Go.Proofs.YtjadjidjfkahpaaDoor
namespace Go.Proofs.YtjadjidjfkahpaaDoor
namespace Sha
open Go.RowKit Mem

/-- A slice of slices of bytes that reads as ps. -/
def Sls (w : World) (v : Value) (ps : List (List (BitVec 8))) : Prop :=
  ∃ a cap, v = .slice a ps.length cap ∧ ps.length ≤ cap ∧ (ps ≠ [] → ∃ pb po, a = some ⟨pb, po, none⟩ ∧ pb < w.heap.size ∧ ∀ i, i < ps.length → ∃ vi, w.cell? ⟨pb, po + i, none⟩ = some vi ∧ Sl w vi (ps.getD i []))
structure QInv (s : Fed) (n : Nat) (B : Nat) (w wr : World) : Prop where
  c : At wr B (stRow s.H s.T n) 81
  z : At wr (B + 1) Zst 81
  b : Below B w wr
theorem flat_take (ps : List (List (BitVec 8))) (j : Nat) (h : j < ps.length) : (ps.take (j + 1)).flatten = (ps.take j).flatten ++ ps.getD j [] := by
  have e : ps.getD j [] = ps[j] := by simp [h]
  rw [List.take_succ_eq_append_getElem h, e, List.flatten_append]
  simp only [List.flatten_cons, List.flatten_nil, List.append_nil]
theorem flat_take_le (ps : List (List (BitVec 8))) (j : Nat) : (ps.take j).flatten.length ≤ ps.flatten.length := by
  have e : ps.flatten = (ps.take j).flatten ++ (ps.drop j).flatten := by rw [← List.flatten_append, List.take_append_drop]
  rw [e, List.length_append]; omega
theorem feeds_mod (s : Fed) (hs : Ok s) : ∀ (l : List (BitVec 8)) (n : Nat), n % 64 = s.at' → (n + l.length) % 64 = (feeds s l).at'
  | l, n, h => by
    induction l generalizing s n with
    | nil => simpa [feeds] using h
    | cons b l ih =>
      have hf : (n + 1) % 64 = (feed s b).at' := by
        unfold feed
        have := hs.a
        split
        · show _ = 0; omega
        · show _ = s.at' + 1; omega
      have := ih (feed s b) (feed_ok hs b) (n + 1) hf
      rw [feeds, List.foldl_cons]
      rw [feeds] at this
      rw [← this, List.length_cons]; omega
set_option maxRecDepth 100000 in
set_option maxHeartbeats 1000000 in
theorem writeAll_any (s : Fed) (hs : Ok s) (n : Nat) (hn : n % 64 = s.at') (ps : List (List (BitVec 8))) (v : Value) (w : World) (hN : n + ps.flatten.length ≤ 9223372036854775807) (hp : ps.length ≤ 9223372036854775806) (hv : Sls w v ps) (hL : Tabs w) :
    Calls Tryd.prog 58 #[.agg (stRow s.H s.T n), v] w fun e w' => e = .returned (.agg (stRow (feeds s ps.flatten).H (feeds s ps.flatten).T (n + ps.flatten.length))) ∧ Below w.heap.size w w' := by
  obtain ⟨a, cap, rfl, hcap, hcells⟩ := hv
  obtain ⟨RES, hRES⟩ : ∃ RES, RES = stRow (feeds s ps.flatten).H (feeds s ps.flatten).T (n + ps.flatten.length) := ⟨_, rfl⟩
  rw [← hRES]
  have HRES := Lib.hid hRES; clear hRES
  obtain ⟨C, hC⟩ : ∃ C, C = stRow s.H s.T n := ⟨_, rfl⟩
  obtain ⟨Z, hZ⟩ : ∃ Z, Z = Zst := ⟨_, rfl⟩
  obtain ⟨m, hm⟩ : ∃ m, m = ps.length := ⟨_, rfl⟩
  have hz := zeroSt
  rw [← hZ] at hz
  rw [← hm] at hcap hp ⊢
  rw [← hC]
  have i0 : QInv s n w.heap.size w ((w.alloc (.cells C 81)).alloc (.cells Z 81)) := by
    refine ⟨by rw [← hC]; exact (at_new w C _).alloc _, ?_, ((Below.refl _ _).alloc (Nat.le_refl _) _).alloc (by simp) _⟩
    rw [← hZ]
    have := at_new (w.alloc (.cells C 81)) Z 81
    simpa using this
  have HC := Lib.hid hC; have HZ := Lib.hid hZ; have HM := Lib.hid hm; have I0 := Lib.hid i0; have HS := Lib.hid hs; have HL := Lib.hid hL; have HN := Lib.hid hn; have HCE := Lib.hid hcells
  clear hC hZ hm i0 hs hL hn hcells
  go_enter Tryd.func58, Tryd.ntmps58
  go_wp2_with fail
  clear hz
  go_loopw [6, 9] (fun _ i wr => ∃ j : Nat, j ≤ m ∧ i = .int .i64 j ∧ QInv (feeds s (ps.take j).flatten) (n + (ps.take j).flatten.length) w.heap.size w wr) (fun _ i _ => m - (intOf i).toNat)
  case atStart => exact ⟨0, by omega, rfl, by simpa [feeds] using I0.out⟩
  case round =>
    obtain ⟨j, hj, rfl, hI⟩ := hrel
    obtain ⟨F, hF⟩ : ∃ F, F = feeds s (ps.take j).flatten := ⟨_, rfl⟩
    obtain ⟨N, hNN⟩ : ∃ N, N = n + (ps.take j).flatten.length := ⟨_, rfl⟩
    have hok := feeds_ok (ps.take j).flatten HS.out
    have hmd := feeds_mod s HS.out (ps.take j).flatten n HN.out
    rw [← hF, ← hNN] at hI hmd
    rw [← hF] at hok
    obtain ⟨R, hR⟩ : ∃ R, R = stRow F.H F.T N := ⟨_, rfl⟩
    have hc := hI.c
    rw [← hR] at hc
    have hRs : R.size = 73 := by rw [hR]; exact stRow_size hok.h hok.t
    by_cases hlt : j < m
    · obtain ⟨pb, po, ha, hpb, hpc⟩ := HCE.out (by intro e; have := HM.out; rw [e] at this; simp at this; omega)
      subst ha
      obtain ⟨vi, hvi, hsl⟩ := hpc j (by rw [← HM.out]; exact hlt)
      have hsl' := hsl.below hI.b
      have cv : wr.cell? ⟨pb, po + j, none⟩ = some vi := by rw [hI.b.cell (p := ⟨pb, po + j, none⟩) hpb]; exact hvi
      have hft := flat_take ps j (by rw [← HM.out]; exact hlt)
      have hle := flat_take_le ps (j + 1)
      rw [hft, List.length_append] at hle
      have hcall := write_any F hok N hmd (ps.getD j []) vi wr (by omega) hsl' (HL.out.below hI.b (Nat.le_refl _))
      rw [← hR] at hcall
      obtain ⟨E, hE⟩ : ∃ E, E = stRow (feeds F (ps.getD j [])).H (feeds F (ps.getD j [])).T (N + (ps.getD j []).length) := ⟨_, rfl⟩
      rw [← hE] at hcall
      have hok2 := feeds_ok (ps.getD j []) hok
      have hEs : E.size = 73 := by rw [hE]; exact stRow_size hok2.h hok2.t
      have hEo : E.all (·.oneCell') = true := by rw [hE]; exact stRow_one
      have HF := Lib.hid hF; have HNN := Lib.hid hNN; have HR := Lib.hid hR; have HRC := Lib.hid hc; have HRS := Lib.hid hRs; have HCALL := Lib.hid hcall; have HE := Lib.hid hE; have HES := Lib.hid hEs; have HEO := Lib.hid hEo; have HI := Lib.hid hI; have HFT := Lib.hid hft
      clear hF hNN hR hc hRs hcall hE hEs hEo hI hft hok hok2 hmd hpc hsl hsl' hvi hle
      go_wp2_with (first | (refine wpList_load_all (by rfl) 81 _ (by rfl) w.heap.size (by rfl) _ Tryd.underlying81 (by rfl) R _ HRC.out (by rw [HRS.out]; exact infoSt) ?_) | (go_at_call 44; refine HCALL.out.mono ?_; rintro e w5 ⟨rfl, hb5⟩; have c5 := HRC.out.below hb5 HRC.out.lt; have C5 := Lib.hid c5; have HB5 := Lib.hid hb5; clear c5 hb5) | (refine wpList_store_all (by rfl) 81 _ _ (by rfl) (by rfl) w.heap.size E (by rfl) (by rfl) (by rw [HES.out]; exact infoSt) R _ C5.out (by rw [HES.out, HRS.out]) HEO.out ?_))
      go_roundw
      case rel =>
        refine ⟨j + 1, by omega, by go_num, ?_⟩
        rw [HFT.out, feeds_append, ← HF.out, List.length_append, ← Nat.add_assoc, ← HNN.out]
        have z5 := HI.out.z.below HB5.out HI.out.z.lt
        have b5 := HI.out.b.trans (HB5.out.mono HI.out.b.size)
        refine ⟨by rw [← HE.out]; exact C5.out.row E, z5.row_other E (by omega), below_row b5 (Nat.le_refl _) E⟩
      case measure => simp [intOf]; omega
    · have hjm : j = m := by omega
      have hfl : ps.take j = ps := List.take_of_length_le (by rw [hjm, HM.out]; exact Nat.le_refl _)
      rw [hfl] at hF hNN
      have hge : ¬ (j : Int) < (m : Int) := by omega
      have hRo : R.all (·.oneCell') = true := by rw [hR]; exact stRow_one
      have hfin : RES = R := by rw [HRES.out, hR, hF, hNN]
      have HRC := Lib.hid hc; have HRS := Lib.hid hRs; have HRO := Lib.hid hRo; have HFIN := Lib.hid hfin; have HI := Lib.hid hI
      clear hc hRs hRo hfin hI hF hNN hR hok hmd hjm hfl hj hlt
      go_wp2_with (first | (refine wpList_load_all (by rfl) 81 _ (by rfl) w.heap.size (by rfl) _ Tryd.underlying81 (by rfl) R _ HRC.out (by rw [HRS.out]; exact infoSt) ?_) | (refine wpList_store_all (by rfl) 81 _ _ (by rfl) (by rfl) (w.heap.size + 1) R (by rfl) (by rfl) (by rw [HRS.out]; exact infoSt) _ _ HI.out.z (by rw [HRS.out, Zst_size]) HRO.out ?_))
      try simp only [Exit.inBlock, Exit.then]
      refine ret_row (by rfl) (w.heap.size + 1) 81 R _ (by rfl) (HI.out.z.row R) Tryd.underlying81 (by rfl) (by rw [HRS.out]; exact infoSt) ?_
      exact ⟨by rw [HFIN.out], below_row HI.out.b (by omega) R⟩
end Sha
end Go.Proofs.YtjadjidjfkahpaaDoor
namespace Go.Proofs.YtjadjidjfkahpaaDoor
namespace Sha
open Go.RowKit Mem

def fed0 : Fed := ⟨List.replicate 8 0, zs64, 0⟩
theorem fed0_ok : Ok fed0 := ⟨by simp [fed0], by simp [fed0, zs64], by simp [fed0]⟩
/-- The digest of bytes. -/
def digestOf (l : List (BitVec 8)) : List (BitVec 8) := digest (feeds fed0 l) l.length
theorem digestOf_length (l : List (BitVec 8)) : (digestOf l).length = 32 := dRow_length _ _
theorem Zst_one : Zst.all (·.oneCell') = true := stRow_one
set_option maxRecDepth 10000 in
set_option maxHeartbeats 400000 in
theorem new_any (w : World) :
    Calls Tryd.prog 43 #[] w fun e w' => e = .returned (.agg (stRow fed0.H fed0.T 0)) ∧ Below w.heap.size w w' := by
  obtain ⟨Z, hZ⟩ : ∃ Z, Z = Zst := ⟨_, rfl⟩
  have hz := zeroSt
  rw [← hZ] at hz
  have hs : Z.size = 73 := by rw [hZ]; exact Zst_size
  have ho : Z.all (·.oneCell') = true := by rw [hZ]; exact Zst_one
  have HZ := Lib.hid hZ; have HS := Lib.hid hs; have HO := Lib.hid ho
  clear hZ hs ho
  go_enter Tryd.func43, Tryd.ntmps43
  go_wp2_with (refine wpList_store_new (by rfl) 81 _ _ (by rfl) (by rfl) Z _ _ (by rfl) (by rfl) (by rw [HS.out]; exact infoSt) (by rfl) HO.out ?_)
  try simp only [Exit.inBlock, Exit.then]
  refine ret_row (by rfl) w.heap.size 81 Z _ (by rfl) (at_new w Z _) Tryd.underlying81 (by rfl) (by rw [HS.out]; exact infoSt) ?_
  exact ⟨by rw [HZ.out]; rfl, (Below.refl _ _).alloc (Nat.le_refl _) _⟩
theorem Sls.below {w wr : World} {v : Value} {ps : List (List (BitVec 8))} (h : Sls w v ps) (hb : Below w.heap.size w wr) : Sls wr v ps := by
  obtain ⟨a, cap, e, hc, hr⟩ := h
  refine ⟨a, cap, e, hc, fun hne => ?_⟩
  obtain ⟨pb, po, ea, hlt, hcell⟩ := hr hne
  refine ⟨pb, po, ea, Nat.lt_of_lt_of_le hlt hb.size, fun i hi => ?_⟩
  obtain ⟨vi, h1, h2⟩ := hcell i hi
  exact ⟨vi, by rw [hb.cell (p := ⟨pb, po + i, none⟩) hlt]; exact h1, h2.below hb⟩
set_option maxRecDepth 10000 in
set_option maxHeartbeats 400000 in
theorem sumAll_any (ps : List (List (BitVec 8))) (v : Value) (w : World) (hN : ps.flatten.length ≤ 1152921504606846975) (hp : ps.length ≤ 9223372036854775806) (hv : Sls w v ps) (hL : Tabs w) :
    Calls Tryd.prog 42 #[v] w fun e w' => e = .returned (.agg (u8s (digestOf ps.flatten)).toArray) ∧ Below w.heap.size w w' := by
  obtain ⟨X, hX⟩ : ∃ X, X = Z32 := ⟨_, rfl⟩
  have hx := zero32
  rw [← hX] at hx
  obtain ⟨S0, hS0⟩ : ∃ S0, S0 = stRow fed0.H fed0.T 0 := ⟨_, rfl⟩
  obtain ⟨S1, hS1⟩ : ∃ S1, S1 = stRow (feeds fed0 ps.flatten).H (feeds fed0 ps.flatten).T (0 + ps.flatten.length) := ⟨_, rfl⟩
  obtain ⟨G, hG⟩ : ∃ G, G = (u8s (digestOf ps.flatten)).toArray := ⟨_, rfl⟩
  have hGs : G.size = 32 := by rw [hG]; simp [u8s, digestOf_length]
  have hGo : G.all (·.oneCell') = true := by rw [hG]; exact u8s_one _
  have h1 := fun w => new_any w
  have h2 := fun wx (hvx : Sls wx v ps) (ht : Tabs wx) => writeAll_any fed0 fed0_ok 0 rfl ps v wx (by omega) hp hvx ht
  have h3 := fun wx (ht : Tabs wx) => sum_any (feeds fed0 ps.flatten) (feeds_ok _ fed0_ok) (0 + ps.flatten.length) (feeds_mod fed0 fed0_ok ps.flatten 0 rfl) wx (by omega) ht
  rw [← hS0] at h1 h2
  rw [← hS1] at h2 h3
  have e3 : digest (feeds fed0 ps.flatten) (0 + ps.flatten.length) = digestOf ps.flatten := by rw [Nat.zero_add]; rfl
  rw [e3, ← hG] at h3
  rw [← hG]
  have b0 : Below w.heap.size w (w.alloc (.cells X 24)) := (Below.refl _ _).alloc (Nat.le_refl _) _
  have a0 : At (w.alloc (.cells X 24)) w.heap.size X 24 := at_new w X _
  have HX := Lib.hid hX; have HGS := Lib.hid hGs; have HGO := Lib.hid hGo; have H1 := Lib.hid h1; have H2 := Lib.hid h2; have H3 := Lib.hid h3; have B0 := Lib.hid b0; have A0 := Lib.hid a0; have HV := Lib.hid hv; have HL := Lib.hid hL
  clear hX hGs hGo h1 h2 h3 b0 a0 hv hL e3 hS0 hS1 hG
  go_enter Tryd.func42, Tryd.ntmps42
  go_wp2_with (first | (go_at_call 43; refine (H1.out _).mono ?_; rintro e w2 ⟨rfl, hb2⟩; have bb2 := B0.out.trans (hb2.mono B0.out.size); have aa2 := A0.out.below hb2 A0.out.lt; have B2 := Lib.hid bb2; have A2 := Lib.hid aa2; clear hb2 bb2 aa2) | (go_at_call 58; refine (H2.out _ (HV.out.below B2.out) (HL.out.below B2.out (Nat.le_refl _))).mono ?_; rintro e w3 ⟨rfl, hb3⟩; have bb3 := B2.out.trans (hb3.mono B2.out.size); have aa3 := A2.out.below hb3 A2.out.lt; have B3 := Lib.hid bb3; have A3 := Lib.hid aa3; clear hb3 bb3 aa3) | (go_at_call 45; refine (H3.out _ (HL.out.below B3.out (Nat.le_refl _))).mono ?_; rintro e w4 ⟨rfl, hb4⟩; have bb4 := B3.out.trans (hb4.mono B3.out.size); have aa4 := A3.out.below hb4 A3.out.lt; have B4 := Lib.hid bb4; have A4 := Lib.hid aa4; clear hb4 bb4 aa4) | (refine wpList_store_all (by rfl) 24 _ _ (by rfl) (by rfl) w.heap.size G (by rfl) (by rfl) (by rw [HGS.out]; exact info32) X _ A4.out (by rw [HGS.out, HX.out]; simp [Z32, u8s]) HGO.out ?_))
  try simp only [Exit.inBlock, Exit.then]
  refine ret_row (by rfl) w.heap.size 24 G _ (by rfl) (A4.out.row G) Tryd.underlying24 (by rfl) (by rw [HGS.out]; exact info32) ?_
  exact ⟨rfl, below_row B4.out (Nat.le_refl _) G⟩
theorem abc0 : (digestOf [97, 98, 99]).getD 0 0 = 186 := by decide +kernel
theorem abc1 : (digestOf [97, 98, 99]).getD 1 0 = 120 := by decide +kernel
theorem abc31 : (digestOf [97, 98, 99]).getD 31 0 = 173 := by decide +kernel
end Sha
end Go.Proofs.YtjadjidjfkahpaaDoor
namespace Go.Proofs.YtjadjidjfkahpaaDoor
namespace Sha
open Go.RowKit Mem
/-- A literal of one slice, of two. -/
theorem sls_lit1 {w : World} {v : Value} {l : List (BitVec 8)} (h : Sl w v l) : Sls (w.alloc (.cells #[v] 22)) (.slice (some ⟨w.heap.size, 0, none⟩) 1 1) [l] := by
  have hn := at_new w #[v] 22
  refine ⟨_, _, rfl, Nat.le_refl _, fun _ => ⟨_, _, rfl, hn.lt, fun i hi => ?_⟩⟩
  match i, hi with
  | 0, _ => exact ⟨v, by rw [hn.cell]; rfl, h.below ((Below.refl _ _).alloc (Nat.le_refl _) _)⟩
theorem sls_lit2 {w : World} {v u : Value} {l m : List (BitVec 8)} (h : Sl w v l) (k : Sl w u m) : Sls (w.alloc (.cells #[v, u] 22)) (.slice (some ⟨w.heap.size, 0, none⟩) 2 2) [l, m] := by
  have hn := at_new w #[v, u] 22
  refine ⟨_, _, rfl, Nat.le_refl _, fun _ => ⟨_, _, rfl, hn.lt, fun i hi => ?_⟩⟩
  match i, hi with
  | 0, _ => exact ⟨v, by rw [hn.cell]; rfl, h.below ((Below.refl _ _).alloc (Nat.le_refl _) _)⟩
  | 1, _ => exact ⟨u, by rw [hn.cell]; rfl, k.below ((Below.refl _ _).alloc (Nat.le_refl _) _)⟩
end Sha
end Go.Proofs.YtjadjidjfkahpaaDoor
namespace Go.Proofs.YtjadjidjfkahpaaDoor
namespace Sha
open Go.RowKit Mem

/-- The state of bytes, as a row. -/
def stOf (l : List (BitVec 8)) : Array Value := stRow (feeds fed0 l).H (feeds fed0 l).T l.length
theorem stOf_size (l : List (BitVec 8)) : (stOf l).size = 73 := stRow_size (feeds_ok l fed0_ok).h (feeds_ok l fed0_ok).t
theorem stOf_one (l : List (BitVec 8)) : (stOf l).all (·.oneCell') = true := stRow_one
theorem stOf_nil : stOf [] = Zst := rfl
def dgOf (l : List (BitVec 8)) : Array Value := (u8s (digestOf l)).toArray
theorem dgOf_size (l : List (BitVec 8)) : (dgOf l).size = 32 := by simp [dgOf, u8s, digestOf_length]
theorem dgOf_one (l : List (BitVec 8)) : (dgOf l).all (·.oneCell') = true := u8s_one _
theorem stWrite (l m : List (BitVec 8)) (v : Value) (w : World) (hN : l.length + m.length ≤ 9223372036854775807) (hv : Sl w v m) (hL : Tabs w) :
    Calls Tryd.prog 44 #[.agg (stOf l), v] w fun e w' => e = .returned (.agg (stOf (l ++ m))) ∧ Below w.heap.size w w' := by
  have h := write_any (feeds fed0 l) (feeds_ok l fed0_ok) l.length (by have := feeds_mod fed0 fed0_ok l 0 rfl; rw [Nat.zero_add] at this; exact this) m v w hN hv hL
  rw [← feeds_append, ← List.length_append] at h
  exact h
theorem stSum (l : List (BitVec 8)) (w : World) (hN : l.length ≤ 1152921504606846975) (hL : Tabs w) :
    Calls Tryd.prog 45 #[.agg (stOf l)] w fun e w' => e = .returned (.agg (dgOf l)) ∧ Below w.heap.size w w' :=
  sum_any (feeds fed0 l) (feeds_ok l fed0_ok) l.length (by have := feeds_mod fed0 fed0_ok l 0 rfl; rw [Nat.zero_add] at this; exact this) w hN hL
theorem eql_dg (l : List (BitVec 8)) (x y : Operand) (w : World) : (do eqGuard .eql 24 x y (.agg (dgOf l)) (.agg (dgOf l)); binOp .eql 24 (.agg (dgOf l)) (.agg (dgOf l)) : Sem Value).run Tryd.prog w = .ok (.bool true) w := by
  have := eql_bytes (P := Tryd.prog) w 24 5 32 x y Tryd.underlying24 Tryd.underlying5 infoB (by kernel_rfl) _ _ (digestOf_length l) (digestOf_length l)
  unfold dgOf
  rw [this]; simp
theorem run_allocSt (w : World) : (Instr.alloc 81 true (.tuple #[])).run Tryd.prog w = .ok (.pointer (some ⟨w.heap.size, 0, none⟩)) (w.alloc (.cells Zst 81)) := by kernel_rfl
theorem run_allocDg (w : World) : (Instr.alloc 24 true (.tuple #[])).run Tryd.prog w = .ok (.pointer (some ⟨w.heap.size, 0, none⟩)) (w.alloc (.cells Z32 24)) := by kernel_rfl
end Sha
end Go.Proofs.YtjadjidjfkahpaaDoor
