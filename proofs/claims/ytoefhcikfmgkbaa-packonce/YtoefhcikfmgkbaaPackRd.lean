/- The document's reader: its walks. -/
import Derived.Test.YtoefhcikfmgkbaaPackRef2
namespace Go.Proofs.Ytoefhcikfmgkbaa
namespace Sha
open Go.RowKit Mem
/-- A slice of bytes lies in no block whose cells are no bytes. -/
theorem Sl.but_at {w w' : World} {v : Value} {l : List (BitVec 8)} {br : Nat} {C : Array Value} {t : TypeId} (h : Sl w v l) (hC : At w br C t) (hno : ∀ (k : Nat) (x : Int), C[k]? ≠ some (.int .u8 x)) (hb : But br w w') : Sl w' v l := by
  obtain ⟨a, cap, rfl, hc, hr⟩ := h
  refine ⟨a, cap, rfl, hc, fun hne => ?_⟩
  obtain ⟨bb, oo, rfl, hlt, hcell⟩ := hr hne
  have h0 : 0 < l.length := List.length_pos_iff.2 hne
  have hbn : bb ≠ br := by
    rintro rfl
    have h1 := hcell 0 h0
    rw [hC.cell] at h1
    exact hno _ _ h1
  refine ⟨bb, oo, rfl, Nat.lt_of_lt_of_le hlt hb.size, fun i hi => ?_⟩
  rw [World.cell?_of_block (w := w) (w' := w') (a := ⟨bb, oo + i, none⟩) (hb.block bb hlt hbn)]
  exact hcell i hi
/-- A reader's box: what is left, and its error. -/
def rdRow (v : Value) (e : Nat) : Array Value := #[v, .int .i64 (e : Int)]
theorem rdRow_no (a : Option Addr) (n cap e : Nat) (k : Nat) (x : Int) : (rdRow (.slice a n cap) e)[k]? ≠ some (.int .u8 x) := by
  unfold rdRow
  match k with
  | 0 => simp
  | 1 => simp
  | k + 2 => simp
structure RRd (w : World) (br : Nat) (b : List (BitVec 8)) (e : Nat) : Prop where
  h : ∃ a cap, At w br (rdRow (.slice a b.length cap) e) 41 ∧ Sl w (.slice a b.length cap) b
theorem RRd.below {w w' : World} {br : Nat} {b : List (BitVec 8)} {e : Nat} (h : RRd w br b e) (hb : Below w.heap.size w w') : RRd w' br b e := by
  obtain ⟨a, cap, h1, h2⟩ := h.h
  exact ⟨a, cap, h1.below hb h1.lt, h2.below hb⟩
theorem RRd.but {w w' : World} {br bx : Nat} {b : List (BitVec 8)} {e : Nat} {C : Array Value} {t : TypeId} (h : RRd w br b e) (hC : At w bx C t) (hno : ∀ (k : Nat) (x : Int), C[k]? ≠ some (.int .u8 x)) (hne : br ≠ bx) (hb : But bx w w') : RRd w' br b e := by
  obtain ⟨a, cap, h1, h2⟩ := h.h
  exact ⟨a, cap, h1.but hb hne, h2.but_at hC hno hb⟩
/-- How a reader's call ends: behind it only the reader's box is another one. -/
structure Rd5 (w : World) (br : Nat) (b : List (BitVec 8)) (e : Nat) (w' : World) : Prop where
  r : RRd w' br b e
  o : But br w w'
  k : ∀ B x, Below B x w → B ≤ br → Below B x w'
theorem rd5_err {w : World} {br : Nat} {b : List (BitVec 8)} {e : Nat} (h : RRd w br b e) (e' : Nat) : Rd5 w br b e' (w.setCell ⟨br, 1, none⟩ (.int .i64 (e' : Int))) := by
  obtain ⟨a, cap, h1, h2⟩ := h.h
  have hb : But br w (w.setCell ⟨br, 1, none⟩ (.int .i64 (e' : Int))) := (But.refl br w).row (by simp) (fun k hk => heap_setCell_other w ⟨br, 1, none⟩ k _ hk)
  exact ⟨⟨a, cap, h1.set 1 _, h2.but_at h1 (rdRow_no _ _ _ _) hb⟩, hb, fun B x hB hle => hB.setCell hle _⟩
theorem rd5_left {w : World} {br : Nat} {b b' : List (BitVec 8)} {e : Nat} (h : RRd w br b e) (a' : Option Addr) (n' cap' : Nat) (hn : n' = b'.length) (hs : Sl w (.slice a' n' cap') b') : Rd5 w br b' e (w.setCell ⟨br, 0, none⟩ (.slice a' n' cap')) := by
  subst hn
  obtain ⟨a, cap, h1, h2⟩ := h.h
  have hb : But br w (w.setCell ⟨br, 0, none⟩ (.slice a' b'.length cap')) := (But.refl br w).row (by simp) (fun k hk => heap_setCell_other w ⟨br, 0, none⟩ k _ hk)
  exact ⟨⟨a', cap', h1.set 0 _, hs.but_at h1 (rdRow_no _ _ _ _) hb⟩, hb, fun B x hB hle => hB.setCell hle _⟩
theorem rd5_same {w : World} {br : Nat} {b : List (BitVec 8)} {e : Nat} (h : RRd w br b e) : Rd5 w br b e w := ⟨h, But.refl _ _, fun _ _ h _ => h⟩
def RdEnd (w : World) (br : Nat) (R : Rd3) (e : Ending) (w' : World) : Prop := ∃ a cap, e = .returned (.slice a R.x.length cap) ∧ Sl w' (.slice a R.x.length cap) R.x ∧ Rd5 w br R.b R.e w'
set_option maxRecDepth 100000 in
set_option maxHeartbeats 1000000 in
theorem rbytes_any (b : List (BitVec 8)) (e : Nat) (z : Int) (br : Nat) (w : World) (hr : RRd w br b e) (_hb : b.length ≤ 9223372036854775807) (he : e ≤ 100) :
    Calls Try.prog 23 #[.pointer (some ⟨br, 0, none⟩), .int .i64 z] w (RdEnd w br (rdTake b e z.toNat)) := by
  obtain ⟨a, cap, hat, hsl⟩ := hr.h
  obtain ⟨k, hk⟩ : ∃ k, k = z.toNat := ⟨_, rfl⟩
  have hmax : max z 0 = (k : Int) := by omega
  obtain ⟨m, hm⟩ : ∃ m, m = b.length := ⟨_, rfl⟩
  rw [← hk]
  rw [← hm] at hat hsl _hb
  have c0 : w.cell? ⟨br, 0, none⟩ = some (.slice a m cap) := by rw [hat.cell]; rfl
  have c1 : w.cell? ⟨br, 1, none⟩ = some (.int .i64 (e : Int)) := by rw [hat.cell]; rfl
  have f0 : w.frozen? ⟨br, 0, none⟩ = false := hat.free 0
  have f1 : w.frozen? ⟨br, 1, none⟩ = false := hat.free 1
  have HR := Lib.hid hr; have HA := Lib.hid hat; have HS := Lib.hid hsl; have HM := Lib.hid hm
  clear hr hat hsl hm hk
  by_cases he0 : e ≠ 0
  · have hrd : rdTake b e k = ⟨[], b, e⟩ := by unfold rdTake; rw [if_pos he0]
    have g1 : ¬ (e : Int) = 0 := by omega
    have RD := Lib.hid hrd
    clear hrd
    go_enter Try.func23, Try.ntmps23
    go_wp2
    go_ret
    rw [RD.out]
    exact ⟨none, 0, rfl, sl_none w, rd5_same HR.out⟩
  · have he1 : e = 0 := by omega
    subst he1
    by_cases hlt : m < k
    · have hrd : rdTake b 0 k = ⟨[], b, 4⟩ := by unfold rdTake; rw [if_neg (by simp), if_pos (by rw [← HM.out]; exact hlt)]
      have g1 : (m : Int) < (k : Int) := by omega
      have RD := Lib.hid hrd
      clear hrd
      go_enter Try.func23, Try.ntmps23
      go_wp2
      go_ret
      rw [RD.out]
      exact ⟨none, 0, rfl, sl_none _, rd5_err HR.out 4⟩
    · have hkm : k ≤ m := by omega
      have hrd : rdTake b 0 k = ⟨b.take k, b.drop k, 0⟩ := by unfold rdTake; rw [if_neg (by simp), if_neg (by rw [← HM.out]; exact hlt)]
      have g1 : ¬ (m : Int) < (k : Int) := by omega
      have RD := Lib.hid hrd; have KM := Lib.hid hkm
      clear hrd
      go_enter Try.func23, Try.ntmps23
      go_wp2_with (first
        | (refine wpList_piece_to (by rfl) 22 _ _ (by rfl) Try.underlying22 a m cap k b HM.out.symm (by rfl) HS.out (by rfl) KM.out ?_; intro hp1; have P1 := Lib.hid hp1; clear hp1)
        | (refine wpList_piece_from (by rfl) 22 _ _ (by rfl) Try.underlying22 a m cap k b HM.out.symm (by rfl) HS.out (by rfl) KM.out ?_; intro hp2; have P2 := Lib.hid hp2; clear hp2))
      go_ret
      rw [RD.out]
      have hl1 : (b.take k).length = k := by rw [List.length_take, ← HM.out]; have := KM.out; omega
      have h5 := rd5_left HR.out (pieceA a cap k) (m - k) (cap - k) (by rw [List.length_drop, ← HM.out]) P2.out
      exact ⟨pieceA a cap 0, cap, by rw [hl1]; rfl, by rw [hl1]; exact P1.out.but_at HA.out (rdRow_no _ _ _ _) h5.o, h5⟩
theorem rdTake_small (b : List (BitVec 8)) (e n : Nat) : (rdTake b e n).x.length ≤ n ∧ (rdTake b e n).x.length ≤ b.length ∧ (rdTake b e n).b.length ≤ b.length ∧ ((rdTake b e n).e = e ∨ (rdTake b e n).e = 4) := by
  unfold rdTake
  split
  · simp
  · split
    · simp
    · simp; omega
theorem rdTake_e (b : List (BitVec 8)) (e n : Nat) (he : e ≤ 100) : (rdTake b e n).e ≤ 100 := by
  rcases (rdTake_small b e n).2.2.2 with h | h <;> omega
theorem Rd5.trans {w w1 w2 : World} {br : Nat} {b1 b2 : List (BitVec 8)} {e1 e2 : Nat} (h : Rd5 w br b1 e1 w1) (k : Rd5 w1 br b2 e2 w2) : Rd5 w br b2 e2 w2 :=
  ⟨k.r, But.same h.o k.o, fun B x hB hle => k.k B x (h.k B x hB hle) hle⟩
set_option maxRecDepth 100000 in
set_option maxHeartbeats 1000000 in
theorem rnumget_any (b : List (BitVec 8)) (e : Nat) (size : Int) (most : Nat) (br : Nat) (w : World) (hr : RRd w br b e) (hb : b.length ≤ 9223372036854775807) (he : e ≤ 100) (_hm : most < 18446744073709551616) :
    Calls Try.prog 19 #[.pointer (some ⟨br, 0, none⟩), .int .i64 size, .int .u64 (most : Int)] w fun o w' => o = .returned (.int .u64 (((rdNum b e (cutN size 1 8) most).1 : Nat) : Int)) ∧ Rd5 w br (rdNum b e (cutN size 1 8) most).2.1 (rdNum b e (cutN size 1 8) most).2.2 w' := by
  have hcu := fun wx => rcut_any size 1 8 wx (by decide)
  have c8 := cutN_hi size 1 8
  obtain ⟨K, hK⟩ : ∃ K, K = cutN size 1 8 := ⟨_, rfl⟩
  rw [← hK] at hcu c8 ⊢
  have hby := rbytes_any b e (K : Int) br w hr hb he
  rw [Int.toNat_natCast] at hby
  have hsm := rdTake_small b e K
  have hte := rdTake_e b e K he
  have herr := fun h => (rdTake_err b e K h).1
  have hnum : rdNum b e K most = if (rdTake b e K).e ≠ 0 then (0, (rdTake b e K).b, (rdTake b e K).e) else if most < leN (rdTake b e K).x then (0, (rdTake b e K).b, 3) else (leN (rdTake b e K).x, (rdTake b e K).b, 0) := rfl
  obtain ⟨R, hR⟩ : ∃ R, R = rdTake b e K := ⟨_, rfl⟩
  rw [← hR] at hby hsm hte herr hnum
  have CU := Lib.hid hcu; have BY := Lib.hid hby; have SMA := Lib.hid hsm; have TE := Lib.hid hte; have ER := Lib.hid herr; have NU := Lib.hid hnum
  clear hcu hby hsm hte herr hnum hR hK hr
  go_enter Try.func19, Try.ntmps19
  go_wp2_with fail
  refine (CU.out _).mono ?_
  rintro o w' ⟨rfl, rfl⟩
  go_wp2_with fail
  refine BY.out.mono ?_
  rintro o w2 ⟨a, cap, rfl, hs2, h5⟩
  obtain ⟨m, hm⟩ : ∃ m, m = R.x.length := ⟨_, rfl⟩
  rw [← hm] at hs2 ⊢
  have m8 : m ≤ 8 := by have := SMA.out.1; omega
  obtain ⟨N, hN⟩ : ∃ N, N = leN R.x := ⟨_, rfl⟩
  have hN64 : N < 18446744073709551616 := by rw [hN]; exact leN_64 _ (by omega)
  obtain ⟨a1, cap1, hat, hsl1⟩ := h5.r.h
  have c1 : w2.cell? ⟨br, 1, none⟩ = some (.int .i64 (R.e : Int)) := by rw [hat.cell]; rfl
  have f1 : w2.frozen? ⟨br, 1, none⟩ = false := hat.free 1
  have S2 := Lib.hid hs2; have H5 := Lib.hid h5; have HM := Lib.hid hm; have HN := Lib.hid hN; have N64 := Lib.hid hN64
  clear hs2 h5 hm hat hsl1 hN hN64 BY CU
  go_wp2_with fail
  go_loop [8, 9] (fun vn i => ∃ j : Nat, j ≤ m ∧ i = .int .i64 ((j : Int) - 1) ∧ vn = .int .u64 ((leN (R.x.drop j) : Nat) : Int)) (fun _ i => (intOf i + 1).toNat)
  case atStart => exact ⟨m, Nat.le_refl _, rfl, by rw [HM.out, List.drop_length]; rfl⟩
  case round =>
    obtain ⟨j, hj, rfl, rfl⟩ := hrel
    by_cases hj0 : 0 < j
    · obtain ⟨i, hi⟩ : ∃ i, j = i + 1 := ⟨j - 1, by omega⟩
      subst hi
      obtain ⟨b1, o1, rfl, cx⟩ := sl_at (i := i) (by have h := S2.out; rw [HM.out] at h; exact h) (by rw [← HM.out]; omega)
      have hld := leN_drop R.x i (by rw [← HM.out]; omega)
      have h64 := leN_64 (R.x.drop i) (by rw [List.length_drop]; have := HM.out; omega)
      obtain ⟨x, hx⟩ : ∃ x, x = R.x.getD i 0 := ⟨_, rfl⟩
      rw [← hx] at cx hld
      obtain ⟨q, hq⟩ : ∃ q, q = leN (R.x.drop (i + 1)) := ⟨_, rfl⟩
      rw [← hq] at hld ⊢
      have hge : (0 : Int) ≤ ((i + 1 : Nat) : Int) - 1 := by omega
      have he1 : ((i + 1 : Nat) : Int) - 1 = (i : Int) := by omega
      rw [he1] at hge ⊢
      have him : (i : Int) < (m : Int) := by omega
      have b0 := B8_lo x; have bh := B8_hi x
      have q0 : (0 : Int) ≤ (q : Int) := by omega
      have HQ : Hid (256 * q + x.toNat = leN (R.x.drop i)) := by show 256 * q + x.toNat = leN (R.x.drop i); omega
      have H64 := Lib.hid h64
      clear hld h64 hx hq he1
      have hwr : IntKind.u64.wrap (IntKind.u64.wrap (256 * (q : Int)) + B8 x) = ((leN (R.x.drop i) : Nat) : Int) := by
        have h1 := H64.out; have h2 := HQ.out; have h3 := x.isLt
        rw [show (256 : Int) * (q : Int) = ((256 * q : Nat) : Int) by omega, Mem.u64_in _ (by omega), show ((256 * q : Nat) : Int) + B8 x = ((256 * q + x.toNat : Nat) : Int) by unfold B8; omega, Mem.u64_in _ (by omega), HQ.out]
      have WR := Lib.hid hwr
      clear hwr
      go_wp2
      go_round
      case rel => exact ⟨i, by omega, by first | rfl | go_num, by rw [WR.out]⟩
      case measure => simp [intOf]
    · have hz : j = 0 := by omega
      subst hz
      rw [List.drop_zero, ← HN.out, show ((0 : Nat) : Int) - 1 = -1 from rfl]
      have hn0 : (0 : Int) ≤ (N : Int) := by omega
      by_cases hre : R.e = 0
      · rw [hre, Int.natCast_zero] at c1
        by_cases hmo : most < N
        · have hnu : rdNum b e K most = (0, R.b, 3) := by rw [NU.out, if_neg (by simpa using hre), if_pos (by rw [← HN.out]; exact hmo)]
          have g1 : (N : Int) > (most : Int) := by omega
          have NN := Lib.hid hnu; have HRE := Lib.hid hre
          clear hnu hre hmo
          go_wp2
          go_ret
          rw [NN.out]
          exact ⟨rfl, H5.out.trans (rd5_err H5.out.r 3)⟩
        · have hnu : rdNum b e K most = (N, R.b, 0) := by rw [NU.out, if_neg (by simpa using hre), if_neg (by rw [← HN.out]; exact hmo), ← HN.out]
          have g1 : ¬ (N : Int) > (most : Int) := by omega
          have NN := Lib.hid hnu; have HRE := Lib.hid hre
          clear hnu hre hmo
          go_wp2
          go_ret
          rw [NN.out]
          have h5 := H5.out
          rw [HRE.out] at h5
          exact ⟨rfl, h5⟩
      · have hnu : rdNum b e K most = (0, R.b, R.e) := by rw [NU.out, if_pos hre]
        have g1 : ¬ (R.e : Int) = 0 := by omega
        have NN := Lib.hid hnu
        clear hnu hre
        go_wp2
        go_ret
        rw [NN.out]
        exact ⟨rfl, H5.out⟩
set_option maxRecDepth 100000 in
set_option maxHeartbeats 400000 in
theorem rleft_any (b : List (BitVec 8)) (e : Nat) (br : Nat) (w : World) (hr : RRd w br b e) (_hb : b.length ≤ 9223372036854775807) :
    Calls Try.prog 28 #[.pointer (some ⟨br, 0, none⟩)] w fun o w' => o = .returned (.int .i64 ((rdLeft b e : Nat) : Int)) ∧ w = w' := by
  obtain ⟨a, cap, hat, _⟩ := hr.h
  obtain ⟨m, hm⟩ : ∃ m, m = b.length := ⟨_, rfl⟩
  rw [← hm] at hat _hb
  have c0 : w.cell? ⟨br, 0, none⟩ = some (.slice a m cap) := by rw [hat.cell]; rfl
  have c1 : w.cell? ⟨br, 1, none⟩ = some (.int .i64 (e : Int)) := by rw [hat.cell]; rfl
  by_cases he : e = 0
  · have h1 : rdLeft b e = m := by rw [rdLeft, if_neg (by simpa using he), hm]
    rw [he, Int.natCast_zero] at c1
    rw [h1]
    clear hr hat hm he h1
    go_enter Try.func28, Try.ntmps28
    go_wp2
    go_ret
    exact ⟨rfl, rfl⟩
  · have h1 : rdLeft b e = 0 := by rw [rdLeft, if_pos he]
    have g1 : ¬ (e : Int) = 0 := by omega
    rw [h1]
    clear hr hat hm he h1
    go_enter Try.func28, Try.ntmps28
    go_wp2
    go_ret
    exact ⟨rfl, rfl⟩
set_option maxRecDepth 100000 in
set_option maxHeartbeats 1000000 in
theorem rrest_any (b : List (BitVec 8)) (e : Nat) (br : Nat) (w : World) (hr : RRd w br b e) (hb : b.length ≤ 9223372036854775807) :
    Calls Try.prog 25 #[.pointer (some ⟨br, 0, none⟩)] w fun o w' => o = .returned (.int .i64 ((rdRest b e : Nat) : Int)) ∧ Rd5 w br b (rdRest b e) w' := by
  obtain ⟨a, cap, hat, hsl⟩ := hr.h
  have hno := none_any b (.slice a b.length cap) w hb hsl
  obtain ⟨m, hm⟩ : ∃ m, m = b.length := ⟨_, rfl⟩
  rw [← hm] at hat hb hno
  have c0 : w.cell? ⟨br, 0, none⟩ = some (.slice a m cap) := by rw [hat.cell]; rfl
  have c1 : w.cell? ⟨br, 1, none⟩ = some (.int .i64 (e : Int)) := by rw [hat.cell]; rfl
  have f1 : w.frozen? ⟨br, 1, none⟩ = false := hat.free 1
  have HR := Lib.hid hr
  by_cases he : e = 0
  · cases hz : allZ b with
    | false =>
      have h1 : rdRest b e = 3 := by rw [rdRest, if_pos ⟨he, hz⟩]
      rw [he, Int.natCast_zero] at c1
      rw [h1]
      rw [hz] at hno
      have NO := Lib.hid hno
      clear hr hat hm h1 hno hsl hz
      go_enter Try.func25, Try.ntmps25
      go_wp2_with fail
      refine NO.out.mono ?_
      rintro o w' ⟨rfl, rfl⟩
      go_wp2_with fail
      go_ret
      exact ⟨rfl, rd5_err HR.out 3⟩
    | true =>
      have h1 : rdRest b e = 0 := by rw [rdRest, if_neg (by rw [hz]; simp), he]
      rw [he, Int.natCast_zero] at c1
      rw [h1]
      rw [hz] at hno
      rw [he] at HR
      have NO := Lib.hid hno
      clear hr hat hm h1 hno hsl hz he
      go_enter Try.func25, Try.ntmps25
      go_wp2_with fail
      refine NO.out.mono ?_
      rintro o w' ⟨rfl, rfl⟩
      go_wp2_with fail
      go_ret
      exact ⟨rfl, rd5_same HR.out⟩
  · have h1 : rdRest b e = e := by rw [rdRest, if_neg (by simp [he])]
    have g1 : ¬ (e : Int) = 0 := by omega
    rw [h1]
    clear hr hat hm he h1 hno hsl
    go_enter Try.func25, Try.ntmps25
    go_wp2
    go_ret
    exact ⟨rfl, rd5_same HR.out⟩
end Sha
end Go.Proofs.Ytoefhcikfmgkbaa
