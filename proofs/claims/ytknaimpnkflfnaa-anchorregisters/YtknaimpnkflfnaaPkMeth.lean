/- Package pack's reader: its methods. -/
import Derived.Test.YtknaimpnkflfnaaPkBox
import Derived.Test.YtknaimpnkflfnaaSlice
import Derived.BigQuiet
namespace Go.Proofs.Ytknaimpnkflfnaa
namespace Sha
open Go.RowKit Mem
/-- How take ends: the bytes, and whether there were as many. -/
def TkEnd (w : World) (br : Nat) (R : Rd3) (o : Ending) (w' : World) : Prop := ∃ a cap, o = .returned (.tuple #[.slice a R.x.length cap, .bool (R.e == 0)]) ∧ Sl w' (.slice a R.x.length cap) R.x ∧ PEnd RPk w br R.b R.e w'
set_option maxRecDepth 100000 in
set_option maxHeartbeats 1000000 in
theorem take_any (b : List (BitVec 8)) (e n br : Nat) (w : World) (hr : RPk w br b e) (_hb : b.length ≤ 8000) (_hn : n ≤ 9223372036854775807) :
    Calls Try.prog 39 #[rp br, .int .i64 (n : Int)] w (TkEnd w br (rdTake b e n)) := by
  have hpe := fun wx h => perr0_any b e br wx h
  by_cases he0 : e = 0
  · subst he0
    have hfa := fun wx h => fail_any b 0 4 br wx h (by decide)
    have hr0 := hr
    obtain ⟨a, cap, hat, hsl⟩ := hr.h
    rw [lv_zero] at hat hsl
    obtain ⟨m, hm⟩ : ∃ m, m = b.length := ⟨_, rfl⟩
    rw [← hm] at hat hsl _hb
    have c0 : w.cell? ⟨br, 0, none⟩ = some (.slice a m cap) := by rw [hat.cell]; rfl
    have f0 : w.frozen? ⟨br, 0, none⟩ = false := hat.free 0
    have PE := Lib.hid hpe; have FA := Lib.hid hfa; have HR := Lib.hid hr0; have HA := Lib.hid hat; have HS := Lib.hid hsl; have HM := Lib.hid hm
    clear hpe hfa hr hr0 hat hsl hm
    by_cases hlt : m < n
    · have hrd : rdTake b 0 n = ⟨[], b, 4⟩ := by unfold rdTake; rw [if_neg (by simp), if_pos (by rw [← HM.out]; exact hlt)]
      have g1 : (m : Int) < (n : Int) := by omega
      have RD := Lib.hid hrd
      clear hrd hlt
      go_enter Try.func39, Try.ntmps39
      go_wp2_with fail
      refine (PE.out w HR.out).mono ?_
      rintro o w' ⟨rfl, rfl⟩
      go_wp2_with fail
      refine (FA.out w HR.out).mono ?_
      rintro o w2 ⟨rfl, hp⟩
      have HP := Lib.hid hp
      clear hp
      go_wp2_with fail
      go_ret2
      rw [RD.out]
      exact ⟨none, 0, rfl, sl_none _, HP.out b⟩
    · have hkm : n ≤ m := by omega
      have hrd : rdTake b 0 n = ⟨b.take n, b.drop n, 0⟩ := by unfold rdTake; rw [if_neg (by simp), if_neg (by rw [← HM.out]; exact hlt)]
      have g1 : ¬ (m : Int) < (n : Int) := by omega
      have RD := Lib.hid hrd; have KM := Lib.hid hkm
      clear hrd hlt
      go_enter Try.func39, Try.ntmps39
      go_wp2_with fail
      refine (PE.out w HR.out).mono ?_
      rintro o w' ⟨rfl, rfl⟩
      go_wp2_with (first
        | (refine wpList_piece_to (by rfl) 27 _ _ (by rfl) Try.underlying27 a m cap n b HM.out.symm (by rfl) HS.out (by rfl) KM.out ?_; intro hp1; have P1 := Lib.hid hp1; clear hp1)
        | (refine wpList_piece_from (by rfl) 27 _ _ (by rfl) Try.underlying27 a m cap n b HM.out.symm (by rfl) HS.out (by rfl) KM.out ?_; intro hp2; have P2 := Lib.hid hp2; clear hp2))
      go_ret2
      rw [RD.out]
      have hl1 : (b.take n).length = n := by rw [List.length_take, ← HM.out]; have := KM.out; omega
      have h5 := rpk_left HR.out (pieceA a cap n) (m - n) (cap - n) (by rw [List.length_drop, ← HM.out]) P2.out (lb_piece (HR.out.lb HA.out) cap n)
      exact ⟨pieceA a cap 0, cap, by rw [hl1]; rfl, by rw [hl1]; exact P1.out.but_at HA.out (rdRow_no _ _ _ _) h5.o, h5⟩
  · have hrd : rdTake b e n = ⟨[], b, e⟩ := by unfold rdTake; rw [if_pos (by simpa using he0)]
    have g1 : ¬ (e : Int) = 0 := by omega
    have hbf : (e == 0) = false := by simpa using he0
    have PE := Lib.hid hpe; have RD := Lib.hid hrd; have HR := Lib.hid hr; have BF := Lib.hid hbf
    clear hpe hrd hr he0 hbf
    go_enter Try.func39, Try.ntmps39
    go_wp2_with fail
    refine (PE.out w HR.out).mono ?_
    rintro o w' ⟨rfl, rfl⟩
    go_wp2_with fail
    go_ret2
    rw [RD.out]
    exact ⟨none, 0, by rw [BF.out]; rfl, sl_none _, rpk_same HR.out⟩
set_option maxHeartbeats 1000000 in
theorem ntake_any (n : Nat) (w : World) : Calls Try.prog 39 #[.pointer none, .int .i64 (n : Int)] w fun o w' => o = .returned (.tuple #[.slice none 0 0, .bool false]) ∧ w = w' := by
  have hpe := fun wx => nerr0_any wx
  have PE := Lib.hid hpe
  clear hpe
  go_enter Try.func39, Try.ntmps39
  go_wp2_with fail
  refine (PE.out w).mono ?_
  rintro o w' ⟨rfl, rfl⟩
  go_wp2_with fail
  go_ret2
  exact ⟨rfl, rfl⟩
set_option maxRecDepth 100000 in
set_option maxHeartbeats 1000000 in
theorem pbytes_any (b : List (BitVec 8)) (e : Nat) (z : Int) (br : Nat) (w : World) (hr : RPk w br b e) (hb : b.length ≤ 8000) (h0 : -9223372036854775808 ≤ z) (h1 : z ≤ 9223372036854775807) :
    Calls Try.prog 31 #[rp br, .int .i64 z] w fun o w' => ∃ v, o = .returned v ∧ Sl w' v (rdTake b e z.toNat).x ∧ PEnd RPk w br (rdTake b e z.toNat).b (rdTake b e z.toNat).e w' := by
  obtain ⟨k, hk⟩ : ∃ k, k = z.toNat := ⟨_, rfl⟩
  have hmax : max z 0 = (k : Int) := by omega
  rw [← hk]
  have htk := take_any b e k br w hr hb (by omega)
  have hxl := (rdTake_small b e k).2.1
  have her := fun h => (rdTake_err b e k h).1
  obtain ⟨R, hR⟩ : ∃ R, R = rdTake b e k := ⟨_, rfl⟩
  rw [← hR] at htk hxl her ⊢
  have TK := Lib.hid htk; have XL := Lib.hid hxl; have ER := Lib.hid her
  clear htk hxl her hR hr hk
  go_enter Try.func31, Try.ntmps31
  go_wp2_with fail
  refine TK.out.mono ?_
  rintro o w2 ⟨a, cap, rfl, hs2, h5⟩
  by_cases hre : R.e = 0
  · have hcl := clone_any R.x (.slice a R.x.length cap) w2 (by have := XL.out; omega) hs2
    have hbt : (R.e == 0) = true := by simpa using hre
    rw [hbt]
    have CL := Lib.hid hcl; have H5 := Lib.hid h5
    clear hcl h5 hs2 hre hbt
    go_wp2_with fail
    refine CL.out.mono ?_
    rintro o w3 ⟨v3, rfl, hs3, hb3⟩
    have S3 := Lib.hid hs3; have B3 := Lib.hid hb3
    clear hs3 hb3
    go_wp2_with fail
    go_ret
    exact ⟨v3, rfl, S3.out, H5.out.trans (rpk_below H5.out.r B3.out)⟩
  · have hbf : (R.e == 0) = false := by simpa using hre
    have hx := ER.out hre
    rw [hbf]
    have H5 := Lib.hid h5; have HX := Lib.hid hx
    clear h5 hs2 hre hbf hx
    go_wp2_with fail
    go_ret
    exact ⟨_, rfl, by rw [HX.out]; exact sl_none _, H5.out⟩
set_option maxRecDepth 100000 in
set_option maxHeartbeats 1000000 in
theorem pnumget_any (b : List (BitVec 8)) (e : Nat) (size : Int) (most : Nat) (br : Nat) (w : World) (hr : RPk w br b e) (hb : b.length ≤ 8000) (_hmo : most < 18446744073709551616) :
    Calls Try.prog 30 #[rp br, .int .i64 size, .int .u64 (most : Int)] w fun o w' => o = .returned (.int .u64 (((rdNum b e (cutN size 1 8) most).1 : Nat) : Int)) ∧ PEnd RPk w br (rdNum b e (cutN size 1 8) most).2.1 (rdNum b e (cutN size 1 8) most).2.2 w' := by
  have hns := fun wx => numSize_any size wx
  have c8 := cutN_hi size 1 8
  obtain ⟨K, hK⟩ : ∃ K, K = cutN size 1 8 := ⟨_, rfl⟩
  rw [← hK] at hns c8 ⊢
  have htk := take_any b e K br w hr hb (by omega)
  have hsm := (rdTake_small b e K).1
  have hnum : rdNum b e K most = if (rdTake b e K).e ≠ 0 then (0, (rdTake b e K).b, (rdTake b e K).e) else if most < leN (rdTake b e K).x then (0, (rdTake b e K).b, 3) else (leN (rdTake b e K).x, (rdTake b e K).b, 0) := rfl
  obtain ⟨R, hR⟩ : ∃ R, R = rdTake b e K := ⟨_, rfl⟩
  rw [← hR] at htk hsm hnum
  have NS := Lib.hid hns; have TK := Lib.hid htk; have SMA := Lib.hid hsm; have NU := Lib.hid hnum
  clear hns htk hsm hnum hR hK hr
  go_enter Try.func30, Try.ntmps30
  go_wp2_with fail
  refine (NS.out _).mono ?_
  rintro o w' ⟨rfl, rfl⟩
  go_wp2_with fail
  refine TK.out.mono ?_
  rintro o w2 ⟨a, cap, rfl, hs2, h5⟩
  by_cases hre : R.e = 0
  · have hnm := num_any R.x (.slice a R.x.length cap) w2 (by have := SMA.out; omega) hs2
    have hN64 : leN R.x < 18446744073709551616 := leN_64 _ (by have := SMA.out; omega)
    have hbt : (R.e == 0) = true := by simpa using hre
    have hfa := fail_any R.b R.e 3 br w2 h5.r (by decide)
    obtain ⟨N, hN⟩ : ∃ N, N = leN R.x := ⟨_, rfl⟩
    rw [← hN] at hnm hN64
    rw [hbt]
    by_cases hbig : most < N
    · have hnu : rdNum b e K most = (0, R.b, 3) := by rw [NU.out, if_neg (by simpa using hre), if_pos (by rw [← hN]; exact hbig)]
      have g1 : (most : Int) < (N : Int) := by omega
      have NN := Lib.hid hnu; have NM := Lib.hid hnm; have H5 := Lib.hid h5; have FA := Lib.hid hfa
      clear hnu hnm h5 hfa hs2 hre hbt hbig hN
      go_wp2_with fail
      refine NM.out.mono ?_
      rintro o w3 ⟨rfl, rfl⟩
      go_wp2_with fail
      refine FA.out.mono ?_
      rintro o w4 ⟨rfl, hp⟩
      have HP := Lib.hid hp
      clear hp
      go_wp2_with fail
      go_ret
      rw [NN.out]
      exact ⟨rfl, H5.out.trans (HP.out R.b)⟩
    · have hnu : rdNum b e K most = (N, R.b, 0) := by rw [NU.out, if_neg (by simpa using hre), if_neg (by rw [← hN]; exact hbig), ← hN]
      have g1 : ¬ (most : Int) < (N : Int) := by omega
      rw [hre] at h5
      have NN := Lib.hid hnu; have NM := Lib.hid hnm; have H5 := Lib.hid h5
      clear hnu hnm h5 hfa hs2 hre hbt hbig hN
      go_wp2_with fail
      refine NM.out.mono ?_
      rintro o w3 ⟨rfl, rfl⟩
      go_wp2_with fail
      go_ret
      rw [NN.out]
      exact ⟨rfl, H5.out⟩
  · have hnu : rdNum b e K most = (0, R.b, R.e) := by rw [NU.out, if_pos hre]
    have hbf : (R.e == 0) = false := by simpa using hre
    rw [hbf]
    have NN := Lib.hid hnu; have H5 := Lib.hid h5
    clear hnu h5 hs2 hre hbf
    go_wp2_with fail
    go_ret
    rw [NN.out]
    exact ⟨rfl, H5.out⟩
set_option maxRecDepth 100000 in
set_option maxHeartbeats 1000000 in
theorem prest_any (b : List (BitVec 8)) (e : Nat) (br : Nat) (w : World) (hr : RPk w br b e) (hb : b.length ≤ 8000) :
    Calls Try.prog 32 #[rp br] w fun o w' => o = .returned (.int .i64 ((rdRest b e : Nat) : Int)) ∧ PEnd RPk w br b (rdRest b e) w' := by
  have hpe := fun e wx h => perr0_any b e br wx h
  by_cases he : e = 0
  · subst he
    have hfa := fun wx h => fail_any b 0 3 br wx h (by decide)
    have hr0 := hr
    obtain ⟨a, cap, hat, hsl⟩ := hr.h
    rw [lv_zero] at hat hsl
    have haz := areZeros_any b (.slice a b.length cap) w (by omega) hsl
    obtain ⟨m, hm⟩ : ∃ m, m = b.length := ⟨_, rfl⟩
    rw [← hm] at hat haz
    have c0 : w.cell? ⟨br, 0, none⟩ = some (.slice a m cap) := by rw [hat.cell]; rfl
    have PE := Lib.hid hpe; have FA := Lib.hid hfa; have HR := Lib.hid hr0
    clear hpe hfa hr hr0 hat hsl hm
    cases hz : allZ b with
    | false =>
      have h1 : rdRest b 0 = 3 := by rw [rdRest, if_pos ⟨rfl, hz⟩]
      rw [h1]
      rw [hz] at haz
      have AZ := Lib.hid haz
      clear h1 haz hz
      go_enter Try.func32, Try.ntmps32
      go_wp2_with fail
      refine (PE.out 0 w HR.out).mono ?_
      rintro o w' ⟨rfl, rfl⟩
      go_wp2_with fail
      refine AZ.out.mono ?_
      rintro o w' ⟨rfl, rfl⟩
      go_wp2_with fail
      refine (FA.out w HR.out).mono ?_
      rintro o w2 ⟨rfl, hp⟩
      have HP := Lib.hid (hp b)
      clear hp
      go_wp2_with fail
      refine (PE.out 3 w2 HP.out.r).mono ?_
      rintro o w' ⟨rfl, rfl⟩
      go_wp2_with fail
      go_ret
      exact ⟨rfl, HP.out⟩
    | true =>
      have h1 : rdRest b 0 = 0 := by rw [rdRest, if_neg (by rw [hz]; simp)]
      rw [h1]
      rw [hz] at haz
      have AZ := Lib.hid haz
      clear h1 haz hz
      go_enter Try.func32, Try.ntmps32
      go_wp2_with fail
      refine (PE.out 0 w HR.out).mono ?_
      rintro o w' ⟨rfl, rfl⟩
      go_wp2_with fail
      refine AZ.out.mono ?_
      rintro o w' ⟨rfl, rfl⟩
      go_wp2_with fail
      refine (PE.out 0 _ HR.out).mono ?_
      rintro o w' ⟨rfl, rfl⟩
      go_wp2_with fail
      go_ret
      exact ⟨rfl, rpk_same HR.out⟩
  · have h1 : rdRest b e = e := by rw [rdRest, if_neg (by simp [he])]
    have g1 : ¬ (e : Int) = 0 := by omega
    rw [h1]
    have PE := Lib.hid hpe; have HR := Lib.hid hr
    clear hpe hr he h1
    go_enter Try.func32, Try.ntmps32
    go_wp2_with fail
    refine (PE.out e w HR.out).mono ?_
    rintro o w' ⟨rfl, rfl⟩
    go_wp2_with fail
    refine (PE.out e _ HR.out).mono ?_
    rintro o w' ⟨rfl, rfl⟩
    go_wp2_with fail
    go_ret
    exact ⟨rfl, rpk_same HR.out⟩
end Sha
end Go.Proofs.Ytknaimpnkflfnaa
