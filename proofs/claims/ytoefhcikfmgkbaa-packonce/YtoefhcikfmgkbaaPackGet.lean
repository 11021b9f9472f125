/- Package pack's reader takes a text; a reader that is nil: walks. -/
import Derived.Test.YtoefhcikfmgkbaaPackMeth
namespace Go.Proofs.Ytoefhcikfmgkbaa
namespace Sha
open Go.RowKit Mem
theorem pend_drew {w w2 : World} {br : Nat} {b : List (BitVec 8)} {e : Nat} (h : PEnd RPk w br b e w2) (n : Nat) : PEnd RPk w br b e (w2.drewN n) := h.trans (rpk_below h.r (Below.drewN' (Below.refl _ _)))
set_option maxRecDepth 100000 in
set_option maxHeartbeats 2000000 in
theorem ptextget_any (b : List (BitVec 8)) (e : Nat) (place : Int) (br : Nat) (w : World) (hr : RPk w br b e) (hb : b.length ≤ 8000) :
    Calls Try.prog 20 #[rp br, .int .i64 place] w fun o w' => ∃ v, o = .returned v ∧ Sl w' v (rdText b e (cutN place 1 255)).x ∧ PEnd RPk w br (rdText b e (cutN place 1 255)).b (rdText b e (cutN place 1 255)).e w' := by
  have c1 := cutN_lo place 1 255 (by decide)
  have c8 := cutN_hi place 1 255
  have hcv := cutN_val place 1 255 (by decide)
  obtain ⟨K, hK⟩ : ∃ K, K = cutN place 1 255 := ⟨_, rfl⟩
  rw [← hK] at c1 c8 hcv ⊢
  have hmm : min (max place 1) 255 = (K : Int) := by rw [hcv]; rfl
  have htk := take_any b e (K + 1) br w hr hb (by omega)
  rw [show ((K + 1 : Nat) : Int) = 1 + (K : Int) by omega] at htk
  have hlen := rdTake_len b e (K + 1)
  have htx : rdText b e K = if (rdTake b e (K + 1)).e ≠ 0 then ⟨[], (rdTake b e (K + 1)).b, (rdTake b e (K + 1)).e⟩ else if K < ((rdTake b e (K + 1)).x.getD 0 0).toNat ∨ allZ ((rdTake b e (K + 1)).x.drop (1 + ((rdTake b e (K + 1)).x.getD 0 0).toNat)) = false then ⟨[], (rdTake b e (K + 1)).b, 3⟩
      else ⟨((rdTake b e (K + 1)).x.drop 1).take ((rdTake b e (K + 1)).x.getD 0 0).toNat, (rdTake b e (K + 1)).b, 0⟩ := rfl
  obtain ⟨R, hR⟩ : ∃ R, R = rdTake b e (K + 1) := ⟨_, rfl⟩
  rw [← hR] at htk hlen htx
  have TK := Lib.hid htk; have TX := Lib.hid htx; have LEN := Lib.hid hlen
  clear htk htx hlen hR hK hr hcv
  go_enter Try.func20, Try.ntmps20
  go_wp2_with fail
  refine TK.out.mono ?_
  rintro o w2 ⟨a, cap, rfl, hs2, h5⟩
  by_cases hre : R.e = 0
  · have hbt : (R.e == 0) = true := by simpa using hre
    have hl := (LEN.out hre).1
    obtain ⟨x, hx⟩ : ∃ x, x = R.x.getD 0 0 := ⟨_, rfl⟩
    obtain ⟨b1, o1, ha1, cx⟩ := sl_at (i := 0) hs2 (by omega)
    rw [hbt]
    rw [hl] at hs2 ⊢
    rw [ha1] at hs2 ⊢
    have hcap : K + 1 ≤ cap := by obtain ⟨_, _, e1, hc, _⟩ := hs2; injection e1 with _ _ e3; omega
    have hsr : Sl w2 (.slice (some ⟨b1, o1 + 1, none⟩) K (cap - 1)) (R.x.drop 1) := by
      have h := sl_piece (i := 1) (j := K + 1) (l := R.x) (by rw [hl]; exact hs2) (by omega) (by omega)
      rw [show K + 1 - 1 = K by omega, List.take_of_length_le (by rw [List.length_drop, hl]; omega), pieceA, if_neg (by omega)] at h
      simpa [Addr.add_mid] using h
    rw [← hx] at cx
    rw [Nat.add_zero] at cx
    obtain ⟨q, hq⟩ : ∃ q : Nat, q = x.toNat := ⟨_, rfl⟩
    have hbx : B8 x = (q : Int) := by unfold B8; omega
    rw [hbx] at cx
    have q255 : q ≤ 255 := by have := x.isLt; omega
    rw [← hx, ← hq] at TX
    have hld : (R.x.drop 1).length = K := by rw [List.length_drop, hl]; omega
    have hs3 : ∀ n, Sl (w2.drewN n) (.slice (some ⟨b1, o1 + 1, none⟩) K (cap - 1)) (R.x.drop 1) := fun n => hsr.below (Below.drewN' (Below.refl _ _))
    have hfa := fun n => fail_any R.b R.e 3 br (w2.drewN n) (pend_drew h5 n).r (by decide)
    have hazd : (R.x.drop 1).drop q = R.x.drop (1 + q) := by rw [List.drop_drop]
    have haz := fun (n : Nat) (a' : Option Addr) (c' : Nat) (h : Sl (w2.drewN n) (.slice a' (K - q) c') ((R.x.drop 1).drop q)) => areZeros_any ((R.x.drop 1).drop q) (.slice a' (K - q) c') (w2.drewN n) (by rw [List.length_drop, hld]; omega) h
    rw [hazd] at haz
    have H5 := Lib.hid (fun n => pend_drew h5 n); have S3 := Lib.hid hs3; have LD := Lib.hid hld; have FA := Lib.hid hfa; have AZ := Lib.hid haz; have HRE := Lib.hid hre; have AZD := Lib.hid hazd
    have k1 : (0 : Int) < (1 + (K : Int)) := by omega
    have k2 : ((K + 1 : Nat) : Int) = 1 + (K : Int) := by omega
    clear h5 hs3 hsr hs2 hfa haz hld hl hx hq hbx ha1 hre hbt hazd
    by_cases hbig : K < q
    · have htx : rdText b e K = ⟨[], R.b, 3⟩ := by rw [TX.out, if_neg (by simpa using HRE.out), if_pos (.inl hbig)]
      have g1 : (K : Int) < (q : Int) := by omega
      have TT := Lib.hid htx
      clear htx hbig
      go_wp2
      go_quiet (fail)
      go_wp2_with fail
      refine (FA.out _).mono ?_
      rintro o w3 ⟨rfl, hp⟩
      have HP := Lib.hid (hp R.b)
      clear hp
      go_wp2_with fail
      go_ret
      rw [TT.out]
      exact ⟨_, rfl, sl_none _, (H5.out _).trans HP.out⟩
    · have g1 : ¬ (K : Int) < (q : Int) := by omega
      have g2 : q ≤ K := by omega
      have G2 := Lib.hid g2
      cases hz : allZ (R.x.drop (1 + q)) with
      | false =>
        have htx : rdText b e K = ⟨[], R.b, 3⟩ := by rw [TX.out, if_neg (by simpa using HRE.out), if_pos (.inr hz)]
        rw [hz] at AZ
        have TT := Lib.hid htx
        clear htx hz
        go_wp2
        go_quiet (fail)
        go_wp2_with (refine wpList_piece_from (by rfl) 22 _ _ (by rfl) Try.underlying22 (some ⟨b1, o1 + 1, none⟩) K (cap - 1) q (R.x.drop 1) LD.out (by rfl) (S3.out _) (by rfl) G2.out ?_; intro hp2; have P2 := Lib.hid hp2; clear hp2)
        refine (AZ.out _ _ _ (by rw [← AZD.out]; exact P2.out)).mono ?_
        rintro o w3 ⟨rfl, rfl⟩
        go_wp2_with fail
        refine (FA.out _).mono ?_
        rintro o w3 ⟨rfl, hp⟩
        have HP := Lib.hid (hp R.b)
        clear hp
        go_wp2_with fail
        go_ret
        rw [TT.out]
        exact ⟨_, rfl, sl_none _, (H5.out _).trans HP.out⟩
      | true =>
        have htx : rdText b e K = ⟨(R.x.drop 1).take q, R.b, 0⟩ := by rw [TX.out, if_neg (by simpa using HRE.out), if_neg (by rw [hz]; simp; omega)]
        have hcl := fun (n : Nat) (a' : Option Addr) (c' : Nat) (h : Sl (w2.drewN n) (.slice a' q c') ((R.x.drop 1).take q)) => clone_any ((R.x.drop 1).take q) (.slice a' q c') (w2.drewN n) (by rw [List.length_take]; omega) h
        rw [hz] at AZ
        have h5 := H5.out
        rw [HRE.out] at h5
        have TT := Lib.hid htx; have CL := Lib.hid hcl; have H6 := Lib.hid h5
        clear htx hz hcl h5
        go_wp2
        go_quiet (fail)
        go_wp2_with (refine wpList_piece_from (by rfl) 22 _ _ (by rfl) Try.underlying22 (some ⟨b1, o1 + 1, none⟩) K (cap - 1) q (R.x.drop 1) LD.out (by rfl) (S3.out _) (by rfl) G2.out ?_; intro hp2; have P2 := Lib.hid hp2; clear hp2)
        refine (AZ.out _ _ _ (by rw [← AZD.out]; exact P2.out)).mono ?_
        rintro o w3 ⟨rfl, rfl⟩
        go_wp2_with (refine wpList_piece_to (by rfl) 22 _ _ (by rfl) Try.underlying22 (some ⟨b1, o1 + 1, none⟩) K (cap - 1) q (R.x.drop 1) LD.out (by rfl) (S3.out _) (by rfl) G2.out ?_; intro hp3; have P3 := Lib.hid hp3; clear hp3)
        refine (CL.out _ _ _ P3.out).mono ?_
        rintro o w4 ⟨v4, rfl, hs4, hb4⟩
        have S4 := Lib.hid hs4; have B4 := Lib.hid hb4
        clear hs4 hb4
        go_wp2_with fail
        go_ret
        rw [TT.out]
        exact ⟨v4, rfl, S4.out, (H6.out _).trans (rpk_below (H6.out _).r B4.out)⟩
  · have htx : rdText b e K = ⟨[], R.b, R.e⟩ := by rw [TX.out, if_pos hre]
    have hbf : (R.e == 0) = false := by simpa using hre
    rw [hbf]
    have TT := Lib.hid htx; have H5 := Lib.hid h5
    clear htx h5 hs2 hre hbf
    go_wp2_with fail
    go_ret
    rw [TT.out]
    exact ⟨_, rfl, sl_none _, H5.out⟩
set_option maxHeartbeats 1000000 in
theorem nnum_any (w : World) : Calls Try.prog 18 #[.pointer none, .int .i64 1, .int .u64 5] w fun o w' => o = .returned (.int .u64 0) ∧ Below w.heap.size w w' := by
  have hns := fun wx => numSize_any 1 wx
  rw [show ((cutN 1 1 8 : Nat) : Int) = 1 by decide] at hns
  have htk := fun wx => ntake_any 1 wx
  have NS := Lib.hid hns; have TK := Lib.hid htk
  clear hns htk
  go_enter Try.func18, Try.ntmps18
  go_wp2_with fail
  refine (NS.out _).mono ?_
  rintro o w' ⟨rfl, rfl⟩
  go_wp2_with fail
  refine (TK.out _).mono ?_
  rintro o w' ⟨rfl, rfl⟩
  go_wp2_with fail
  go_ret
  exact ⟨rfl, Below.refl _ _⟩
set_option maxHeartbeats 1000000 in
theorem ntext_any (w : World) : Calls Try.prog 20 #[.pointer none, .int .i64 1] w (RSEnd w []) := by
  have htk := fun wx => ntake_any 2 wx
  have TK := Lib.hid htk
  clear htk
  go_enter Try.func20, Try.ntmps20
  go_wp2_with fail
  refine (TK.out _).mono ?_
  rintro o w' ⟨rfl, rfl⟩
  go_wp2_with fail
  go_ret
  exact ⟨_, rfl, sl_none _, Below.refl _ _⟩
set_option maxHeartbeats 1000000 in
theorem nbytes_any (w : World) : Calls Try.prog 22 #[.pointer none, .int .i64 1] w (RSEnd w []) := by
  have htk := fun wx => ntake_any 1 wx
  have TK := Lib.hid htk
  clear htk
  go_enter Try.func22, Try.ntmps22
  go_wp2_with fail
  refine (TK.out _).mono ?_
  rintro o w' ⟨rfl, rfl⟩
  go_wp2_with fail
  go_ret
  exact ⟨_, rfl, sl_none _, Below.refl _ _⟩
set_option maxHeartbeats 1000000 in
theorem nrest_any (w : World) : Calls Try.prog 24 #[.pointer none] w fun o w' => o = .returned (.int .i64 2) ∧ Below w.heap.size w w' := by
  have hpe := fun wx => nerr0_any wx
  have PE := Lib.hid hpe
  clear hpe
  go_enter Try.func24, Try.ntmps24
  go_wp2_with fail
  refine (PE.out _).mono ?_
  rintro o w' ⟨rfl, rfl⟩
  go_wp2_with fail
  refine (PE.out _).mono ?_
  rintro o w' ⟨rfl, rfl⟩
  go_wp2_with fail
  go_ret
  exact ⟨rfl, Below.refl _ _⟩
end Sha
end Go.Proofs.Ytoefhcikfmgkbaa
