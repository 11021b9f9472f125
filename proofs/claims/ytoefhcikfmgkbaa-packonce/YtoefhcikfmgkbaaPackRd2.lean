/- The document's reader takes a text: its walk. -/
import Derived.Test.YtoefhcikfmgkbaaPackRd
namespace Go.Proofs.Ytoefhcikfmgkbaa
namespace Sha
open Go.RowKit Mem
set_option maxRecDepth 100000 in
set_option maxHeartbeats 1000000 in
theorem rtextget_any (b : List (BitVec 8)) (e : Nat) (place : Int) (br : Nat) (w : World) (hr : RRd w br b e) (hb : b.length ≤ 9223372036854775807) (he : e ≤ 100) :
    Calls Try.prog 21 #[.pointer (some ⟨br, 0, none⟩), .int .i64 place] w (RdEnd w br (rdText b e (cutN place 1 255))) := by
  have hcu := fun wx => rcut_any place 1 255 wx (by decide)
  have c8 := cutN_hi place 1 255
  obtain ⟨K, hK⟩ : ∃ K, K = cutN place 1 255 := ⟨_, rfl⟩
  rw [← hK] at hcu c8 ⊢
  have hby := rbytes_any b e ((K + 1 : Nat) : Int) br w hr hb he
  rw [Int.toNat_natCast, show ((K + 1 : Nat) : Int) = (K : Int) + 1 by omega] at hby
  have hte := rdTake_e b e (K + 1) he
  have hlen := rdTake_len b e (K + 1)
  have htx : rdText b e K = if (rdTake b e (K + 1)).e ≠ 0 then ⟨[], (rdTake b e (K + 1)).b, (rdTake b e (K + 1)).e⟩ else if K < ((rdTake b e (K + 1)).x.getD 0 0).toNat ∨ allZ ((rdTake b e (K + 1)).x.drop (1 + ((rdTake b e (K + 1)).x.getD 0 0).toNat)) = false then ⟨[], (rdTake b e (K + 1)).b, 3⟩
      else ⟨((rdTake b e (K + 1)).x.drop 1).take ((rdTake b e (K + 1)).x.getD 0 0).toNat, (rdTake b e (K + 1)).b, 0⟩ := rfl
  obtain ⟨R, hR⟩ : ∃ R, R = rdTake b e (K + 1) := ⟨_, rfl⟩
  rw [← hR] at hby hte hlen htx
  have CU := Lib.hid hcu; have BY := Lib.hid hby; have TE := Lib.hid hte; have TX := Lib.hid htx; have LEN := Lib.hid hlen
  clear hcu hby hte htx hlen hR hK hr
  go_enter Try.func21, Try.ntmps21
  go_wp2_with fail
  refine (CU.out _).mono ?_
  rintro o w' ⟨rfl, rfl⟩
  go_wp2_with fail
  refine BY.out.mono ?_
  rintro o w2 ⟨a, cap, rfl, hs2, h5⟩
  obtain ⟨a1, cap1, hat, hsl1⟩ := h5.r.h
  have c1 : w2.cell? ⟨br, 1, none⟩ = some (.int .i64 (R.e : Int)) := by rw [hat.cell]; rfl
  have f1 : w2.frozen? ⟨br, 1, none⟩ = false := hat.free 1
  have S2 := Lib.hid hs2; have H5 := Lib.hid h5; have A2 := Lib.hid hat
  clear hs2 h5 hat hsl1 BY CU
  by_cases hre : R.e = 0
  · have hl := (LEN.out hre).1
    rw [hre, Int.natCast_zero] at c1
    obtain ⟨x, hx⟩ : ∃ x, x = R.x.getD 0 0 := ⟨_, rfl⟩
    obtain ⟨b1, o1, ha1, cx⟩ := sl_at (i := 0) S2.out (by omega)
    rw [hl] at S2 ⊢
    rw [ha1] at S2 ⊢
    have hcap : K + 1 ≤ cap := by obtain ⟨_, _, e1, hc, _⟩ := S2.out; injection e1 with _ _ e3; omega
    rw [← hx] at cx
    rw [Nat.add_zero] at cx
    obtain ⟨q, hq⟩ : ∃ q : Nat, q = x.toNat := ⟨_, rfl⟩
    have hbx : B8 x = (q : Int) := by unfold B8; omega
    rw [hbx] at cx
    have q255 : q ≤ 255 := by have := x.isLt; omega
    rw [← hx, ← hq] at TX
    have hpc : (0 : Int) < ((K + 1 : Nat) : Int) := by omega
    have HL := Lib.hid hl; have HRE := Lib.hid hre
    have key : ((K + 1 : Nat) : Int) = (K : Int) + 1 := by omega
    by_cases hbig : K < q
    · have htx : rdText b e K = ⟨[], R.b, 3⟩ := by rw [TX.out, if_neg (by simpa using hre), if_pos (.inl hbig)]
      have g1 : (q : Int) ≥ ((K + 1 : Nat) : Int) := by omega
      have TT := Lib.hid htx
      clear htx hbig hx hq hbx hl hre ha1
      go_wp2
      go_ret
      rw [TT.out]
      exact ⟨none, 0, rfl, sl_none _, H5.out.trans (rd5_err H5.out.r 3)⟩
    · have hno := fun (a' : Option Addr) (c' : Nat) (h : Sl w2 (.slice a' (K + 1 - (1 + q)) c') (R.x.drop (1 + q))) => none_any (R.x.drop (1 + q)) (.slice a' (K + 1 - (1 + q)) c') w2 (by rw [List.length_drop, hl]; omega) h
      have cells : ∀ i, i < K + 1 → w2.cell? ⟨b1, o1 + i, none⟩ = some (.int .u8 ((R.x.getD i 0).toNat : Int)) := fun i hi => by
        obtain ⟨_, _, e1, _, hr1⟩ := S2.out
        injection e1 with e2 _ _
        obtain ⟨bb, oo, e3, _, hc3⟩ := hr1 (by intro h0; rw [h0] at hl; simp at hl)
        rw [← e2] at e3
        injection e3 with e3
        injection e3 with e4 e5 _
        rw [e4, e5]
        exact hc3 i (by omega)
      have hb1 : b1 < w2.heap.size := block_lt_of_cell cx
      have slx : ∀ (a' : Option Addr) (c' : Nat), (K + 1 - (1 + q) ≠ 0 → a' = some ⟨b1, o1 + (1 + q), none⟩) → K + 1 - (1 + q) ≤ c' → Sl w2 (.slice a' (K + 1 - (1 + q)) c') (R.x.drop (1 + q)) := fun a' c' ha hc => by
        have hln : (R.x.drop (1 + q)).length = K + 1 - (1 + q) := by rw [List.length_drop, hl]
        refine ⟨a', c', by rw [hln], by rw [hln]; exact hc, fun hne => ⟨b1, o1 + (1 + q), ha (fun h0 => hne (List.eq_nil_of_length_eq_zero (by rw [hln, h0]))), hb1, fun i hi => ?_⟩⟩
        rw [hln] at hi
        rw [Nat.add_assoc, cells _ (by omega)]
        simp [List.getD_eq_getElem?_getD, List.getElem?_drop]
      have sly : ∀ (a' : Option Addr) (c' : Nat), (q ≠ 0 → a' = some ⟨b1, o1 + 1, none⟩) → q ≤ c' → Sl w2 (.slice a' q c') ((R.x.drop 1).take q) := fun a' c' ha hc => by
        have hln : ((R.x.drop 1).take q).length = q := by rw [List.length_take, List.length_drop, hl]; omega
        refine ⟨a', c', by rw [hln], by rw [hln]; exact hc, fun hne => ⟨b1, o1 + 1, ha (fun h0 => hne (List.eq_nil_of_length_eq_zero (by rw [hln, h0]))), hb1, fun i hi => ?_⟩⟩
        rw [hln] at hi
        rw [Nat.add_assoc, cells _ (by omega), Nat.add_comm 1 i]
        simp [List.getD_eq_getElem?_getD, hi]
      have g1 : ¬ (q : Int) ≥ ((K + 1 : Nat) : Int) := by omega
      have hq1 : 1 + q ≤ K + 1 := by omega
      have NO := Lib.hid hno; have SLX := Lib.hid slx; have SLY := Lib.hid sly
      clear hno hx hq hbx hl hre ha1 slx sly cells
      cases hz : allZ (R.x.drop (1 + q)) with
      | false =>
        have htx : rdText b e K = ⟨[], R.b, 3⟩ := by rw [TX.out, if_neg (by simpa using HRE.out), if_pos (.inr hz)]
        rw [hz] at NO
        have TT := Lib.hid htx
        clear htx hbig hz
        go_wp2_with fail
        all_goals (refine (NO.out _ _ (SLX.out _ _ (fun h0 => by first | rfl | (exfalso; omega)) (by omega))).mono ?_; rintro o w3 ⟨rfl, rfl⟩; go_wp2_with fail)
        all_goals (go_ret; rw [TT.out]; exact ⟨none, 0, rfl, sl_none _, H5.out.trans (rd5_err H5.out.r 3)⟩)
      | true =>
        have htx : rdText b e K = ⟨(R.x.drop 1).take q, R.b, 0⟩ := by rw [TX.out, if_neg (by simpa using HRE.out), if_neg (by rw [hz]; simp; omega)]
        have hl3 : ((R.x.drop 1).take q).length = q := by rw [List.length_take, List.length_drop, HL.out]; omega
        rw [hz] at NO
        have TT := Lib.hid htx; have HL3 := Lib.hid hl3
        have h5 := H5.out
        rw [HRE.out] at h5
        have H6 := Lib.hid h5
        clear htx hbig hz hl3 h5
        go_wp2_with fail
        all_goals (refine (NO.out _ _ (SLX.out _ _ (fun h0 => by first | rfl | (exfalso; omega)) (by omega))).mono ?_; rintro o w3 ⟨rfl, rfl⟩; go_wp2_with fail)
        all_goals (go_ret; rw [TT.out]; refine ⟨_, _, (by rw [HL3.out]; exact congrArg (fun n => Ending.returned (Value.slice _ n _)) (by omega)), ?_, H6.out⟩; rw [HL3.out]; exact SLY.out _ _ (fun h0 => by first | rfl | (exfalso; omega)) (by omega))
  · have htx : rdText b e K = ⟨[], R.b, R.e⟩ := by rw [TX.out, if_pos hre]
    have g1 : ¬ (R.e : Int) = 0 := by omega
    have TT := Lib.hid htx
    clear htx hre
    go_wp2
    go_ret
    rw [TT.out]
    exact ⟨none, 0, rfl, sl_none _, H5.out⟩
end Sha
end Go.Proofs.Ytoefhcikfmgkbaa
