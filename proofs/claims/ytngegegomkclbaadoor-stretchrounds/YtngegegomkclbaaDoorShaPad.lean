/- The walk of a state's pad. -/
import Derived.Test.YtngegegomkclbaaDoorShaWrite
import Derived.Test.YtngegegomkclbaaDoorQuiet
namespace Go.Proofs.YtngegegomkclbaaDoor
namespace Sha
open Go.RowKit Mem

def Z72 : Array Value := (u8s (List.replicate 72 0)).toArray
theorem zero72 (w : World) : (zeroValue 78).run Tryd.prog w = .ok (.agg Z72) w := by kernel_rfl
theorem info72 : (Tryd.prog.info? 78).map (·.size) = some 72 := by kernel_rfl
theorem Z72_set : Z72.setIfInBounds 0 (.int .u8 128) = (u8s P0).toArray := by
  unfold Z72 P0
  have : (List.replicate 72 (0 : BitVec 8)) = 0 :: List.replicate 71 0 := rfl
  rw [this]
  have e := u8s_set (0 :: List.replicate 71 0) 0 128
  simpa using e
theorem lenByte_val (n j : Nat) : ((n : Int) * 8 / 2 ^ (56 - 8 * j) % (256 : Int)) = ((lenByte (n * 8) j).toNat : Int) := by
  unfold lenByte
  rw [BitVec.toNat_ofNat]
  show _ = ((n * 8 / 2 ^ (56 - 8 * j) % 256 : Nat) : Int)
  rw [Int.natCast_emod, Int.natCast_ediv, Int.natCast_mul, Int.natCast_pow]; rfl
structure PInv (B : Nat) (C : Array Value) (l : List (BitVec 8)) (w wr : World) : Prop where
  c : At wr B C 55
  z : At wr (B + 1) Zst 55
  p : At wr (B + 2) (u8s l).toArray 78
  b : Below B w wr
set_option maxRecDepth 100000 in
set_option maxHeartbeats 1000000 in
theorem pad_any (s : Fed) (hs : Ok s) (n : Nat) (hn : n % 64 = s.at') (w : World) (hN : n ≤ 1152921504606846975) (hL : Tabs w) :
    Calls Tryd.prog 44 #[.agg (stRow s.H s.T n)] w fun e w' => e = .returned (.agg (stRow (feeds s (padBytes n)).H (feeds s (padBytes n)).T (n + (padBytes n).length))) ∧ Below w.heap.size w w' := by
  obtain ⟨C, hC⟩ : ∃ C, C = stRow s.H s.T n := ⟨_, rfl⟩
  obtain ⟨Z, hZ⟩ : ∃ Z, Z = Zst := ⟨_, rfl⟩
  obtain ⟨X, hX⟩ : ∃ X, X = Z72 := ⟨_, rfl⟩
  have hz := zeroSt
  have hx := zero72
  rw [← hZ] at hz
  rw [← hX] at hx
  have hwr := fun (wx : World) (v : Value) (hv : Sl wx v (padBytes n)) (ht : Tabs wx) => write_any s hs n hn (padBytes n) v wx (by have := padQ_bd (n % 64) (Nat.mod_lt _ (by decide)); rw [padBytes_length]; omega) hv ht
  rw [← hC] at hwr ⊢
  have hsz : C.size = 73 := by rw [hC]; exact stRow_size hs.h hs.t
  have h72 : C[72]? = some (.int .u64 (n : Int)) := by rw [hC]; exact stRow_n hs.h hs.t
  have hmod : ((n % 64 : Nat) : Int) = (s.at' : Int) := by rw [hn]
  have X0 : X[0]? = some (.int .u8 0) := by rw [hX]; simp [Z72, u8s]
  have aC : At (((w.alloc (.cells C 55)).alloc (.cells Z 55)).alloc (.cells (X.setIfInBounds 0 (.int .u8 128)) 78)) w.heap.size C 55 := ((at_new w C _).alloc _).alloc _
  have aZ : At (((w.alloc (.cells C 55)).alloc (.cells Z 55)).alloc (.cells (X.setIfInBounds 0 (.int .u8 128)) 78)) (w.heap.size + 1) Z 55 := by
    have := (at_new (w.alloc (.cells C 55)) Z 55).alloc (.cells (X.setIfInBounds 0 (.int .u8 128)) 78)
    simpa using this
  have aX : At (((w.alloc (.cells C 55)).alloc (.cells Z 55)).alloc (.cells (X.setIfInBounds 0 (.int .u8 128)) 78)) (w.heap.size + 2) (X.setIfInBounds 0 (.int .u8 128)) 78 := by
    have := at_new ((w.alloc (.cells C 55)).alloc (.cells Z 55)) (X.setIfInBounds 0 (.int .u8 128)) 78
    simpa using this
  have b1 : Below w.heap.size w (((w.alloc (.cells C 55)).alloc (.cells Z 55)).alloc (.cells (X.setIfInBounds 0 (.int .u8 128)) 78)) := (((Below.refl _ _).alloc (Nat.le_refl _) _).alloc (by simp) _).alloc (by simp; omega) _
  have s1 : (((w.alloc (.cells C 55)).alloc (.cells Z 55)).alloc (.cells (X.setIfInBounds 0 (.int .u8 128)) 78)).heap.size = w.heap.size + 3 := by simp
  have HC := Lib.hid hC; have HZ := Lib.hid hZ; have HX := Lib.hid hX; have HSZ := Lib.hid hsz; have H72 := Lib.hid h72; have HM := Lib.hid hmod; have AC := Lib.hid aC; have AZ := Lib.hid aZ; have AX := Lib.hid aX; have B1 := Lib.hid b1; have S1 := Lib.hid s1
  have HLT := Lib.hid hL; have HS := Lib.hid hs; have HMOD := Lib.hid hn; have HWR := Lib.hid hwr
  clear hC hZ hX hsz h72 hmod aC aZ aX b1 s1 hL hs hn hwr
  have TS : Hid (∀ w : World, Calls Tryd.prog 51 #[.agg C] w fun e w' => e = .returned (.int .i64 (s.at' : Int)) ∧ Below w.heap.size w w') := fun w => by
    have := tailSize_any C n w H72.out
    rw [HM.out] at this
    exact this
  obtain ⟨t, ht⟩ : ∃ t, t = s.at' := ⟨_, rfl⟩
  rw [← ht] at TS
  have htl : t < 64 := by rw [ht]; exact HS.out.a
  obtain ⟨q, hq⟩ : ∃ q, q = padQ (n % 64) := ⟨_, rfl⟩
  have hqt : q = padQ t := by rw [hq, ht, HMOD.out]
  have hqb : 1 ≤ q ∧ q ≤ 64 := by rw [hqt]; exact padQ_bd t htl
  obtain ⟨hq1, hq2⟩ := hqb
  have HT := Lib.hid ht; have HQ := Lib.hid hq
  clear ht hq
  by_cases h56 : t < 56
  · have hr : (56 : Int) - (t : Int) = (q : Int) := by rw [hqt, padQ, if_pos h56]; omega
    have hr1 : decide ((q : Int) < 1) = false := by simp; omega
    have hr2 : ¬ (q : Int) < 1 := by omega
    clear hqt h56
    go_enter Tryd.func44, Tryd.ntmps44
    go_wp2_with (first | (refine wpList_load_all (by rfl) 55 _ (by rfl) _ (by rfl) _ Tryd.underlying55 (by rfl) _ _ AC.out (by rw [HSZ.out]; exact infoSt) ?_) | (go_at_call 51; refine (TS.out _).mono ?_; rintro e w2 ⟨rfl, hb2⟩; have a2 := AC.out.below hb2 (by rw [S1.out]; omega); have c72 := (a2.cell 72).trans H72.out; have A2 := Lib.hid a2; have HB2 := Lib.hid hb2; clear a2 hb2))
    have hI0 : PInv w.heap.size C P0 w w2 := by
      have hb2 := HB2.out
      rw [S1.out] at hb2
      refine ⟨A2.out, ?_, ?_, B1.out.trans (hb2.mono (by omega))⟩
      · rw [← HZ.out]; exact AZ.out.below hb2 (by omega)
      · have := AX.out.below hb2 (by omega)
        rw [HX.out, Z72_set] at this
        exact this
    have HI0 := Lib.hid hI0
    clear hI0 c72 hz hx X0
    go_loopw [6, 18] (fun _ i wr => ∃ j : Nat, j ≤ 8 ∧ i = .int .i64 j ∧ PInv w.heap.size C (padRow q (n * 8) j) w wr) (fun _ i _ => 8 - (intOf i).toNat)
    case atStart => exact ⟨0, by omega, rfl, HI0.out⟩
    case round =>
      obtain ⟨j, hj, rfl, hI⟩ := hrel
      by_cases hlt : j < 8
      · have ca : ∃ o, wr.cell? ⟨w.heap.size + 1 + 1, q + j, none⟩ = some (.int .u8 o) := by
          refine ⟨(((padRow q (n * 8) j).getD (q + j) 0).toNat : Int), ?_⟩
          rw [show w.heap.size + 1 + 1 = w.heap.size + 2 from rfl, hI.p.cell, List.getElem?_toArray]
          exact u8s_get _ _ (by rw [padRow_length]; omega)
        obtain ⟨o, ca⟩ := ca
        have fa : wr.frozen? ⟨w.heap.size + 1 + 1, q + j, none⟩ = false := hI.p.free _
        have HI := Lib.hid hI
        clear hI
        go_wp2_with fail
        go_roundw
        case rel =>
          refine ⟨j + 1, by omega, by go_num, ?_⟩
          rw [lenByte_val]
          have hI := HI.out
          have hp := hI.p.set (q + j) (.int .u8 ((lenByte (n * 8) j).toNat : Int))
          rw [u8s_set] at hp
          exact ⟨hI.c.set_other _ _ (by simp; omega), hI.z.set_other _ _ (by simp), hp, hI.b.setCell (by simp; omega) _⟩
        case measure => simp [intOf]; omega
      · have hj8 : j = 8 := by omega
        rw [hj8] at hI
        have hge : ¬ (j : Int) < 8 := by omega
        have hpl : (padBytes n).length = q + 8 := by rw [padBytes_length, HQ.out]
        have hqs : IntKind.i64.wrap ((q : Int) + 8) = (q : Int) + 8 := by rw [IntWalk.i64_in _ (by omega)]
        obtain ⟨R, hR⟩ : ∃ R, R = stRow (feeds s (padBytes n)).H (feeds s (padBytes n)).T (n + (padBytes n).length) := ⟨_, rfl⟩
        have hfo := feeds_ok (padBytes n) HS.out
        have hRs : R.size = 73 := by rw [hR]; exact stRow_size hfo.h hfo.t
        have hRo : R.all (·.oneCell') = true := by rw [hR]; exact stRow_one
        have hcall : Calls Tryd.prog 43 #[.agg C, .slice (some ⟨w.heap.size + 1 + 1, 0, none⟩) (q + 8) 72] wr.drew fun e w' => e = .returned (.agg R) ∧ Below wr.drew.heap.size wr.drew w' := by
          have hsl : Sl wr.drew (.slice (some ⟨w.heap.size + 1 + 1, 0, none⟩) (q + 8) 72) (padBytes n) := by
            refine ⟨_, _, by rw [hpl], by rw [hpl]; omega, fun _ => ⟨_, _, rfl, hI.p.lt, fun i hi => ?_⟩⟩
            rw [hpl] at hi
            have e := At.cell (w := wr.drew) hI.p (0 + i)
            rw [show w.heap.size + 1 + 1 = w.heap.size + 2 from rfl, e, Nat.zero_add, List.getElem?_toArray, u8s_get _ i (by rw [padRow_length]; omega), padBytes, ← HQ.out]
            simp [List.getD_eq_getElem?_getD, hi]
          have := HWR.out wr.drew _ hsl (HLT.out.below hI.b.drew (Nat.le_refl _))
          rw [hR]; exact this
        have HI := Lib.hid hI; have HR := Lib.hid hR; have HRS := Lib.hid hRs; have HRO := Lib.hid hRo; have HCALL := Lib.hid hcall; have HPL := Lib.hid hpl
        clear hI hR hRs hRo hcall hpl hfo hj8 hj hlt
        go_wp2_with fail
        refine wp_region_quiet_tail 4 (by kernel_rfl) (by kernel_rfl) ?_
        simp only [List.take_succ_cons, List.take_zero, List.drop_succ_cons, List.drop_zero]
        refine wpQuiet_load_all (by rfl) 55 _ (by rfl) w.heap.size (by rfl) _ Tryd.underlying55 (by rfl) C 55 (fun w' e => by rw [e]; exact HI.out.c) (by rw [HSZ.out]; exact infoSt) ?_
        simp only [Act.put, List.setIfInBounds_toArray, List.set_cons_zero, List.set_cons_succ]
        repeat (go_big_quiet_step (fail))
        refine wpQuiet_slice_arr_to (by rfl) 78 _ _ (by rfl) 72 5 Tryd.underlying78 infoB (w.heap.size + 1 + 1) 0 (q + 8) (by rfl) (by rfl) (by omega) ?_
        simp only [Act.put, List.setIfInBounds_toArray, List.set_cons_zero, List.set_cons_succ]
        refine wpQuiet_nil ?_
        go_wp2_with (first | (go_at_call 43; refine HCALL.out.mono ?_; rintro e w9 ⟨rfl, hb9⟩; have z9 := (At.drew HI.out.z).below hb9 HI.out.z.lt; have Z9 := Lib.hid z9; have HB9 := Lib.hid hb9; clear z9 hb9) | (refine wpList_store_all (by rfl) 55 _ _ (by rfl) (by rfl) (w.heap.size + 1) R (by rfl) (by rfl) (by rw [HRS.out]; exact infoSt) _ _ Z9.out (by rw [HRS.out, Zst_size]) HRO.out ?_))
        try simp only [Exit.inBlock, Exit.then]
        refine ret_row (by rfl) (w.heap.size + 1) 55 R _ (by rfl) (Z9.out.row R) Tryd.underlying55 (by rfl) (by rw [HRS.out]; exact infoSt) ?_
        have hlt9 : w.heap.size ≤ wr.heap.size := HI.out.b.size
        exact ⟨by rw [HR.out], below_row (HI.out.b.drew.trans (HB9.out.mono hlt9)) (by omega) R⟩
  · obtain ⟨d, hd⟩ : ∃ d : Int, d = 56 - (t : Int) := ⟨_, rfl⟩
    have hr : (56 : Int) - (t : Int) = d := hd.symm
    have hr3 : d + 64 = (q : Int) := by rw [hqt, padQ, if_neg h56, hd]; omega
    have hr2 : d < 1 := by omega
    have hr1 : decide (d < 1) = true := by simp; omega
    have hr4 : -8 < d := by omega
    clear hqt h56 hd
    go_enter Tryd.func44, Tryd.ntmps44
    go_wp2_with (first | (refine wpList_load_all (by rfl) 55 _ (by rfl) _ (by rfl) _ Tryd.underlying55 (by rfl) _ _ AC.out (by rw [HSZ.out]; exact infoSt) ?_) | (go_at_call 51; refine (TS.out _).mono ?_; rintro e w2 ⟨rfl, hb2⟩; have a2 := AC.out.below hb2 (by rw [S1.out]; omega); have c72 := (a2.cell 72).trans H72.out; have A2 := Lib.hid a2; have HB2 := Lib.hid hb2; clear a2 hb2))
    have hI0 : PInv w.heap.size C P0 w w2 := by
      have hb2 := HB2.out
      rw [S1.out] at hb2
      refine ⟨A2.out, ?_, ?_, B1.out.trans (hb2.mono (by omega))⟩
      · rw [← HZ.out]; exact AZ.out.below hb2 (by omega)
      · have := AX.out.below hb2 (by omega)
        rw [HX.out, Z72_set] at this
        exact this
    have HI0 := Lib.hid hI0
    clear hI0 c72 hz hx X0
    go_loopw [6, 18] (fun _ i wr => ∃ j : Nat, j ≤ 8 ∧ i = .int .i64 j ∧ PInv w.heap.size C (padRow q (n * 8) j) w wr) (fun _ i _ => 8 - (intOf i).toNat)
    case atStart => exact ⟨0, by omega, rfl, HI0.out⟩
    case round =>
      obtain ⟨j, hj, rfl, hI⟩ := hrel
      by_cases hlt : j < 8
      · have ca : ∃ o, wr.cell? ⟨w.heap.size + 1 + 1, q + j, none⟩ = some (.int .u8 o) := by
          refine ⟨(((padRow q (n * 8) j).getD (q + j) 0).toNat : Int), ?_⟩
          rw [show w.heap.size + 1 + 1 = w.heap.size + 2 from rfl, hI.p.cell, List.getElem?_toArray]
          exact u8s_get _ _ (by rw [padRow_length]; omega)
        obtain ⟨o, ca⟩ := ca
        have fa : wr.frozen? ⟨w.heap.size + 1 + 1, q + j, none⟩ = false := hI.p.free _
        have HI := Lib.hid hI
        clear hI
        go_wp2_with fail
        go_roundw
        case rel =>
          refine ⟨j + 1, by omega, by go_num, ?_⟩
          rw [lenByte_val]
          have hI := HI.out
          have hp := hI.p.set (q + j) (.int .u8 ((lenByte (n * 8) j).toNat : Int))
          rw [u8s_set] at hp
          exact ⟨hI.c.set_other _ _ (by simp; omega), hI.z.set_other _ _ (by simp), hp, hI.b.setCell (by simp; omega) _⟩
        case measure => simp [intOf]; omega
      · have hj8 : j = 8 := by omega
        rw [hj8] at hI
        have hge : ¬ (j : Int) < 8 := by omega
        have hpl : (padBytes n).length = q + 8 := by rw [padBytes_length, HQ.out]
        have hqs : IntKind.i64.wrap ((q : Int) + 8) = (q : Int) + 8 := by rw [IntWalk.i64_in _ (by omega)]
        obtain ⟨R, hR⟩ : ∃ R, R = stRow (feeds s (padBytes n)).H (feeds s (padBytes n)).T (n + (padBytes n).length) := ⟨_, rfl⟩
        have hfo := feeds_ok (padBytes n) HS.out
        have hRs : R.size = 73 := by rw [hR]; exact stRow_size hfo.h hfo.t
        have hRo : R.all (·.oneCell') = true := by rw [hR]; exact stRow_one
        have hcall : Calls Tryd.prog 43 #[.agg C, .slice (some ⟨w.heap.size + 1 + 1, 0, none⟩) (q + 8) 72] wr.drew fun e w' => e = .returned (.agg R) ∧ Below wr.drew.heap.size wr.drew w' := by
          have hsl : Sl wr.drew (.slice (some ⟨w.heap.size + 1 + 1, 0, none⟩) (q + 8) 72) (padBytes n) := by
            refine ⟨_, _, by rw [hpl], by rw [hpl]; omega, fun _ => ⟨_, _, rfl, hI.p.lt, fun i hi => ?_⟩⟩
            rw [hpl] at hi
            have e := At.cell (w := wr.drew) hI.p (0 + i)
            rw [show w.heap.size + 1 + 1 = w.heap.size + 2 from rfl, e, Nat.zero_add, List.getElem?_toArray, u8s_get _ i (by rw [padRow_length]; omega), padBytes, ← HQ.out]
            simp [List.getD_eq_getElem?_getD, hi]
          have := HWR.out wr.drew _ hsl (HLT.out.below hI.b.drew (Nat.le_refl _))
          rw [hR]; exact this
        have HI := Lib.hid hI; have HR := Lib.hid hR; have HRS := Lib.hid hRs; have HRO := Lib.hid hRo; have HCALL := Lib.hid hcall; have HPL := Lib.hid hpl
        clear hI hR hRs hRo hcall hpl hfo hj8 hj hlt
        go_wp2_with fail
        refine wp_region_quiet_tail 4 (by kernel_rfl) (by kernel_rfl) ?_
        simp only [List.take_succ_cons, List.take_zero, List.drop_succ_cons, List.drop_zero]
        refine wpQuiet_load_all (by rfl) 55 _ (by rfl) w.heap.size (by rfl) _ Tryd.underlying55 (by rfl) C 55 (fun w' e => by rw [e]; exact HI.out.c) (by rw [HSZ.out]; exact infoSt) ?_
        simp only [Act.put, List.setIfInBounds_toArray, List.set_cons_zero, List.set_cons_succ]
        repeat (go_big_quiet_step (fail))
        refine wpQuiet_slice_arr_to (by rfl) 78 _ _ (by rfl) 72 5 Tryd.underlying78 infoB (w.heap.size + 1 + 1) 0 (q + 8) (by rfl) (by rfl) (by omega) ?_
        simp only [Act.put, List.setIfInBounds_toArray, List.set_cons_zero, List.set_cons_succ]
        refine wpQuiet_nil ?_
        go_wp2_with (first | (go_at_call 43; refine HCALL.out.mono ?_; rintro e w9 ⟨rfl, hb9⟩; have z9 := (At.drew HI.out.z).below hb9 HI.out.z.lt; have Z9 := Lib.hid z9; have HB9 := Lib.hid hb9; clear z9 hb9) | (refine wpList_store_all (by rfl) 55 _ _ (by rfl) (by rfl) (w.heap.size + 1) R (by rfl) (by rfl) (by rw [HRS.out]; exact infoSt) _ _ Z9.out (by rw [HRS.out, Zst_size]) HRO.out ?_))
        try simp only [Exit.inBlock, Exit.then]
        refine ret_row (by rfl) (w.heap.size + 1) 55 R _ (by rfl) (Z9.out.row R) Tryd.underlying55 (by rfl) (by rw [HRS.out]; exact infoSt) ?_
        have hlt9 : w.heap.size ≤ wr.heap.size := HI.out.b.size
        exact ⟨by rw [HR.out], below_row (HI.out.b.drew.trans (HB9.out.mono hlt9)) (by omega) R⟩
end Sha
end Go.Proofs.YtngegegomkclbaaDoor
