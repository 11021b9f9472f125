/- The walks of writeAll, Sum of parts, and the check that the digest of three bytes is right. -/
import Derived.Test.YtngegegomkclbaaDoorShaSum
namespace Go.Proofs.YtngegegomkclbaaDoor
namespace Sha
open Go.RowKit Mem

theorem Sl.below {w wr : World} {v : Value} {l : List (BitVec 8)} (h : Sl w v l) (hb : Below w.heap.size w wr) : Sl wr v l := by
  obtain ⟨a, cap, e, hc, hr⟩ := h
  refine ⟨a, cap, e, hc, fun hne => ?_⟩
  obtain ⟨bb, oo, ea, hlt, hcell⟩ := hr hne
  exact ⟨bb, oo, ea, Nat.lt_of_lt_of_le hlt hb.size, fun i hi => by rw [hb.cell (p := ⟨bb, oo + i, none⟩) hlt]; exact hcell i hi⟩
/-- A slice of slices of bytes that reads as ps. -/
def Sls (w : World) (v : Value) (ps : List (List (BitVec 8))) : Prop :=
  ∃ a cap, v = .slice a ps.length cap ∧ ps.length ≤ cap ∧ (ps ≠ [] → ∃ pb po, a = some ⟨pb, po, none⟩ ∧ pb < w.heap.size ∧ ∀ i, i < ps.length → ∃ vi, w.cell? ⟨pb, po + i, none⟩ = some vi ∧ Sl w vi (ps.getD i []))
structure QInv (s : Fed) (n : Nat) (B : Nat) (w wr : World) : Prop where
  c : At wr B (stRow s.H s.T n) 55
  z : At wr (B + 1) Zst 55
  b : Below B w wr
theorem flat_take (ps : List (List (BitVec 8))) (j : Nat) (h : j < ps.length) : (ps.take (j + 1)).flatten = (ps.take j).flatten ++ ps.getD j [] := by
  have e : ps.getD j [] = ps[j] := by simp [h]
  rw [List.take_succ_eq_append_getElem h, e, List.flatten_append]
  simp only [List.flatten_cons, List.flatten_nil, List.append_nil]
theorem flat_take_le (ps : List (List (BitVec 8))) (j : Nat) : (ps.take j).flatten.length ≤ ps.flatten.length := by
  have e : ps.flatten = (ps.take j).flatten ++ (ps.drop j).flatten := by rw [← List.flatten_append, List.take_append_drop]
  rw [e, List.length_append]; omega
theorem feeds_mod (s : Fed) (hs : Ok s) : ∀ (l : List (BitVec 8)) (n : Nat), n % 64 = s.at' → (n + l.length) % 64 = (feeds s l).at'
  | l, n, h => by
    induction l generalizing s n with
    | nil => simpa [feeds] using h
    | cons b l ih =>
      have hf : (n + 1) % 64 = (feed s b).at' := by
        unfold feed
        have := hs.a
        split
        · show _ = 0; omega
        · show _ = s.at' + 1; omega
      have := ih (feed s b) (feed_ok hs b) (n + 1) hf
      rw [feeds, List.foldl_cons]
      rw [feeds] at this
      rw [← this, List.length_cons]; omega
set_option maxRecDepth 100000 in
set_option maxHeartbeats 1000000 in
theorem writeAll_any (s : Fed) (hs : Ok s) (n : Nat) (hn : n % 64 = s.at') (ps : List (List (BitVec 8))) (v : Value) (w : World) (hN : n + ps.flatten.length ≤ 9223372036854775807) (hp : ps.length ≤ 9223372036854775806) (hv : Sls w v ps) (hL : Tabs w) :
    Calls Tryd.prog 31 #[.agg (stRow s.H s.T n), v] w fun e w' => e = .returned (.agg (stRow (feeds s ps.flatten).H (feeds s ps.flatten).T (n + ps.flatten.length))) ∧ Below w.heap.size w w' := by
  obtain ⟨a, cap, rfl, hcap, hcells⟩ := hv
  obtain ⟨RES, hRES⟩ : ∃ RES, RES = stRow (feeds s ps.flatten).H (feeds s ps.flatten).T (n + ps.flatten.length) := ⟨_, rfl⟩
  rw [← hRES]
  have HRES := Lib.hid hRES; clear hRES
  obtain ⟨C, hC⟩ : ∃ C, C = stRow s.H s.T n := ⟨_, rfl⟩
  obtain ⟨Z, hZ⟩ : ∃ Z, Z = Zst := ⟨_, rfl⟩
  obtain ⟨m, hm⟩ : ∃ m, m = ps.length := ⟨_, rfl⟩
  have hz := zeroSt
  rw [← hZ] at hz
  rw [← hm] at hcap hp ⊢
  rw [← hC]
  have i0 : QInv s n w.heap.size w ((w.alloc (.cells C 55)).alloc (.cells Z 55)) := by
    refine ⟨by rw [← hC]; exact (at_new w C _).alloc _, ?_, ((Below.refl _ _).alloc (Nat.le_refl _) _).alloc (by simp) _⟩
    rw [← hZ]
    have := at_new (w.alloc (.cells C 55)) Z 55
    simpa using this
  have HC := Lib.hid hC; have HZ := Lib.hid hZ; have HM := Lib.hid hm; have I0 := Lib.hid i0; have HS := Lib.hid hs; have HL := Lib.hid hL; have HN := Lib.hid hn; have HCE := Lib.hid hcells
  clear hC hZ hm i0 hs hL hn hcells
  go_enter Tryd.func31, Tryd.ntmps31
  go_wp2_with fail
  clear hz
  go_loopw [6, 9] (fun _ i wr => ∃ j : Nat, j ≤ m ∧ i = .int .i64 j ∧ QInv (feeds s (ps.take j).flatten) (n + (ps.take j).flatten.length) w.heap.size w wr) (fun _ i _ => m - (intOf i).toNat)
  case atStart => exact ⟨0, by omega, rfl, by simpa [feeds] using I0.out⟩
  case round =>
    obtain ⟨j, hj, rfl, hI⟩ := hrel
    obtain ⟨F, hF⟩ : ∃ F, F = feeds s (ps.take j).flatten := ⟨_, rfl⟩
    obtain ⟨N, hNN⟩ : ∃ N, N = n + (ps.take j).flatten.length := ⟨_, rfl⟩
    have hok := feeds_ok (ps.take j).flatten HS.out
    have hmd := feeds_mod s HS.out (ps.take j).flatten n HN.out
    rw [← hF, ← hNN] at hI hmd
    rw [← hF] at hok
    obtain ⟨R, hR⟩ : ∃ R, R = stRow F.H F.T N := ⟨_, rfl⟩
    have hc := hI.c
    rw [← hR] at hc
    have hRs : R.size = 73 := by rw [hR]; exact stRow_size hok.h hok.t
    by_cases hlt : j < m
    · obtain ⟨pb, po, ha, hpb, hpc⟩ := HCE.out (by intro e; have := HM.out; rw [e] at this; simp at this; omega)
      subst ha
      obtain ⟨vi, hvi, hsl⟩ := hpc j (by rw [← HM.out]; exact hlt)
      have hsl' := hsl.below hI.b
      have cv : wr.cell? ⟨pb, po + j, none⟩ = some vi := by rw [hI.b.cell (p := ⟨pb, po + j, none⟩) hpb]; exact hvi
      have hft := flat_take ps j (by rw [← HM.out]; exact hlt)
      have hle := flat_take_le ps (j + 1)
      rw [hft, List.length_append] at hle
      have hcall := write_any F hok N hmd (ps.getD j []) vi wr (by omega) hsl' (HL.out.below hI.b (Nat.le_refl _))
      rw [← hR] at hcall
      obtain ⟨E, hE⟩ : ∃ E, E = stRow (feeds F (ps.getD j [])).H (feeds F (ps.getD j [])).T (N + (ps.getD j []).length) := ⟨_, rfl⟩
      rw [← hE] at hcall
      have hok2 := feeds_ok (ps.getD j []) hok
      have hEs : E.size = 73 := by rw [hE]; exact stRow_size hok2.h hok2.t
      have hEo : E.all (·.oneCell') = true := by rw [hE]; exact stRow_one
      have HF := Lib.hid hF; have HNN := Lib.hid hNN; have HR := Lib.hid hR; have HRC := Lib.hid hc; have HRS := Lib.hid hRs; have HCALL := Lib.hid hcall; have HE := Lib.hid hE; have HES := Lib.hid hEs; have HEO := Lib.hid hEo; have HI := Lib.hid hI; have HFT := Lib.hid hft
      clear hF hNN hR hc hRs hcall hE hEs hEo hI hft hok hok2 hmd hpc hsl hsl' hvi hle
      go_wp2_with (first | (refine wpList_load_all (by rfl) 55 _ (by rfl) w.heap.size (by rfl) _ Tryd.underlying55 (by rfl) R _ HRC.out (by rw [HRS.out]; exact infoSt) ?_) | (go_at_call 43; refine HCALL.out.mono ?_; rintro e w5 ⟨rfl, hb5⟩; have c5 := HRC.out.below hb5 HRC.out.lt; have C5 := Lib.hid c5; have HB5 := Lib.hid hb5; clear c5 hb5) | (refine wpList_store_all (by rfl) 55 _ _ (by rfl) (by rfl) w.heap.size E (by rfl) (by rfl) (by rw [HES.out]; exact infoSt) R _ C5.out (by rw [HES.out, HRS.out]) HEO.out ?_))
      go_roundw
      case rel =>
        refine ⟨j + 1, by omega, by go_num, ?_⟩
        rw [HFT.out, feeds_append, ← HF.out, List.length_append, ← Nat.add_assoc, ← HNN.out]
        have z5 := HI.out.z.below HB5.out HI.out.z.lt
        have b5 := HI.out.b.trans (HB5.out.mono HI.out.b.size)
        refine ⟨by rw [← HE.out]; exact C5.out.row E, z5.row_other E (by omega), below_row b5 (Nat.le_refl _) E⟩
      case measure => simp [intOf]; omega
    · have hjm : j = m := by omega
      have hfl : ps.take j = ps := List.take_of_length_le (by rw [hjm, HM.out]; exact Nat.le_refl _)
      rw [hfl] at hF hNN
      have hge : ¬ (j : Int) < (m : Int) := by omega
      have hRo : R.all (·.oneCell') = true := by rw [hR]; exact stRow_one
      have hfin : RES = R := by rw [HRES.out, hR, hF, hNN]
      have HRC := Lib.hid hc; have HRS := Lib.hid hRs; have HRO := Lib.hid hRo; have HFIN := Lib.hid hfin; have HI := Lib.hid hI
      clear hc hRs hRo hfin hI hF hNN hR hok hmd hjm hfl hj hlt
      go_wp2_with (first | (refine wpList_load_all (by rfl) 55 _ (by rfl) w.heap.size (by rfl) _ Tryd.underlying55 (by rfl) R _ HRC.out (by rw [HRS.out]; exact infoSt) ?_) | (refine wpList_store_all (by rfl) 55 _ _ (by rfl) (by rfl) (w.heap.size + 1) R (by rfl) (by rfl) (by rw [HRS.out]; exact infoSt) _ _ HI.out.z (by rw [HRS.out, Zst_size]) HRO.out ?_))
      try simp only [Exit.inBlock, Exit.then]
      refine ret_row (by rfl) (w.heap.size + 1) 55 R _ (by rfl) (HI.out.z.row R) Tryd.underlying55 (by rfl) (by rw [HRS.out]; exact infoSt) ?_
      exact ⟨by rw [HFIN.out], below_row HI.out.b (by omega) R⟩
end Sha
end Go.Proofs.YtngegegomkclbaaDoor
