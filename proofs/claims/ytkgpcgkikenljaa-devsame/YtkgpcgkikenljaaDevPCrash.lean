/- Package dev: Crash: its walk. -/
import Derived.Test.YtkgpcgkikenljaaDevPFlush
namespace Go.Proofs.Ytkgpcgkikenljaa
namespace Sha
open Go.RowKit Mem
set_option maxRecDepth 100000 in
set_option maxHeartbeats 4000000 in
theorem pcrash_any {F : Foot} {br : Nat} {s : St6} (keep : Nat) (torn parts : Int) (w : World) (hkp : keep < 18446744073709551616) (hp0 : -9223372036854775808 ≤ parts) (hp1 : parts ≤ 9223372036854775807) (hr : PSt F br w s) (hok : Ok6 1000 s) :
    Calls Try.prog 19 #[rq br, .int .u64 (keep : Int), .int .i64 torn, .int .i64 parts] w fun e w' => e = .returned (.tuple #[]) ∧ StEnd PSt F br w (stCrash s keep torn parts) w' := by
  obtain ⟨D, bb, vw, vs, vt, hv⟩ := hr
  obtain ⟨aw, capw, rfl⟩ := hv.w_hd
  have hmd := pmade_any br bb s.n (.slice aw s.w.length capw) vs vt w hv.row hok.n2 hok.n1
  have hlen := fun j h => crashTo_length keep torn parts hok.wf hok.b j h
  have hwf := hok.wf
  have hn2 := hok.n2
  have hm1 := hok.w
  have hkb := fun j => keepBit_lt keep j hkp
  have hcp4 := cutParts_le parts
  have htz := fun wx => ptorn_any parts wx hp0 hp1
  obtain ⟨CP, hCP⟩ : ∃ CP, CP = cutParts parts := ⟨_, rfl⟩
  rw [← hCP] at hcp4 htz
  obtain ⟨N, hN⟩ : ∃ N, N = s.n := ⟨_, rfl⟩
  obtain ⟨M, hM⟩ : ∃ M, M = s.w.length := ⟨_, rfl⟩
  have hrow := hv.row
  rw [← hM] at hv hrow hlen hm1
  rw [← hN] at hlen hn2
  have c1 : w.cell? ⟨br, 1, none⟩ = some (.slice aw M capw) := by rw [hrow.cell]; rfl
  have i0 : Hid (FInv F D br bb w s (.slice aw M capw) vs vt (crashTo keep torn parts s.w s.b 0) w) := ⟨hv, Chg.refl _ _⟩
  have MD := Lib.hid hmd; have LEN := Lib.hid hlen; have WF := Lib.hid hwf; have HN := Lib.hid hN; have HM := Lib.hid hM; have KB := Lib.hid hkb; have HCP := Lib.hid hCP; have TZ := Lib.hid htz
  clear hv hrow hlen hwf hN hM hmd hok hkb hCP htz
  go_enter Try.func19, Try.ntmps19
  go_wp2_with fail
  refine MD.out.mono ?_
  rintro o w' ⟨rfl, rfl⟩
  go_wp2_with fail
  go_loopw [19] (fun i wr => ∃ j : Nat, j ≤ M ∧ i = .int .i64 j ∧ FInv F D br bb w s (.slice aw M capw) vs vt (crashTo keep torn parts s.w s.b j) wr) (fun i _ => M - (intOf i).toNat)
  case atStart => exact ⟨0, by omega, rfl, i0.out⟩
  case round =>
    clear i0 c1
    obtain ⟨j, hj, rfl, hI⟩ := hrel
    by_cases hlt : j < M
    · have hlt' : (j : Int) < (M : Int) := by omega
      have hbl := LEN.out j (by omega)
      have hbl2 := LEN.out (j + 1) (by omega)
      have hst : crashTo keep torn parts s.w s.b (j + 1) = if keepBit keep j % 2 = 0 then crashTo keep torn parts s.w s.b j else laidL (crashTo keep torn parts s.w s.b j) ((s.w.getD j (0, [])).1 * 256) (crashX torn parts j (s.w.getD j (0, [])).2) := rfl
      obtain ⟨wf1, wf2⟩ := WF.out j (by rw [← HM.out]; exact hlt)
      obtain ⟨b1, o1, vh, e1, cn0, ch0, hsh0⟩ := pw_at hI.v.m (j := j) (by show j < s.w.length; rw [← HM.out]; exact hlt)
      obtain ⟨x, hx⟩ : ∃ x, x = (s.w.getD j (0, [])).2 := ⟨_, rfl⟩
      obtain ⟨q, hq⟩ : ∃ q, q = (s.w.getD j (0, [])).1 := ⟨_, rfl⟩
      have cn : wr.cell? ⟨b1, o1 + j * 2, none⟩ = some (.int .i64 (q : Int)) := by rw [hq]; exact cn0
      have hsh : SlB D wr vh x := by rw [hx]; exact hsh0
      clear cn0 hsh0
      rw [← hx] at wf2 hst
      rw [← hq] at wf1 hst
      obtain ⟨a3, cap3, rfl⟩ := hsh.hd
      rw [wf2] at ch0
      have ch : wr.cell? ⟨b1, o1 + j * 2 + 1, none⟩ = some (.slice a3 256 cap3) := ch0
      clear ch0
      have b3 : Below wr.heap.size wr (wr.alloc (.cells (wRow q (.slice a3 256 cap3)) 80)) := (Below.refl _ _).alloc (Nat.le_refl _) _
      have A3 := Lib.hid (at_new wr (wRow q (.slice a3 256 cap3)) 80)
      have I3 := Lib.hid (hI.below b3)
      have S3 : Hid (Sl (wr.alloc (.cells (wRow q (.slice a3 256 cap3)) 80)) (.slice a3 256 cap3) x) := by have h := hsh.sl.below b3; rw [wf2] at h; exact h
      have hjm : (j : Int) % 64 = ((j % 64 : Nat) : Int) := by omega
      have hshr := fun (t t2 : TypeId) (x y : Operand) wx => o_shr64 (P := Try.prog) t t2 x y keep (j % 64) ((j : Int) % 64) hjm (by omega) hkp wx
      obtain ⟨q2, hq2⟩ : ∃ q2, q2 = keepBit keep j := ⟨_, rfl⟩
      have hq2' : keep / 2 ^ (j % 64) = q2 := hq2.symm
      rw [hq2'] at hshr
      rw [← hq2] at hst
      have hq64 := KB.out j
      rw [← hq2] at hq64
      have hand := fun (t t2 : TypeId) (x y : Operand) wx => o_and1 (P := Try.prog) t t2 x y q2 hq64 wx
      have ST := Lib.hid hst; have BL := Lib.hid hbl; have BL2 := Lib.hid hbl2; have XL := Lib.hid wf2; have SHR := Lib.hid hshr; have AND := Lib.hid hand
      subst e1
      clear hI hst hsh b3 hbl hbl2 wf2 hx hq hshr hand hq2 hq2' hjm
      by_cases hz : q2 % 2 = 0
      · have hz' : (q2 : Int) % 2 = 0 := by omega
        have I4 : Hid (FInv F D br bb w s (.slice (some ⟨b1, o1, none⟩) M capw) vs vt (crashTo keep torn parts s.w s.b (j + 1)) (wr.alloc (.cells (wRow q (.slice a3 256 cap3)) 80))) := by rw [ST.out, if_pos hz]; exact I3.out
        clear hz
        go_wp2_with (first
          | (refine wpList_store_new (by rfl) 80 _ _ (by rfl) (by rfl) (wRow q (.slice a3 256 cap3)) _ _ (by rfl) (by rfl) (by exact infoW2) (by rfl) (wRow_one _ _ _ _) ?_; clear cn ch; generalize wr.alloc (.cells (wRow q (.slice a3 256 cap3)) 80) = w3 at *; generalize wr.heap.size = bx at *)
          | (refine wpList_bin (by rfl) .shr _ _ _ _ _ _ _ (by rfl) (by rfl) (by rfl) (fun wx => SHR.out _ _ _ _ wx) ?_)
          | (refine wpList_bin (by rfl) .and _ _ _ _ _ _ _ (by rfl) (by rfl) (by rfl) (fun wx => AND.out _ _ _ _ wx) ?_))
        go_roundw
        case rel => exact ⟨j + 1, by omega, by go_num, I4.out⟩
        case measure => simp [intOf]; omega
      · have hz' : (q2 : Int) % 2 = 1 := by omega
        have st2 : crashTo keep torn parts s.w s.b (j + 1) = laidL (crashTo keep torn parts s.w s.b j) (q * 256) (crashX torn parts j x) := by rw [ST.out, if_neg hz]
        have ST2 := Lib.hid st2
        have A4 := Lib.hid (I3.out.v.row)
        have BK : Hid (Calls Try.prog 37 #[rq br, .int .i64 (q : Int)] (wr.alloc (.cells (wRow q (.slice a3 256 cap3)) 80)) fun e w' => e = .returned (.slice (some ⟨bb, q * 256, none⟩) 256 (N * 256 - q * 256)) ∧ wr.alloc (.cells (wRow q (.slice a3 256 cap3)) 80) = w') :=
          pblk_any br bb N q (.slice (some ⟨b1, o1, none⟩) M capw) vs vt _ (by have h := I3.out.v.row; rw [HN.out]; exact h) hn2 (by rw [HN.out]; exact wf1)
        have a31 : (wr.alloc (.cells (wRow q (.slice a3 256 cap3)) 80)).cell? ⟨wr.heap.size, 0, none⟩ = some (.int .i64 (q : Int)) := by rw [A3.out.cell]; rfl
        have a32 : (wr.alloc (.cells (wRow q (.slice a3 256 cap3)) 80)).cell? ⟨wr.heap.size, 1, none⟩ = some (.slice a3 256 cap3) := by rw [A3.out.cell]; rfl
        clear hz ST st2
        have xk := crashX_length torn parts j x XL.out
        have XK := Lib.hid xk
        clear xk
        by_cases ht : (j : Int) = torn
        · subst ht
          have xx : crashX (j : Int) parts j x = x.take (64 * CP) := by unfold crashX; rw [if_pos rfl, HCP.out]
          have xs : Sl (wr.alloc (.cells (wRow q (.slice a3 256 cap3)) 80)) (.slice (pieceA a3 cap3 0) (64 * CP) cap3) (crashX (j : Int) parts j x) := by rw [xx]; exact sl_to S3.out XL.out.symm (by omega)
          have XS := Lib.hid xs
          clear xx xs
          go_wp2_with (first
            | (refine wpList_store_new (by rfl) 80 _ _ (by rfl) (by rfl) (wRow q (.slice a3 256 cap3)) _ _ (by rfl) (by rfl) (by exact infoW2) (by rfl) (wRow_one _ _ _ _) ?_; clear cn ch; generalize wr.alloc (.cells (wRow q (.slice a3 256 cap3)) 80) = w3 at *; generalize wr.heap.size = bx at *)
            | (refine wpList_bin (by rfl) .shr _ _ _ _ _ _ _ (by rfl) (by rfl) (by rfl) (fun wx => SHR.out _ _ _ _ wx) ?_)
            | (refine wpList_bin (by rfl) .and _ _ _ _ _ _ _ (by rfl) (by rfl) (by rfl) (fun wx => AND.out _ _ _ _ wx) ?_))
          refine (TZ.out _).mono ?_
          rintro o w' ⟨rfl, rfl⟩
          go_wp2_with (refine wpList_piece_to (by rfl) 27 _ _ (by rfl) Try.underlying27 a3 256 cap3 (64 * CP) x XL.out (by rfl) S3.out (by rfl) (by omega) ?_; intro _)
          refine BK.out.mono ?_
          rintro o w' ⟨rfl, rfl⟩
          go_wp2_with (refine wpList_copy_laid (by rfl) _ _ (by rfl) bb (q * 256) (q * 256) 256 (N * 256 - q * 256) (.slice (pieceA a3 cap3 0) (64 * CP) cap3) (crashX (j : Int) parts j x) (crashTo keep (j : Int) parts s.w s.b j) (by rfl) (by rfl) XS.out (by have h := XK.out; omega) I3.out.v.m.by8 (by have h := HN.out; have h2 := XK.out; rw [BL.out]; omega) (fun _ => rfl) ?_; intro w9 ha hs9 ho hk; have I9 : Hid (FInv F D br bb w s (.slice (some ⟨b1, o1, none⟩) M capw) vs vt (crashTo keep (j : Int) parts s.w s.b (j + 1)) w9) := I3.out.set (by rw [BL2.out, HN.out]) (by rw [ST2.out]; exact ha) (by omega) ho hk; clear ha hs9 ho hk)
          go_roundw
          case rel => exact ⟨j + 1, by omega, by go_num, I9.out⟩
          case measure => simp [intOf]; omega
        · have xx : crashX torn parts j x = x := by unfold crashX; rw [if_neg ht]
          have xs : Sl (wr.alloc (.cells (wRow q (.slice a3 256 cap3)) 80)) (.slice a3 256 cap3) (crashX torn parts j x) := by rw [xx]; exact S3.out
          have XS := Lib.hid xs
          have XL2 := Lib.hid xx
          clear xx xs
          go_wp2_with (first
            | (refine wpList_store_new (by rfl) 80 _ _ (by rfl) (by rfl) (wRow q (.slice a3 256 cap3)) _ _ (by rfl) (by rfl) (by exact infoW2) (by rfl) (wRow_one _ _ _ _) ?_; clear cn ch; generalize wr.alloc (.cells (wRow q (.slice a3 256 cap3)) 80) = w3 at *; generalize wr.heap.size = bx at *)
            | (refine wpList_bin (by rfl) .shr _ _ _ _ _ _ _ (by rfl) (by rfl) (by rfl) (fun wx => SHR.out _ _ _ _ wx) ?_)
            | (refine wpList_bin (by rfl) .and _ _ _ _ _ _ _ (by rfl) (by rfl) (by rfl) (fun wx => AND.out _ _ _ _ wx) ?_))
          refine BK.out.mono ?_
          rintro o w' ⟨rfl, rfl⟩
          go_wp2_with (refine wpList_copy_laid (by rfl) _ _ (by rfl) bb (q * 256) (q * 256) 256 (N * 256 - q * 256) (.slice a3 256 cap3) (crashX torn parts j x) (crashTo keep torn parts s.w s.b j) (by rfl) (by rfl) XS.out (by have h := XK.out; omega) I3.out.v.m.by8 (by have h := HN.out; have h2 := XK.out; rw [BL.out]; omega) (fun _ => rfl) ?_; intro w9 ha hs9 ho hk; have I9 : Hid (FInv F D br bb w s (.slice (some ⟨b1, o1, none⟩) M capw) vs vt (crashTo keep torn parts s.w s.b (j + 1)) w9) := I3.out.set (by rw [BL2.out, HN.out]) (by rw [ST2.out]; exact ha) (by omega) ho hk; clear ha hs9 ho hk)
          go_roundw
          case rel => exact ⟨j + 1, by omega, by go_num, I9.out⟩
          case measure => simp [intOf]; omega
    · have hge : ¬ (j : Int) < (M : Int) := by omega
      have hjm : j = M := by omega
      subst hjm
      have hrow : At wr br (pRow bb N (.slice aw j capw) vs vt) 62 := by have h := hI.v.row; rw [HN.out]; exact h
      have HR := Lib.hid hrow; have HI := Lib.hid hI
      clear hrow hI hlt LEN WF MD
      go_wp2_with (refine Mem.wpList_store_one (by rfl) 60 _ _ (by rfl) (by rfl) br 1 (.slice none 0 0) (by rfl) (by rfl) (by rfl) infoWs _ 62 HR.out (by simp [pRow]) ?_; intro w8 ha ho hk; have R8 := Lib.hid (pv_nowait (N := N) HI.out.v HN.out (by exact ha) ho hk); clear ha ho hk)
      go_end0
      have h9 := StEnd.trans HI.out.c (fun k hk => .inl hk) (pv_end R8.out.1 R8.out.2)
      rw [HM.out] at h9
      exact ⟨rfl, h9⟩
end Sha
end Go.Proofs.Ytkgpcgkikenljaa
