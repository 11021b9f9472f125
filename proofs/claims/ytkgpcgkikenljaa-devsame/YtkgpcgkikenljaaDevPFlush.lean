/- Package dev: Flush: its walk. -/
import Derived.Test.YtkgpcgkikenljaaDevPMem
namespace Go.Proofs.Ytkgpcgkikenljaa
namespace Sha
open Go.RowKit Mem
/-- What holds of the store while writes come. -/
structure FInv (F D : Foot) (br bb : Nat) (w : World) (s : St6) (vw vs vt : Value) (b : List (BitVec 8)) (wr : World) : Prop where
  v : PV F D br bb wr { s with b := b } vw vs vt
  c : Chg F w wr
theorem FInv.below {F D : Foot} {br bb : Nat} {w wr w' : World} {s : St6} {vw vs vt : Value} {b : List (BitVec 8)} (h : FInv F D br bb w s vw vs vt b wr) (hb : Below wr.heap.size wr w') : FInv F D br bb w s vw vs vt b w' :=
  ⟨h.v.below hb, h.c.trans (F1 := fun _ => False) (Chg.of_below hb) fun _ h => h.elim⟩
theorem FInv.set {F D : Foot} {br bb : Nat} {w wr w' : World} {s : St6} {vw vs vt : Value} {b b' : List (BitVec 8)} (h : FInv F D br bb w s vw vs vt b wr) (hl : b'.length = s.n * 256) (hA : At w' bb (u8s b').toArray 5) (hs : wr.heap.size ≤ w'.heap.size) (ho : ∀ k, k ≠ bb → w'.heap[k]? = wr.heap[k]?)
    (hk : ∀ B a, Below B a wr → B ≤ bb → Below B a w') : FInv F D br bb w s vw vs vt b' w' := by
  have hb0 := hk 0 wr (Below.refl _ _) (Nat.zero_le _)
  refine ⟨pv_bytes (s := { s with b := b }) h.v hl hA hs fun k _ hne => ho k hne, h.c.trans (F1 := fun k => k = bb) ⟨hb0.os, hb0.tape, hb0.output, hs, fun k _ hne => ho k hne⟩ fun k hk => .inl (hk ▸ h.v.m.fb)⟩
set_option maxRecDepth 100000 in
set_option maxHeartbeats 4000000 in
theorem pflush_any {F : Foot} {br : Nat} {s : St6} (w : World) (hr : PSt F br w s) (hok : Ok6 1000 s) :
    Calls Try.prog 18 #[rq br] w fun e w' => e = .returned (.int .i64 (s.w.length : Int)) ∧ StEnd PSt F br w (stFlush s) w' := by
  obtain ⟨D, bb, vw, vs, vt, hv⟩ := hr
  obtain ⟨aw, capw, rfl⟩ := hv.w_hd
  have hmd := pmade_any br bb s.n (.slice aw s.w.length capw) vs vt w hv.row hok.n2 hok.n1
  have hlen := fun j h => flushTo_length hok.wf hok.b j h
  have hwf := hok.wf
  have hn2 := hok.n2
  have hm1 := hok.w
  have htl := hok.t
  obtain ⟨N, hN⟩ : ∃ N, N = s.n := ⟨_, rfl⟩
  obtain ⟨M, hM⟩ : ∃ M, M = s.w.length := ⟨_, rfl⟩
  have hrow := hv.row
  rw [← hM] at hv hrow hlen hm1 ⊢
  rw [← hN] at hlen hn2
  have c1 : w.cell? ⟨br, 1, none⟩ = some (.slice aw M capw) := by rw [hrow.cell]; rfl
  have i0 : Hid (FInv F D br bb w s (.slice aw M capw) vs vt (flushTo s.w s.b 0) w) := ⟨hv, Chg.refl _ _⟩
  have MD := Lib.hid hmd; have LEN := Lib.hid hlen; have WF := Lib.hid hwf; have HN := Lib.hid hN; have HM := Lib.hid hM; have HT := Lib.hid htl
  clear hv hrow hlen hwf hN hM hmd hok htl
  go_enter Try.func18, Try.ntmps18
  go_wp2_with fail
  refine MD.out.mono ?_
  rintro o w' ⟨rfl, rfl⟩
  go_wp2_with fail
  go_loopw [19] (fun i wr => ∃ j : Nat, j ≤ M ∧ i = .int .i64 j ∧ FInv F D br bb w s (.slice aw M capw) vs vt (flushTo s.w s.b j) wr) (fun i _ => M - (intOf i).toNat)
  case atStart => exact ⟨0, by omega, rfl, i0.out⟩
  case round =>
    clear i0 c1
    obtain ⟨j, hj, rfl, hI⟩ := hrel
    by_cases hlt : j < M
    · have hlt' : (j : Int) < (M : Int) := by omega
      have hbl := LEN.out j (by omega)
      have hbl2 := LEN.out (j + 1) (by omega)
      have hst : flushTo s.w s.b (j + 1) = laidL (flushTo s.w s.b j) ((s.w.getD j (0, [])).1 * 256) (s.w.getD j (0, [])).2 := rfl
      obtain ⟨wf1, wf2⟩ := WF.out j (by rw [← HM.out]; exact hlt)
      obtain ⟨b1, o1, vh, e1, cn0, ch0, hsh0⟩ := pw_at hI.v.m (j := j) (by show j < s.w.length; rw [← HM.out]; exact hlt)
      obtain ⟨x, hx⟩ : ∃ x, x = (s.w.getD j (0, [])).2 := ⟨_, rfl⟩
      obtain ⟨q, hq⟩ : ∃ q, q = (s.w.getD j (0, [])).1 := ⟨_, rfl⟩
      have cn : wr.cell? ⟨b1, o1 + j * 2, none⟩ = some (.int .i64 (q : Int)) := by rw [hq]; exact cn0
      have hsh : SlB D wr vh x := by rw [hx]; exact hsh0
      clear cn0 hsh0
      rw [← hx] at wf2 hst
      rw [← hq] at wf1 hst
      obtain ⟨a3, cap3, rfl⟩ := hsh.hd
      rw [wf2] at ch0
      have ch : wr.cell? ⟨b1, o1 + j * 2 + 1, none⟩ = some (.slice a3 256 cap3) := ch0
      clear ch0
      have b3 : Below wr.heap.size wr (wr.alloc (.cells (wRow q (.slice a3 256 cap3)) 80)) := (Below.refl _ _).alloc (Nat.le_refl _) _
      have A3 := Lib.hid (at_new wr (wRow q (.slice a3 256 cap3)) 80)
      have I3 := Lib.hid (hI.below b3)
      have S3 : Hid (Sl (wr.alloc (.cells (wRow q (.slice a3 256 cap3)) 80)) (.slice a3 256 cap3) x) := by have h := hsh.sl.below b3; rw [wf2] at h; exact h
      have NE : Hid (wr.heap.size ≠ bb) := by have h := hI.v.m.by8.lt; intro e; omega
      have ST := Lib.hid hst; have BL := Lib.hid hbl; have BL2 := Lib.hid hbl2; have XL := Lib.hid wf2
      subst e1
      clear hI hst hsh b3 hbl hbl2 wf2 hx hq
      go_wp2_with (refine wpList_store_new (by rfl) 80 _ _ (by rfl) (by rfl) (wRow q (.slice a3 256 cap3)) _ _ (by rfl) (by rfl) (by exact infoW2) (by rfl) (wRow_one _ _ _ _) ?_; clear cn ch; generalize wr.alloc (.cells (wRow q (.slice a3 256 cap3)) 80) = w3 at *; generalize wr.heap.size = bx at *)
      have hdr : w3.drew.heap = w3.heap := rfl
      have IR : Hid (At w3.drew br (pRow bb N (.slice (some ⟨b1, o1, none⟩) M capw) vs vt) 62) := by have h := I3.out.v.row; rw [HN.out]; exact h
      have BK := Lib.hid (pblk_any br bb N q (.slice (some ⟨b1, o1, none⟩) M capw) vs vt w3.drew IR.out hn2 (by rw [HN.out]; exact wf1))
      have SD : Hid (Sl w3.drew (.slice a3 256 cap3) x) := S3.out.below (Below.refl _ _).drew
      have ID := Lib.hid (I3.out.below (Below.refl _ _).drew)
      clear IR S3 I3 hdr
      refine wp_region_plan_in (fun w' => At w' bx (wRow q (.slice a3 256 cap3)) 80) (.take 0 (.take 1 (.take 2 (.take 4 (.take 5 (.sole 3 (.sole 6 .done))))))) (by kernel_rfl) (by kernel_rfl) (by kernel_rfl) A3.out.drew ?_
      (first | (refine plan_move _ _ (by rfl) (by rfl) (.inl (by rfl)) (by first | (with_reducible exact Mem.ev_const _ _) | (with_reducible exact Mem.ev_zero _ _ _) | (with_reducible (apply Eq.trans (Mem.ev_tmp _ _ _)); simp only [List.getD_cons_succ, List.getD_cons_zero] <;> rfl)) ?_) | (refine plan_move _ _ (by rfl) (by rfl) (.inr (by rfl)) (by first | (with_reducible exact Mem.ev_const _ _) | (with_reducible exact Mem.ev_zero _ _ _) | (with_reducible (apply Eq.trans (Mem.ev_tmp _ _ _)); simp only [List.getD_cons_succ, List.getD_cons_zero] <;> rfl)) ?_) | (refine plan_pick_t _ _ _ _ (by rfl) (by rfl) (by rfl) (by first | (with_reducible exact Mem.ev_const _ _) | (with_reducible exact Mem.ev_zero _ _ _) | (with_reducible (apply Eq.trans (Mem.ev_tmp _ _ _)); simp only [List.getD_cons_succ, List.getD_cons_zero] <;> rfl)) (by first | (with_reducible exact Mem.ev_const _ _) | (with_reducible exact Mem.ev_zero _ _ _) | (with_reducible (apply Eq.trans (Mem.ev_tmp _ _ _)); simp only [List.getD_cons_succ, List.getD_cons_zero] <;> rfl)) ?_) | (refine plan_pick_f _ _ _ _ (by rfl) (by rfl) (by rfl) (by first | (with_reducible exact Mem.ev_const _ _) | (with_reducible exact Mem.ev_zero _ _ _) | (with_reducible (apply Eq.trans (Mem.ev_tmp _ _ _)); simp only [List.getD_cons_succ, List.getD_cons_zero] <;> rfl)) (by first | (with_reducible exact Mem.ev_const _ _) | (with_reducible exact Mem.ev_zero _ _ _) | (with_reducible (apply Eq.trans (Mem.ev_tmp _ _ _)); simp only [List.getD_cons_succ, List.getD_cons_zero] <;> rfl)) ?_))
      (simp only [Act.put, List.setIfInBounds_toArray, List.set_cons_zero, List.set_cons_succ])
      refine plan_field 80 _ 0 bx 0 ⟨bx, 0, none⟩ (by rfl) (by rfl) (by rfl) (by first | (with_reducible exact Mem.ev_const _ _) | (with_reducible exact Mem.ev_zero _ _ _) | (with_reducible (apply Eq.trans (Mem.ev_tmp _ _ _)); simp only [List.getD_cons_succ, List.getD_cons_zero] <;> rfl)) (fun wx => by go_simp) ?_
      (simp only [Act.put, List.setIfInBounds_toArray, List.set_cons_zero, List.set_cons_succ])
      refine plan_cell 3 _ _ (.int .i64 (q : Int)) _ (by rfl) (by rfl) (by rfl) (by first | (with_reducible exact Mem.ev_const _ _) | (with_reducible exact Mem.ev_zero _ _ _) | (with_reducible (apply Eq.trans (Mem.ev_tmp _ _ _)); simp only [List.getD_cons_succ, List.getD_cons_zero] <;> rfl)) (fun w' hw' => (by rw [hw'.cell]; rfl)) Try.underlying3 (by rfl) ?_
      (simp only [Act.put, List.setIfInBounds_toArray, List.set_cons_zero, List.set_cons_succ])
      refine plan_field 80 _ 1 bx 0 ⟨bx, 1, none⟩ (by rfl) (by rfl) (by rfl) (by first | (with_reducible exact Mem.ev_const _ _) | (with_reducible exact Mem.ev_zero _ _ _) | (with_reducible (apply Eq.trans (Mem.ev_tmp _ _ _)); simp only [List.getD_cons_succ, List.getD_cons_zero] <;> rfl)) (fun wx => by go_simp) ?_
      (simp only [Act.put, List.setIfInBounds_toArray, List.set_cons_zero, List.set_cons_succ])
      refine plan_cell 27 _ _ (.slice a3 256 cap3) _ (by rfl) (by rfl) (by rfl) (by first | (with_reducible exact Mem.ev_const _ _) | (with_reducible exact Mem.ev_zero _ _ _) | (with_reducible (apply Eq.trans (Mem.ev_tmp _ _ _)); simp only [List.getD_cons_succ, List.getD_cons_zero] <;> rfl)) (fun w' hw' => (by rw [hw'.cell]; rfl)) Try.underlying27 (by rfl) ?_
      (simp only [Act.put, List.setIfInBounds_toArray, List.set_cons_zero, List.set_cons_succ])
      refine plan_call 37 _ _ _ (by kernel_rfl) (by rfl) (by rfl) (by rfl) (by first | exact Mem.ev_none _ | (simp only [List.map_toArray, List.map_cons, List.map_nil, Mem.ev_tmp, List.getD_cons_succ, List.getD_cons_zero] <;> rfl)) ?_
      refine BK.out.mono ?_
      rintro o w5 ⟨rfl, rfl⟩
      refine ⟨_, rfl, A3.out.drew, ?_⟩
      (simp only [Act.put, List.setIfInBounds_toArray, List.set_cons_zero, List.set_cons_succ])
      refine plan_copy_sl _ _ (by rfl) (by rfl) (by rfl) bb (q * 256) 256 (N * 256 - q * 256) (.slice a3 256 cap3) x (flushTo s.w s.b j) (by first | (with_reducible exact Mem.ev_const _ _) | (with_reducible exact Mem.ev_zero _ _ _) | (with_reducible (apply Eq.trans (Mem.ev_tmp _ _ _)); simp only [List.getD_cons_succ, List.getD_cons_zero] <;> rfl)) (by first | (with_reducible exact Mem.ev_const _ _) | (with_reducible exact Mem.ev_zero _ _ _) | (with_reducible (apply Eq.trans (Mem.ev_tmp _ _ _)); simp only [List.getD_cons_succ, List.getD_cons_zero] <;> rfl)) SD.out (by intro e; have h := XL.out; rw [e] at h; simp at h) (by rw [XL.out]; omega) ID.out.v.m.by8 (by have h := HN.out; rw [XL.out, BL.out]; omega) ?_
      intro w9 ha hs9 ho hk
      have I9 : Hid (FInv F D br bb w s (.slice (some ⟨b1, o1, none⟩) M capw) vs vt (flushTo s.w s.b (j + 1)) w9) := ID.out.set (by rw [BL2.out, HN.out]) (by rw [ST.out]; exact ha) (by omega) ho hk
      refine ⟨(by have h := A3.out.drew; have hne := NE.out; unfold At at *; rw [ho bx hne]; exact h), ?_⟩
      clear ha hs9 ho hk
      (simp only [Act.put, List.setIfInBounds_toArray, List.set_cons_zero, List.set_cons_succ])
      refine plan_nil ?_
      go_wp2_with fail
      go_roundw
      case rel => exact ⟨j + 1, by omega, by go_num, I9.out⟩
      case measure => simp [intOf]; omega
    · have hge : ¬ (j : Int) < (M : Int) := by omega
      have hjm : j = M := by omega
      subst hjm
      have hrow : At wr br (pRow bb N (.slice aw j capw) vs vt) 62 := by have h := hI.v.row; rw [HN.out]; exact h
      have HR := Lib.hid hrow; have HI := Lib.hid hI
      clear hrow hI hlt LEN WF MD
      go_wp2_with (refine Mem.wpList_store_one (by rfl) 60 _ _ (by rfl) (by rfl) br 1 (.slice none 0 0) (by rfl) (by rfl) (by rfl) infoWs _ 62 HR.out (by simp [pRow]) ?_; intro w8 ha ho hk; have R8 := Lib.hid (pv_nowait (N := N) HI.out.v HN.out (by exact ha) ho hk); clear ha ho hk)
      refine (pnote_any (-1) w8 R8.out.1.ps (by have := HT.out; show s.t.length ≤ 1001; omega)).mono ?_
      rintro o w9 ⟨rfl, hs9⟩
      have S9 := Lib.hid hs9
      clear hs9
      go_wp2_with fail
      go_ret
      have hc := HI.out.c.trans R8.out.2 fun k hk => .inl hk
      have h9 := StEnd.trans hc (fun k hk => (grow_ext k hk).imp id fun h => Nat.le_trans HI.out.c.size h) S9.out
      rw [HM.out] at h9
      exact ⟨rfl, h9⟩
end Sha
end Go.Proofs.Ytkgpcgkikenljaa
