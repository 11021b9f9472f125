/- The document's store: Crash: its walk. -/
import Derived.Test.YtkgpcgkikenljaaDevFlush
namespace Go.Proofs.Ytkgpcgkikenljaa
namespace Sha
open Go.RowKit Mem
def cutParts (p : Int) : Nat := (min (max p 0) 4).toNat
/-- What comes of a write: the torn one's first parts, all of another one. -/
def crashX (torn parts : Int) (j : Nat) (x : List (BitVec 8)) : List (BitVec 8) := if (j : Int) = torn then x.take (64 * cutParts parts) else x
def keepBit (keep j : Nat) : Nat := keep / 2 ^ (j % 64)
/-- The blocks, when the first so many writes came, or were lost. -/
def crashTo (keep : Nat) (torn parts : Int) (l : List (Nat × List (BitVec 8))) (b : List (BitVec 8)) : Nat → List (BitVec 8)
  | 0 => b
  | j + 1 => if keepBit keep j % 2 = 0 then crashTo keep torn parts l b j else laidL (crashTo keep torn parts l b j) ((l.getD j (0, [])).1 * 256) (crashX torn parts j (l.getD j (0, [])).2)
theorem cutParts_le (p : Int) : cutParts p ≤ 4 := by unfold cutParts; omega
theorem cutParts_val (p : Int) : min (max p 0) 4 = (cutParts p : Int) := by unfold cutParts; omega
theorem crashX_length (torn parts : Int) (j : Nat) (x : List (BitVec 8)) (h : x.length = 256) : (crashX torn parts j x).length ≤ 256 := by
  unfold crashX
  split
  · rw [List.length_take]; omega
  · omega
theorem crashTo_length {n : Nat} {l : List (Nat × List (BitVec 8))} {b : List (BitVec 8)} (keep : Nat) (torn parts : Int) (h : WfP n l) (hb : b.length = n * 256) : ∀ j, j ≤ l.length → (crashTo keep torn parts l b j).length = n * 256
  | 0, _ => hb
  | j + 1, hj => by
    have h1 := crashTo_length keep torn parts h hb j (by omega)
    obtain ⟨h2, h3⟩ := h j (by omega)
    have h4 := crashX_length torn parts j _ h3
    rw [crashTo]
    split
    · exact h1
    · rw [laidL_length _ _ _ (by rw [h1]; omega), h1]
def stCrash (s : St6) (keep : Nat) (torn parts : Int) : St6 := { s with b := crashTo keep torn parts s.w s.b s.w.length, w := [] }
theorem keepBit_lt (keep j : Nat) (h : keep < 18446744073709551616) : keepBit keep j < 18446744073709551616 := Nat.lt_of_le_of_lt (Nat.div_le_self _ _) h
theorem o_shr64 {P : Program} (t t2 : TypeId) (x y : Operand) (a k : Nat) (K : Int) (hK : K = (k : Int)) (_hk : k < 64) (ha : a < 18446744073709551616) (w : World) : (do eqGuard .shr t x y (.int .u64 (a : Int)) (.int .i64 K); binOp .shr t2 (.int .u64 (a : Int)) (.int .i64 K) : Sem Value).run P w = .ok (.int .u64 ((a / 2 ^ k : Nat) : Int)) w := by
  subst hK
  have h0 : a / 2 ^ k < 18446744073709551616 := Nat.lt_of_le_of_lt (Nat.div_le_self _ _) ha
  go_simp
set_option maxRecDepth 100000 in
set_option maxHeartbeats 4000000 in
theorem rcrash_any {F : Foot} {br : Nat} {s : St6} (keep : Nat) (torn parts : Int) (w : World) (hkp : keep < 18446744073709551616) (hr : RSt F br w s) (hb : s.n ≤ 1024) (hl : s.b.length = s.n * 256) (hwf : WfP s.n s.w) (hw : s.w.length ≤ 1000000) :
    Calls Try.prog 29 #[rq br, .int .u64 (keep : Int), .int .i64 torn, .int .i64 parts] w fun e w' => e = .returned (.tuple #[]) ∧ StEnd RSt F br w (stCrash s keep torn parts) w' := by
  obtain ⟨vb0, vw, vs, vt, hv⟩ := hr.v
  obtain ⟨aw, capw, rfl⟩ := hv.four.fw.hd
  have hlen := fun j h => crashTo_length keep torn parts hwf hl j h
  have hkb := fun j => keepBit_lt keep j hkp
  have hcp := cutParts_val parts
  have hcp4 := cutParts_le parts
  obtain ⟨CP, hCP⟩ : ∃ CP, CP = cutParts parts := ⟨_, rfl⟩
  rw [← hCP] at hcp hcp4
  obtain ⟨N, hN⟩ : ∃ N, N = s.n := ⟨_, rfl⟩
  obtain ⟨M, hM⟩ : ∃ M, M = s.w.length := ⟨_, rfl⟩
  have hrow := hv.row
  rw [← hM] at hv hw hrow hlen
  have c2 : w.cell? ⟨br, 2, none⟩ = some (.slice aw M capw) := by rw [hrow.cell]; rfl
  have i0 : Hid (BInv F br w s (.slice aw M capw) vs vt (crashTo keep torn parts s.w s.b 0) w) := ⟨F, vb0, hv, fun k h => .inl h, Chg.refl _ _⟩
  rw [← hN] at hb hlen
  have LEN := Lib.hid hlen; have WF := Lib.hid hwf; have HN := Lib.hid hN; have HM := Lib.hid hM; have KB := Lib.hid hkb; have HCP := Lib.hid hCP
  clear hr hv hrow hlen hwf hN hM hl hkb hCP
  go_enter Try.func29, Try.ntmps29
  go_wp2_with fail
  go_loopw [8] (fun i wr => ∃ j : Nat, j ≤ M ∧ i = .int .i64 j ∧ BInv F br w s (.slice aw M capw) vs vt (crashTo keep torn parts s.w s.b j) wr) (fun i _ => M - (intOf i).toNat)
  case atStart => exact ⟨0, by omega, rfl, i0.out⟩
  case round =>
    clear i0 c2
    obtain ⟨j, hj, rfl, hI⟩ := hrel
    by_cases hlt : j < M
    · obtain ⟨F', vb, h1, h2, h3⟩ := hI
      have hlt' : (j : Int) < (M : Int) := by omega
      have hst : crashTo keep torn parts s.w s.b (j + 1) = if keepBit keep j % 2 = 0 then crashTo keep torn parts s.w s.b j else laidL (crashTo keep torn parts s.w s.b j) ((s.w.getD j (0, [])).1 * 256) (crashX torn parts j (s.w.getD j (0, [])).2) := rfl
      have hjm : (j : Int) % 64 = ((j % 64 : Nat) : Int) := by omega
      have hsh := fun (t t2 : TypeId) (x y : Operand) wx => o_shr64 (P := Try.prog) t t2 x y keep (j % 64) ((j : Int) % 64) hjm (by omega) hkp wx
      obtain ⟨q2, hq2⟩ : ∃ q2, q2 = keepBit keep j := ⟨_, rfl⟩
      have hq2' : keep / 2 ^ (j % 64) = q2 := hq2.symm
      rw [hq2'] at hsh
      rw [← hq2] at hst
      have hq64 := KB.out j
      rw [← hq2] at hq64
      have SHR := Lib.hid hsh
      clear hsh hq2 hq2' hjm
      by_cases hz : q2 % 2 = 0
      · rw [if_pos hz] at hst
        have hrow := h1.row
        have c2 : wr.cell? ⟨br, 2, none⟩ = some (.slice aw M capw) := by rw [hrow.cell]; rfl
        have hz' : (q2 : Int) % 2 = 0 := by omega
        have I2 : Hid (BInv F br w s (.slice aw M capw) vs vt (crashTo keep torn parts s.w s.b (j + 1)) wr) := ⟨F', vb, by rw [hst]; exact h1, h2, h3⟩
        clear h1 h2 h3 hst hrow hz
        go_wp2_with (refine wpList_bin (by rfl) .shr _ _ _ _ _ _ _ (by rfl) (by rfl) (by rfl) (fun wx => SHR.out _ _ _ _ wx) ?_)
        go_roundw
        case rel => exact ⟨j + 1, by omega, by go_num, I2.out⟩
        case measure => simp [intOf]; omega
      · rw [if_neg hz] at hst
        have hbl := LEN.out j (by omega)
        obtain ⟨wf1, wf2⟩ := WF.out j (by rw [← HM.out]; exact hlt)
        obtain ⟨b1, o1, vh, e1, hG, cn0, ch0, hsh⟩ := wput_at h1.four.fw (j := j) (by show j < s.w.length; rw [← HM.out]; exact hlt)
        have e1 : aw = some ⟨b1, o1, none⟩ := e1
        have hsx := hsh.sl
        obtain ⟨a3, cap3, rfl⟩ := hsh.hd
        have hvb := h1.four.fb.sl
        obtain ⟨ab, capb, rfl⟩ := h1.four.fb.hd
        have hl0 : ({ s with b := crashTo keep torn parts s.w s.b j } : St6).b.length = N * 256 := hbl
        rw [hl0] at h1 hvb
        have hvb : Sl wr (.slice ab (N * 256) capb) (crashTo keep torn parts s.w s.b j) := hvb
        obtain ⟨x, hx⟩ : ∃ x, x = (s.w.getD j (0, [])).2 := ⟨_, rfl⟩
        have hsx : Sl wr (.slice a3 (s.w.getD j (0, [])).2.length cap3) x := by rw [hx]; exact hsx
        rw [wf2] at hsx
        have ch : wr.cell? ⟨b1, o1 + j * 2 + 1, none⟩ = some (.slice a3 256 cap3) := by rw [← wf2]; exact ch0
        clear ch0
        have xl : x.length = 256 := by rw [hx]; exact wf2
        obtain ⟨q, hq⟩ : ∃ q, q = (s.w.getD j (0, [])).1 := ⟨_, rfl⟩
        rw [← hq, ← hx] at hst
        rw [← hq, ← HN.out] at wf1
        have cn : wr.cell? ⟨b1, o1 + j * 2, none⟩ = some (.int .i64 (q : Int)) := by rw [hq]; exact cn0
        clear cn0
        have hrow := h1.row
        have c1 : wr.cell? ⟨br, 1, none⟩ = some (.slice ab (N * 256) capb) := by rw [hrow.cell]; rfl
        have c2 : wr.cell? ⟨br, 2, none⟩ = some (.slice (some ⟨b1, o1, none⟩) M capw) := by rw [hrow.cell, ← e1]; rfl
        rw [e1] at h1
        have hdr : wr.drew.heap = wr.heap := rfl
        have hz' : ¬ (q2 : Int) % 2 = 0 := by omega
        have HROW : Hid (At wr br (stRow N (.slice ab (N * 256) capb) (.slice (some ⟨b1, o1, none⟩) M capw) vs vt) 32) := (by have h : At wr br (stRow s.n (.slice ab (N * 256) capb) (.slice aw M capw) vs vt) 32 := hrow; rw [e1, ← HN.out] at h; exact h)
        have S0 : Hid (SB br N (.slice (some ⟨b1, o1, none⟩) M capw) vs vt wr wr.drew) := sb_of HROW.out (Below.refl _ _).drew
        have NB := Lib.hid hG.2; have E1 := Lib.hid e1; have HV := Lib.hid h1; have H2 := Lib.hid h2; have H3 := Lib.hid h3; have HST := Lib.hid hst; have VB := Lib.hid hvb; have SX := Lib.hid hsx; have XL := Lib.hid xl; have HBL := Lib.hid hbl
        clear h1 h2 h3 hst hbl wf2 hsh hsx hx hq hl0 hrow e1 hG hvb xl hz
        by_cases htorn : (j : Int) = torn
        · subst htorn
          have hcx : crashX (j : Int) parts j x = x.take (64 * CP) := by rw [crashX, if_pos rfl, HCP.out]
          have hst := HST.out
          rw [hcx] at hst
          have hi1 : 64 * (CP : Int) = ((64 * CP : Nat) : Int) := by omega
          have hxt : Sl wr (.slice (pieceA a3 cap3 0) (64 * CP) cap3) (x.take (64 * CP)) := sl_to SX.out XL.out.symm (by omega)
          have hla := laid_any (crashTo keep (j : Int) parts s.w s.b j) (x.take (64 * CP)) (q * 256) (.slice ab (N * 256) capb) (.slice (pieceA a3 cap3 0) (64 * CP) cap3) wr.drew (VB.out.below (Below.refl _ _).drew) (hxt.below (Below.refl _ _).drew) (by have h := XL.out; rw [HBL.out, List.length_take]; omega) (by rw [HBL.out]; omega)
          rw [← hst, show ((q * 256 : Nat) : Int) = (q : Int) * 256 by omega] at hla
          obtain ⟨L2, hL2⟩ : ∃ L2, L2 = (crashTo keep (j : Int) parts s.w s.b (j + 1)).length := ⟨_, rfl⟩
          have LA := Lib.hid hla; have HL2 := Lib.hid hL2; have I1 := Lib.hid hi1
          clear hla hL2 hi1 hxt hst hcx HST
          go_wp2_with (first
            | (refine wpList_bin (by rfl) .shr _ _ _ _ _ _ _ (by rfl) (by rfl) (by rfl) (fun wx => SHR.out _ _ _ _ wx) ?_)
            | (refine wpList_piece_to (by rfl) 27 _ _ (by rfl) Try.underlying27 a3 256 cap3 (64 * CP) x XL.out (by rfl) SX.out (by rw [← I1.out]; rfl) (by omega) ?_; intro _))
          refine wp_region_plan_in (SB br N (.slice (some ⟨b1, o1, none⟩) M capw) vs vt wr) (.take 0 (.take 1 (.take 2 (.take 3 (.take 5 (.take 6 (.take 7 (.take 8 (.take 9 (.take 10 (.take 11 (.take 12 (.take 13 (.take 14 (.sole 4 (.sole 15 (.take 16 (.take 17 (.sole 18 .done))))))))))))))))))) (by kernel_rfl) (by kernel_rfl) (by kernel_rfl) S0.out ?_
          (first | (refine plan_move _ _ (by rfl) (by rfl) (.inl (by rfl)) (by first | (with_reducible exact Mem.ev_const _ _) | (with_reducible exact Mem.ev_zero _ _ _) | (with_reducible (apply Eq.trans (Mem.ev_tmp _ _ _)); simp only [List.getD_cons_succ, List.getD_cons_zero] <;> rfl)) ?_) | (refine plan_move _ _ (by rfl) (by rfl) (.inr (by rfl)) (by first | (with_reducible exact Mem.ev_const _ _) | (with_reducible exact Mem.ev_zero _ _ _) | (with_reducible (apply Eq.trans (Mem.ev_tmp _ _ _)); simp only [List.getD_cons_succ, List.getD_cons_zero] <;> rfl)) ?_) | (refine plan_pick_t _ _ _ _ (by rfl) (by rfl) (by rfl) (by first | (with_reducible exact Mem.ev_const _ _) | (with_reducible exact Mem.ev_zero _ _ _) | (with_reducible (apply Eq.trans (Mem.ev_tmp _ _ _)); simp only [List.getD_cons_succ, List.getD_cons_zero] <;> rfl)) (by first | (with_reducible exact Mem.ev_const _ _) | (with_reducible exact Mem.ev_zero _ _ _) | (with_reducible (apply Eq.trans (Mem.ev_tmp _ _ _)); simp only [List.getD_cons_succ, List.getD_cons_zero] <;> rfl)) ?_) | (refine plan_pick_f _ _ _ _ (by rfl) (by rfl) (by rfl) (by first | (with_reducible exact Mem.ev_const _ _) | (with_reducible exact Mem.ev_zero _ _ _) | (with_reducible (apply Eq.trans (Mem.ev_tmp _ _ _)); simp only [List.getD_cons_succ, List.getD_cons_zero] <;> rfl)) (by first | (with_reducible exact Mem.ev_const _ _) | (with_reducible exact Mem.ev_zero _ _ _) | (with_reducible (apply Eq.trans (Mem.ev_tmp _ _ _)); simp only [List.getD_cons_succ, List.getD_cons_zero] <;> rfl)) ?_))
          (simp only [Act.put, List.setIfInBounds_toArray, List.set_cons_zero, List.set_cons_succ])
          (first | (refine plan_move _ _ (by rfl) (by rfl) (.inl (by rfl)) (by first | (with_reducible exact Mem.ev_const _ _) | (with_reducible exact Mem.ev_zero _ _ _) | (with_reducible (apply Eq.trans (Mem.ev_tmp _ _ _)); simp only [List.getD_cons_succ, List.getD_cons_zero] <;> rfl)) ?_) | (refine plan_move _ _ (by rfl) (by rfl) (.inr (by rfl)) (by first | (with_reducible exact Mem.ev_const _ _) | (with_reducible exact Mem.ev_zero _ _ _) | (with_reducible (apply Eq.trans (Mem.ev_tmp _ _ _)); simp only [List.getD_cons_succ, List.getD_cons_zero] <;> rfl)) ?_) | (refine plan_pick_t _ _ _ _ (by rfl) (by rfl) (by rfl) (by first | (with_reducible exact Mem.ev_const _ _) | (with_reducible exact Mem.ev_zero _ _ _) | (with_reducible (apply Eq.trans (Mem.ev_tmp _ _ _)); simp only [List.getD_cons_succ, List.getD_cons_zero] <;> rfl)) (by first | (with_reducible exact Mem.ev_const _ _) | (with_reducible exact Mem.ev_zero _ _ _) | (with_reducible (apply Eq.trans (Mem.ev_tmp _ _ _)); simp only [List.getD_cons_succ, List.getD_cons_zero] <;> rfl)) ?_) | (refine plan_pick_f _ _ _ _ (by rfl) (by rfl) (by rfl) (by first | (with_reducible exact Mem.ev_const _ _) | (with_reducible exact Mem.ev_zero _ _ _) | (with_reducible (apply Eq.trans (Mem.ev_tmp _ _ _)); simp only [List.getD_cons_succ, List.getD_cons_zero] <;> rfl)) (by first | (with_reducible exact Mem.ev_const _ _) | (with_reducible exact Mem.ev_zero _ _ _) | (with_reducible (apply Eq.trans (Mem.ev_tmp _ _ _)); simp only [List.getD_cons_succ, List.getD_cons_zero] <;> rfl)) ?_))
          (simp only [Act.put, List.setIfInBounds_toArray, List.set_cons_zero, List.set_cons_succ])
          refine plan_nilcheck _ ⟨br, 0, none⟩ (by rfl) (by rfl) (by rfl) (by first | (with_reducible exact Mem.ev_const _ _) | (with_reducible exact Mem.ev_zero _ _ _) | (with_reducible (apply Eq.trans (Mem.ev_tmp _ _ _)); simp only [List.getD_cons_succ, List.getD_cons_zero] <;> rfl)) ?_
          (simp only [Act.put, List.setIfInBounds_toArray, List.set_cons_zero, List.set_cons_succ])
          refine plan_field 32 _ 1 br 0 ⟨br, 1, none⟩ (by rfl) (by rfl) (by rfl) (by first | (with_reducible exact Mem.ev_const _ _) | (with_reducible exact Mem.ev_zero _ _ _) | (with_reducible (apply Eq.trans (Mem.ev_tmp _ _ _)); simp only [List.getD_cons_succ, List.getD_cons_zero] <;> rfl)) (fun wx => by go_simp) ?_
          (simp only [Act.put, List.setIfInBounds_toArray, List.set_cons_zero, List.set_cons_succ])
          (first | (refine plan_move _ _ (by rfl) (by rfl) (.inl (by rfl)) (by first | (with_reducible exact Mem.ev_const _ _) | (with_reducible exact Mem.ev_zero _ _ _) | (with_reducible (apply Eq.trans (Mem.ev_tmp _ _ _)); simp only [List.getD_cons_succ, List.getD_cons_zero] <;> rfl)) ?_) | (refine plan_move _ _ (by rfl) (by rfl) (.inr (by rfl)) (by first | (with_reducible exact Mem.ev_const _ _) | (with_reducible exact Mem.ev_zero _ _ _) | (with_reducible (apply Eq.trans (Mem.ev_tmp _ _ _)); simp only [List.getD_cons_succ, List.getD_cons_zero] <;> rfl)) ?_) | (refine plan_pick_t _ _ _ _ (by rfl) (by rfl) (by rfl) (by first | (with_reducible exact Mem.ev_const _ _) | (with_reducible exact Mem.ev_zero _ _ _) | (with_reducible (apply Eq.trans (Mem.ev_tmp _ _ _)); simp only [List.getD_cons_succ, List.getD_cons_zero] <;> rfl)) (by first | (with_reducible exact Mem.ev_const _ _) | (with_reducible exact Mem.ev_zero _ _ _) | (with_reducible (apply Eq.trans (Mem.ev_tmp _ _ _)); simp only [List.getD_cons_succ, List.getD_cons_zero] <;> rfl)) ?_) | (refine plan_pick_f _ _ _ _ (by rfl) (by rfl) (by rfl) (by first | (with_reducible exact Mem.ev_const _ _) | (with_reducible exact Mem.ev_zero _ _ _) | (with_reducible (apply Eq.trans (Mem.ev_tmp _ _ _)); simp only [List.getD_cons_succ, List.getD_cons_zero] <;> rfl)) (by first | (with_reducible exact Mem.ev_const _ _) | (with_reducible exact Mem.ev_zero _ _ _) | (with_reducible (apply Eq.trans (Mem.ev_tmp _ _ _)); simp only [List.getD_cons_succ, List.getD_cons_zero] <;> rfl)) ?_))
          (simp only [Act.put, List.setIfInBounds_toArray, List.set_cons_zero, List.set_cons_succ])
          refine plan_nilcheck _ ⟨br, 0, none⟩ (by rfl) (by rfl) (by rfl) (by first | (with_reducible exact Mem.ev_const _ _) | (with_reducible exact Mem.ev_zero _ _ _) | (with_reducible (apply Eq.trans (Mem.ev_tmp _ _ _)); simp only [List.getD_cons_succ, List.getD_cons_zero] <;> rfl)) ?_
          (simp only [Act.put, List.setIfInBounds_toArray, List.set_cons_zero, List.set_cons_succ])
          refine plan_field 32 _ 2 br 0 ⟨br, 2, none⟩ (by rfl) (by rfl) (by rfl) (by first | (with_reducible exact Mem.ev_const _ _) | (with_reducible exact Mem.ev_zero _ _ _) | (with_reducible (apply Eq.trans (Mem.ev_tmp _ _ _)); simp only [List.getD_cons_succ, List.getD_cons_zero] <;> rfl)) (fun wx => by go_simp) ?_
          (simp only [Act.put, List.setIfInBounds_toArray, List.set_cons_zero, List.set_cons_succ])
          refine plan_cell 28 _ _ (.slice (some ⟨b1, o1, none⟩) M capw) _ (by rfl) (by rfl) (by rfl) (by first | (with_reducible exact Mem.ev_const _ _) | (with_reducible exact Mem.ev_zero _ _ _) | (with_reducible (apply Eq.trans (Mem.ev_tmp _ _ _)); simp only [List.getD_cons_succ, List.getD_cons_zero] <;> rfl)) (fun w' hw' => sb_two hw') Try.underlying28 (by rfl) ?_
          (simp only [Act.put, List.setIfInBounds_toArray, List.set_cons_zero, List.set_cons_succ])
          (first | (refine plan_move _ _ (by rfl) (by rfl) (.inl (by rfl)) (by first | (with_reducible exact Mem.ev_const _ _) | (with_reducible exact Mem.ev_zero _ _ _) | (with_reducible (apply Eq.trans (Mem.ev_tmp _ _ _)); simp only [List.getD_cons_succ, List.getD_cons_zero] <;> rfl)) ?_) | (refine plan_move _ _ (by rfl) (by rfl) (.inr (by rfl)) (by first | (with_reducible exact Mem.ev_const _ _) | (with_reducible exact Mem.ev_zero _ _ _) | (with_reducible (apply Eq.trans (Mem.ev_tmp _ _ _)); simp only [List.getD_cons_succ, List.getD_cons_zero] <;> rfl)) ?_) | (refine plan_pick_t _ _ _ _ (by rfl) (by rfl) (by rfl) (by first | (with_reducible exact Mem.ev_const _ _) | (with_reducible exact Mem.ev_zero _ _ _) | (with_reducible (apply Eq.trans (Mem.ev_tmp _ _ _)); simp only [List.getD_cons_succ, List.getD_cons_zero] <;> rfl)) (by first | (with_reducible exact Mem.ev_const _ _) | (with_reducible exact Mem.ev_zero _ _ _) | (with_reducible (apply Eq.trans (Mem.ev_tmp _ _ _)); simp only [List.getD_cons_succ, List.getD_cons_zero] <;> rfl)) ?_) | (refine plan_pick_f _ _ _ _ (by rfl) (by rfl) (by rfl) (by first | (with_reducible exact Mem.ev_const _ _) | (with_reducible exact Mem.ev_zero _ _ _) | (with_reducible (apply Eq.trans (Mem.ev_tmp _ _ _)); simp only [List.getD_cons_succ, List.getD_cons_zero] <;> rfl)) (by first | (with_reducible exact Mem.ev_const _ _) | (with_reducible exact Mem.ev_zero _ _ _) | (with_reducible (apply Eq.trans (Mem.ev_tmp _ _ _)); simp only [List.getD_cons_succ, List.getD_cons_zero] <;> rfl)) ?_))
          (simp only [Act.put, List.setIfInBounds_toArray, List.set_cons_zero, List.set_cons_succ])
          refine plan_index_z 28 48 _ _ b1 o1 M capw 2 j (by rfl) (by rfl) (by rfl) (by first | (with_reducible exact Mem.ev_const _ _) | (with_reducible exact Mem.ev_zero _ _ _) | (with_reducible (apply Eq.trans (Mem.ev_tmp _ _ _)); simp only [List.getD_cons_succ, List.getD_cons_zero] <;> rfl)) (by first | (with_reducible exact Mem.ev_const _ _) | (with_reducible exact Mem.ev_zero _ _ _) | (with_reducible (apply Eq.trans (Mem.ev_tmp _ _ _)); simp only [List.getD_cons_succ, List.getD_cons_zero] <;> rfl)) (by omega) Try.underlying28 (by kernel_rfl) ?_
          (simp only [Act.put, List.setIfInBounds_toArray, List.set_cons_zero, List.set_cons_succ])
          refine plan_field 48 _ 0 b1 (o1 + j * 2) ⟨b1, o1 + j * 2, none⟩ (by rfl) (by rfl) (by rfl) (by first | (with_reducible exact Mem.ev_const _ _) | (with_reducible exact Mem.ev_zero _ _ _) | (with_reducible (apply Eq.trans (Mem.ev_tmp _ _ _)); simp only [List.getD_cons_succ, List.getD_cons_zero] <;> rfl)) (fun wx => by go_simp) ?_
          (simp only [Act.put, List.setIfInBounds_toArray, List.set_cons_zero, List.set_cons_succ])
          refine plan_cell 3 _ _ (.int .i64 (q : Int)) _ (by rfl) (by rfl) (by rfl) (by first | (with_reducible exact Mem.ev_const _ _) | (with_reducible exact Mem.ev_zero _ _ _) | (with_reducible (apply Eq.trans (Mem.ev_tmp _ _ _)); simp only [List.getD_cons_succ, List.getD_cons_zero] <;> rfl)) (fun w' hw' => sb_cell hw' cn NB.out) Try.underlying3 (by rfl) ?_
          (simp only [Act.put, List.setIfInBounds_toArray, List.set_cons_zero, List.set_cons_succ])
          refine plan_bin _ _ _ _ _ _ _ _ (by rfl) (by rfl) (by rfl) (by first | (with_reducible exact Mem.ev_const _ _) | (with_reducible exact Mem.ev_zero _ _ _) | (with_reducible (apply Eq.trans (Mem.ev_tmp _ _ _)); simp only [List.getD_cons_succ, List.getD_cons_zero] <;> rfl)) (by first | (with_reducible exact Mem.ev_const _ _) | (with_reducible exact Mem.ev_zero _ _ _) | (with_reducible (apply Eq.trans (Mem.ev_tmp _ _ _)); simp only [List.getD_cons_succ, List.getD_cons_zero] <;> rfl)) (fun wx => o_imul _ _ _ _ ((q : Nat) : Int) 256 ((q * 256 : Nat) : Int) (by omega) (by omega) (by omega) wx) ?_
          (simp only [Act.put, List.setIfInBounds_toArray, List.set_cons_zero, List.set_cons_succ])
          (first | (refine plan_move _ _ (by rfl) (by rfl) (.inl (by rfl)) (by first | (with_reducible exact Mem.ev_const _ _) | (with_reducible exact Mem.ev_zero _ _ _) | (with_reducible (apply Eq.trans (Mem.ev_tmp _ _ _)); simp only [List.getD_cons_succ, List.getD_cons_zero] <;> rfl)) ?_) | (refine plan_move _ _ (by rfl) (by rfl) (.inr (by rfl)) (by first | (with_reducible exact Mem.ev_const _ _) | (with_reducible exact Mem.ev_zero _ _ _) | (with_reducible (apply Eq.trans (Mem.ev_tmp _ _ _)); simp only [List.getD_cons_succ, List.getD_cons_zero] <;> rfl)) ?_) | (refine plan_pick_t _ _ _ _ (by rfl) (by rfl) (by rfl) (by first | (with_reducible exact Mem.ev_const _ _) | (with_reducible exact Mem.ev_zero _ _ _) | (with_reducible (apply Eq.trans (Mem.ev_tmp _ _ _)); simp only [List.getD_cons_succ, List.getD_cons_zero] <;> rfl)) (by first | (with_reducible exact Mem.ev_const _ _) | (with_reducible exact Mem.ev_zero _ _ _) | (with_reducible (apply Eq.trans (Mem.ev_tmp _ _ _)); simp only [List.getD_cons_succ, List.getD_cons_zero] <;> rfl)) ?_) | (refine plan_pick_f _ _ _ _ (by rfl) (by rfl) (by rfl) (by first | (with_reducible exact Mem.ev_const _ _) | (with_reducible exact Mem.ev_zero _ _ _) | (with_reducible (apply Eq.trans (Mem.ev_tmp _ _ _)); simp only [List.getD_cons_succ, List.getD_cons_zero] <;> rfl)) (by first | (with_reducible exact Mem.ev_const _ _) | (with_reducible exact Mem.ev_zero _ _ _) | (with_reducible (apply Eq.trans (Mem.ev_tmp _ _ _)); simp only [List.getD_cons_succ, List.getD_cons_zero] <;> rfl)) ?_))
          (simp only [Act.put, List.setIfInBounds_toArray, List.set_cons_zero, List.set_cons_succ])
          refine plan_sole_cell 27 _ _ (.slice ab (N * 256) capb) _ (by rfl) (by rfl) (by rfl) (by first | (with_reducible exact Mem.ev_const _ _) | (with_reducible exact Mem.ev_zero _ _ _) | (with_reducible (apply Eq.trans (Mem.ev_tmp _ _ _)); simp only [List.getD_cons_succ, List.getD_cons_zero] <;> rfl)) (by exact c1) Try.underlying27 (by rfl) S0.out ?_
          (simp only [Act.put, List.setIfInBounds_toArray, List.set_cons_zero, List.set_cons_succ])
          refine plan_call 44 _ _ _ (by kernel_rfl) (by rfl) (by rfl) (by rfl) (by first | exact Mem.ev_none _ | (simp only [List.map_toArray, List.map_cons, List.map_nil, Mem.ev_tmp, List.getD_cons_succ, List.getD_cons_zero] <;> rfl)) ?_
          refine LA.out.mono ?_
          rintro o w2 ⟨v2, rfl, ho2, hb2⟩
          obtain ⟨a2, c2', rfl⟩ := own_hd ho2 HL2.out
          have B2 : Hid (Below wr.heap.size wr w2) := (Below.refl _ _).drew.trans hb2
          have O2 := Lib.hid ho2
          clear ho2 hb2 LA
          refine ⟨_, rfl, sb_of HROW.out B2.out, ?_⟩
          (simp only [Act.put, List.setIfInBounds_toArray, List.set_cons_zero, List.set_cons_succ])
          refine plan_nilcheck _ ⟨br, 0, none⟩ (by rfl) (by rfl) (by rfl) (by first | (with_reducible exact Mem.ev_const _ _) | (with_reducible exact Mem.ev_zero _ _ _) | (with_reducible (apply Eq.trans (Mem.ev_tmp _ _ _)); simp only [List.getD_cons_succ, List.getD_cons_zero] <;> rfl)) ?_
          (simp only [Act.put, List.setIfInBounds_toArray, List.set_cons_zero, List.set_cons_succ])
          refine plan_field 32 _ 1 br 0 ⟨br, 1, none⟩ (by rfl) (by rfl) (by rfl) (by first | (with_reducible exact Mem.ev_const _ _) | (with_reducible exact Mem.ev_zero _ _ _) | (with_reducible (apply Eq.trans (Mem.ev_tmp _ _ _)); simp only [List.getD_cons_succ, List.getD_cons_zero] <;> rfl)) (fun wx => by go_simp) ?_
          (simp only [Act.put, List.setIfInBounds_toArray, List.set_cons_zero, List.set_cons_succ])
          refine plan_store_one 27 _ _ br 1 (.slice a2 L2 c2') _ 32 (by rfl) (by rfl) (by rfl) (by rfl) (by first | (with_reducible exact Mem.ev_const _ _) | (with_reducible exact Mem.ev_zero _ _ _) | (with_reducible (apply Eq.trans (Mem.ev_tmp _ _ _)); simp only [List.getD_cons_succ, List.getD_cons_zero] <;> rfl)) (by first | (with_reducible exact Mem.ev_const _ _) | (with_reducible exact Mem.ev_zero _ _ _) | (with_reducible (apply Eq.trans (Mem.ev_tmp _ _ _)); simp only [List.getD_cons_succ, List.getD_cons_zero] <;> rfl)) (by rfl) infoBs (HROW.out.below B2.out HV.out.br) (by simp [stRow]) (sb_set HROW.out B2.out _) ?_
          refine plan_nil ?_
          have R8 := Lib.hid (binv_next (N := N) HV.out H2.out H3.out B2.out HN.out O2.out ((HROW.out.below B2.out HV.out.br).set 1 _) (fun k hk => heap_setCell_other w2 ⟨br, 1, none⟩ k _ hk) (fun B a hB hle => hB.setCell hle _))
          go_wp2_with fail
          go_roundw
          case rel => exact ⟨j + 1, by omega, by go_num, by rw [E1.out]; exact R8.out⟩
          case measure => simp [intOf]; omega
        · have hcx : crashX torn parts j x = x := by rw [crashX, if_neg htorn]
          have hst := HST.out
          rw [hcx] at hst
          have hla := laid_any (crashTo keep torn parts s.w s.b j) x (q * 256) (.slice ab (N * 256) capb) (.slice a3 256 cap3) wr.drew (VB.out.below (Below.refl _ _).drew) (SX.out.below (Below.refl _ _).drew) (by rw [HBL.out, XL.out]; omega) (by rw [HBL.out]; omega)
          rw [← hst, show ((q * 256 : Nat) : Int) = (q : Int) * 256 by omega] at hla
          obtain ⟨L2, hL2⟩ : ∃ L2, L2 = (crashTo keep torn parts s.w s.b (j + 1)).length := ⟨_, rfl⟩
          have LA := Lib.hid hla; have HL2 := Lib.hid hL2
          clear hla hL2 hst hcx HST
          go_wp2_with (refine wpList_bin (by rfl) .shr _ _ _ _ _ _ _ (by rfl) (by rfl) (by rfl) (fun wx => SHR.out _ _ _ _ wx) ?_)
          refine wp_region_plan_in (SB br N (.slice (some ⟨b1, o1, none⟩) M capw) vs vt wr) (.take 0 (.take 1 (.take 2 (.take 3 (.take 5 (.take 6 (.take 7 (.take 8 (.take 9 (.take 10 (.take 11 (.take 12 (.take 13 (.take 14 (.sole 4 (.sole 15 (.take 16 (.take 17 (.sole 18 .done))))))))))))))))))) (by kernel_rfl) (by kernel_rfl) (by kernel_rfl) S0.out ?_
          (first | (refine plan_move _ _ (by rfl) (by rfl) (.inl (by rfl)) (by first | (with_reducible exact Mem.ev_const _ _) | (with_reducible exact Mem.ev_zero _ _ _) | (with_reducible (apply Eq.trans (Mem.ev_tmp _ _ _)); simp only [List.getD_cons_succ, List.getD_cons_zero] <;> rfl)) ?_) | (refine plan_move _ _ (by rfl) (by rfl) (.inr (by rfl)) (by first | (with_reducible exact Mem.ev_const _ _) | (with_reducible exact Mem.ev_zero _ _ _) | (with_reducible (apply Eq.trans (Mem.ev_tmp _ _ _)); simp only [List.getD_cons_succ, List.getD_cons_zero] <;> rfl)) ?_) | (refine plan_pick_t _ _ _ _ (by rfl) (by rfl) (by rfl) (by first | (with_reducible exact Mem.ev_const _ _) | (with_reducible exact Mem.ev_zero _ _ _) | (with_reducible (apply Eq.trans (Mem.ev_tmp _ _ _)); simp only [List.getD_cons_succ, List.getD_cons_zero] <;> rfl)) (by first | (with_reducible exact Mem.ev_const _ _) | (with_reducible exact Mem.ev_zero _ _ _) | (with_reducible (apply Eq.trans (Mem.ev_tmp _ _ _)); simp only [List.getD_cons_succ, List.getD_cons_zero] <;> rfl)) ?_) | (refine plan_pick_f _ _ _ _ (by rfl) (by rfl) (by rfl) (by first | (with_reducible exact Mem.ev_const _ _) | (with_reducible exact Mem.ev_zero _ _ _) | (with_reducible (apply Eq.trans (Mem.ev_tmp _ _ _)); simp only [List.getD_cons_succ, List.getD_cons_zero] <;> rfl)) (by first | (with_reducible exact Mem.ev_const _ _) | (with_reducible exact Mem.ev_zero _ _ _) | (with_reducible (apply Eq.trans (Mem.ev_tmp _ _ _)); simp only [List.getD_cons_succ, List.getD_cons_zero] <;> rfl)) ?_))
          (simp only [Act.put, List.setIfInBounds_toArray, List.set_cons_zero, List.set_cons_succ])
          (first | (refine plan_move _ _ (by rfl) (by rfl) (.inl (by rfl)) (by first | (with_reducible exact Mem.ev_const _ _) | (with_reducible exact Mem.ev_zero _ _ _) | (with_reducible (apply Eq.trans (Mem.ev_tmp _ _ _)); simp only [List.getD_cons_succ, List.getD_cons_zero] <;> rfl)) ?_) | (refine plan_move _ _ (by rfl) (by rfl) (.inr (by rfl)) (by first | (with_reducible exact Mem.ev_const _ _) | (with_reducible exact Mem.ev_zero _ _ _) | (with_reducible (apply Eq.trans (Mem.ev_tmp _ _ _)); simp only [List.getD_cons_succ, List.getD_cons_zero] <;> rfl)) ?_) | (refine plan_pick_t _ _ _ _ (by rfl) (by rfl) (by rfl) (by first | (with_reducible exact Mem.ev_const _ _) | (with_reducible exact Mem.ev_zero _ _ _) | (with_reducible (apply Eq.trans (Mem.ev_tmp _ _ _)); simp only [List.getD_cons_succ, List.getD_cons_zero] <;> rfl)) (by first | (with_reducible exact Mem.ev_const _ _) | (with_reducible exact Mem.ev_zero _ _ _) | (with_reducible (apply Eq.trans (Mem.ev_tmp _ _ _)); simp only [List.getD_cons_succ, List.getD_cons_zero] <;> rfl)) ?_) | (refine plan_pick_f _ _ _ _ (by rfl) (by rfl) (by rfl) (by first | (with_reducible exact Mem.ev_const _ _) | (with_reducible exact Mem.ev_zero _ _ _) | (with_reducible (apply Eq.trans (Mem.ev_tmp _ _ _)); simp only [List.getD_cons_succ, List.getD_cons_zero] <;> rfl)) (by first | (with_reducible exact Mem.ev_const _ _) | (with_reducible exact Mem.ev_zero _ _ _) | (with_reducible (apply Eq.trans (Mem.ev_tmp _ _ _)); simp only [List.getD_cons_succ, List.getD_cons_zero] <;> rfl)) ?_))
          (simp only [Act.put, List.setIfInBounds_toArray, List.set_cons_zero, List.set_cons_succ])
          refine plan_nilcheck _ ⟨br, 0, none⟩ (by rfl) (by rfl) (by rfl) (by first | (with_reducible exact Mem.ev_const _ _) | (with_reducible exact Mem.ev_zero _ _ _) | (with_reducible (apply Eq.trans (Mem.ev_tmp _ _ _)); simp only [List.getD_cons_succ, List.getD_cons_zero] <;> rfl)) ?_
          (simp only [Act.put, List.setIfInBounds_toArray, List.set_cons_zero, List.set_cons_succ])
          refine plan_field 32 _ 1 br 0 ⟨br, 1, none⟩ (by rfl) (by rfl) (by rfl) (by first | (with_reducible exact Mem.ev_const _ _) | (with_reducible exact Mem.ev_zero _ _ _) | (with_reducible (apply Eq.trans (Mem.ev_tmp _ _ _)); simp only [List.getD_cons_succ, List.getD_cons_zero] <;> rfl)) (fun wx => by go_simp) ?_
          (simp only [Act.put, List.setIfInBounds_toArray, List.set_cons_zero, List.set_cons_succ])
          (first | (refine plan_move _ _ (by rfl) (by rfl) (.inl (by rfl)) (by first | (with_reducible exact Mem.ev_const _ _) | (with_reducible exact Mem.ev_zero _ _ _) | (with_reducible (apply Eq.trans (Mem.ev_tmp _ _ _)); simp only [List.getD_cons_succ, List.getD_cons_zero] <;> rfl)) ?_) | (refine plan_move _ _ (by rfl) (by rfl) (.inr (by rfl)) (by first | (with_reducible exact Mem.ev_const _ _) | (with_reducible exact Mem.ev_zero _ _ _) | (with_reducible (apply Eq.trans (Mem.ev_tmp _ _ _)); simp only [List.getD_cons_succ, List.getD_cons_zero] <;> rfl)) ?_) | (refine plan_pick_t _ _ _ _ (by rfl) (by rfl) (by rfl) (by first | (with_reducible exact Mem.ev_const _ _) | (with_reducible exact Mem.ev_zero _ _ _) | (with_reducible (apply Eq.trans (Mem.ev_tmp _ _ _)); simp only [List.getD_cons_succ, List.getD_cons_zero] <;> rfl)) (by first | (with_reducible exact Mem.ev_const _ _) | (with_reducible exact Mem.ev_zero _ _ _) | (with_reducible (apply Eq.trans (Mem.ev_tmp _ _ _)); simp only [List.getD_cons_succ, List.getD_cons_zero] <;> rfl)) ?_) | (refine plan_pick_f _ _ _ _ (by rfl) (by rfl) (by rfl) (by first | (with_reducible exact Mem.ev_const _ _) | (with_reducible exact Mem.ev_zero _ _ _) | (with_reducible (apply Eq.trans (Mem.ev_tmp _ _ _)); simp only [List.getD_cons_succ, List.getD_cons_zero] <;> rfl)) (by first | (with_reducible exact Mem.ev_const _ _) | (with_reducible exact Mem.ev_zero _ _ _) | (with_reducible (apply Eq.trans (Mem.ev_tmp _ _ _)); simp only [List.getD_cons_succ, List.getD_cons_zero] <;> rfl)) ?_))
          (simp only [Act.put, List.setIfInBounds_toArray, List.set_cons_zero, List.set_cons_succ])
          refine plan_nilcheck _ ⟨br, 0, none⟩ (by rfl) (by rfl) (by rfl) (by first | (with_reducible exact Mem.ev_const _ _) | (with_reducible exact Mem.ev_zero _ _ _) | (with_reducible (apply Eq.trans (Mem.ev_tmp _ _ _)); simp only [List.getD_cons_succ, List.getD_cons_zero] <;> rfl)) ?_
          (simp only [Act.put, List.setIfInBounds_toArray, List.set_cons_zero, List.set_cons_succ])
          refine plan_field 32 _ 2 br 0 ⟨br, 2, none⟩ (by rfl) (by rfl) (by rfl) (by first | (with_reducible exact Mem.ev_const _ _) | (with_reducible exact Mem.ev_zero _ _ _) | (with_reducible (apply Eq.trans (Mem.ev_tmp _ _ _)); simp only [List.getD_cons_succ, List.getD_cons_zero] <;> rfl)) (fun wx => by go_simp) ?_
          (simp only [Act.put, List.setIfInBounds_toArray, List.set_cons_zero, List.set_cons_succ])
          refine plan_cell 28 _ _ (.slice (some ⟨b1, o1, none⟩) M capw) _ (by rfl) (by rfl) (by rfl) (by first | (with_reducible exact Mem.ev_const _ _) | (with_reducible exact Mem.ev_zero _ _ _) | (with_reducible (apply Eq.trans (Mem.ev_tmp _ _ _)); simp only [List.getD_cons_succ, List.getD_cons_zero] <;> rfl)) (fun w' hw' => sb_two hw') Try.underlying28 (by rfl) ?_
          (simp only [Act.put, List.setIfInBounds_toArray, List.set_cons_zero, List.set_cons_succ])
          (first | (refine plan_move _ _ (by rfl) (by rfl) (.inl (by rfl)) (by first | (with_reducible exact Mem.ev_const _ _) | (with_reducible exact Mem.ev_zero _ _ _) | (with_reducible (apply Eq.trans (Mem.ev_tmp _ _ _)); simp only [List.getD_cons_succ, List.getD_cons_zero] <;> rfl)) ?_) | (refine plan_move _ _ (by rfl) (by rfl) (.inr (by rfl)) (by first | (with_reducible exact Mem.ev_const _ _) | (with_reducible exact Mem.ev_zero _ _ _) | (with_reducible (apply Eq.trans (Mem.ev_tmp _ _ _)); simp only [List.getD_cons_succ, List.getD_cons_zero] <;> rfl)) ?_) | (refine plan_pick_t _ _ _ _ (by rfl) (by rfl) (by rfl) (by first | (with_reducible exact Mem.ev_const _ _) | (with_reducible exact Mem.ev_zero _ _ _) | (with_reducible (apply Eq.trans (Mem.ev_tmp _ _ _)); simp only [List.getD_cons_succ, List.getD_cons_zero] <;> rfl)) (by first | (with_reducible exact Mem.ev_const _ _) | (with_reducible exact Mem.ev_zero _ _ _) | (with_reducible (apply Eq.trans (Mem.ev_tmp _ _ _)); simp only [List.getD_cons_succ, List.getD_cons_zero] <;> rfl)) ?_) | (refine plan_pick_f _ _ _ _ (by rfl) (by rfl) (by rfl) (by first | (with_reducible exact Mem.ev_const _ _) | (with_reducible exact Mem.ev_zero _ _ _) | (with_reducible (apply Eq.trans (Mem.ev_tmp _ _ _)); simp only [List.getD_cons_succ, List.getD_cons_zero] <;> rfl)) (by first | (with_reducible exact Mem.ev_const _ _) | (with_reducible exact Mem.ev_zero _ _ _) | (with_reducible (apply Eq.trans (Mem.ev_tmp _ _ _)); simp only [List.getD_cons_succ, List.getD_cons_zero] <;> rfl)) ?_))
          (simp only [Act.put, List.setIfInBounds_toArray, List.set_cons_zero, List.set_cons_succ])
          refine plan_index_z 28 48 _ _ b1 o1 M capw 2 j (by rfl) (by rfl) (by rfl) (by first | (with_reducible exact Mem.ev_const _ _) | (with_reducible exact Mem.ev_zero _ _ _) | (with_reducible (apply Eq.trans (Mem.ev_tmp _ _ _)); simp only [List.getD_cons_succ, List.getD_cons_zero] <;> rfl)) (by first | (with_reducible exact Mem.ev_const _ _) | (with_reducible exact Mem.ev_zero _ _ _) | (with_reducible (apply Eq.trans (Mem.ev_tmp _ _ _)); simp only [List.getD_cons_succ, List.getD_cons_zero] <;> rfl)) (by omega) Try.underlying28 (by kernel_rfl) ?_
          (simp only [Act.put, List.setIfInBounds_toArray, List.set_cons_zero, List.set_cons_succ])
          refine plan_field 48 _ 0 b1 (o1 + j * 2) ⟨b1, o1 + j * 2, none⟩ (by rfl) (by rfl) (by rfl) (by first | (with_reducible exact Mem.ev_const _ _) | (with_reducible exact Mem.ev_zero _ _ _) | (with_reducible (apply Eq.trans (Mem.ev_tmp _ _ _)); simp only [List.getD_cons_succ, List.getD_cons_zero] <;> rfl)) (fun wx => by go_simp) ?_
          (simp only [Act.put, List.setIfInBounds_toArray, List.set_cons_zero, List.set_cons_succ])
          refine plan_cell 3 _ _ (.int .i64 (q : Int)) _ (by rfl) (by rfl) (by rfl) (by first | (with_reducible exact Mem.ev_const _ _) | (with_reducible exact Mem.ev_zero _ _ _) | (with_reducible (apply Eq.trans (Mem.ev_tmp _ _ _)); simp only [List.getD_cons_succ, List.getD_cons_zero] <;> rfl)) (fun w' hw' => sb_cell hw' cn NB.out) Try.underlying3 (by rfl) ?_
          (simp only [Act.put, List.setIfInBounds_toArray, List.set_cons_zero, List.set_cons_succ])
          refine plan_bin _ _ _ _ _ _ _ _ (by rfl) (by rfl) (by rfl) (by first | (with_reducible exact Mem.ev_const _ _) | (with_reducible exact Mem.ev_zero _ _ _) | (with_reducible (apply Eq.trans (Mem.ev_tmp _ _ _)); simp only [List.getD_cons_succ, List.getD_cons_zero] <;> rfl)) (by first | (with_reducible exact Mem.ev_const _ _) | (with_reducible exact Mem.ev_zero _ _ _) | (with_reducible (apply Eq.trans (Mem.ev_tmp _ _ _)); simp only [List.getD_cons_succ, List.getD_cons_zero] <;> rfl)) (fun wx => o_imul _ _ _ _ ((q : Nat) : Int) 256 ((q * 256 : Nat) : Int) (by omega) (by omega) (by omega) wx) ?_
          (simp only [Act.put, List.setIfInBounds_toArray, List.set_cons_zero, List.set_cons_succ])
          (first | (refine plan_move _ _ (by rfl) (by rfl) (.inl (by rfl)) (by first | (with_reducible exact Mem.ev_const _ _) | (with_reducible exact Mem.ev_zero _ _ _) | (with_reducible (apply Eq.trans (Mem.ev_tmp _ _ _)); simp only [List.getD_cons_succ, List.getD_cons_zero] <;> rfl)) ?_) | (refine plan_move _ _ (by rfl) (by rfl) (.inr (by rfl)) (by first | (with_reducible exact Mem.ev_const _ _) | (with_reducible exact Mem.ev_zero _ _ _) | (with_reducible (apply Eq.trans (Mem.ev_tmp _ _ _)); simp only [List.getD_cons_succ, List.getD_cons_zero] <;> rfl)) ?_) | (refine plan_pick_t _ _ _ _ (by rfl) (by rfl) (by rfl) (by first | (with_reducible exact Mem.ev_const _ _) | (with_reducible exact Mem.ev_zero _ _ _) | (with_reducible (apply Eq.trans (Mem.ev_tmp _ _ _)); simp only [List.getD_cons_succ, List.getD_cons_zero] <;> rfl)) (by first | (with_reducible exact Mem.ev_const _ _) | (with_reducible exact Mem.ev_zero _ _ _) | (with_reducible (apply Eq.trans (Mem.ev_tmp _ _ _)); simp only [List.getD_cons_succ, List.getD_cons_zero] <;> rfl)) ?_) | (refine plan_pick_f _ _ _ _ (by rfl) (by rfl) (by rfl) (by first | (with_reducible exact Mem.ev_const _ _) | (with_reducible exact Mem.ev_zero _ _ _) | (with_reducible (apply Eq.trans (Mem.ev_tmp _ _ _)); simp only [List.getD_cons_succ, List.getD_cons_zero] <;> rfl)) (by first | (with_reducible exact Mem.ev_const _ _) | (with_reducible exact Mem.ev_zero _ _ _) | (with_reducible (apply Eq.trans (Mem.ev_tmp _ _ _)); simp only [List.getD_cons_succ, List.getD_cons_zero] <;> rfl)) ?_))
          (simp only [Act.put, List.setIfInBounds_toArray, List.set_cons_zero, List.set_cons_succ])
          refine plan_sole_cell 27 _ _ (.slice ab (N * 256) capb) _ (by rfl) (by rfl) (by rfl) (by first | (with_reducible exact Mem.ev_const _ _) | (with_reducible exact Mem.ev_zero _ _ _) | (with_reducible (apply Eq.trans (Mem.ev_tmp _ _ _)); simp only [List.getD_cons_succ, List.getD_cons_zero] <;> rfl)) (by exact c1) Try.underlying27 (by rfl) S0.out ?_
          (simp only [Act.put, List.setIfInBounds_toArray, List.set_cons_zero, List.set_cons_succ])
          refine plan_call 44 _ _ _ (by kernel_rfl) (by rfl) (by rfl) (by rfl) (by first | exact Mem.ev_none _ | (simp only [List.map_toArray, List.map_cons, List.map_nil, Mem.ev_tmp, List.getD_cons_succ, List.getD_cons_zero] <;> rfl)) ?_
          refine LA.out.mono ?_
          rintro o w2 ⟨v2, rfl, ho2, hb2⟩
          obtain ⟨a2, c2', rfl⟩ := own_hd ho2 HL2.out
          have B2 : Hid (Below wr.heap.size wr w2) := (Below.refl _ _).drew.trans hb2
          have O2 := Lib.hid ho2
          clear ho2 hb2 LA
          refine ⟨_, rfl, sb_of HROW.out B2.out, ?_⟩
          (simp only [Act.put, List.setIfInBounds_toArray, List.set_cons_zero, List.set_cons_succ])
          refine plan_nilcheck _ ⟨br, 0, none⟩ (by rfl) (by rfl) (by rfl) (by first | (with_reducible exact Mem.ev_const _ _) | (with_reducible exact Mem.ev_zero _ _ _) | (with_reducible (apply Eq.trans (Mem.ev_tmp _ _ _)); simp only [List.getD_cons_succ, List.getD_cons_zero] <;> rfl)) ?_
          (simp only [Act.put, List.setIfInBounds_toArray, List.set_cons_zero, List.set_cons_succ])
          refine plan_field 32 _ 1 br 0 ⟨br, 1, none⟩ (by rfl) (by rfl) (by rfl) (by first | (with_reducible exact Mem.ev_const _ _) | (with_reducible exact Mem.ev_zero _ _ _) | (with_reducible (apply Eq.trans (Mem.ev_tmp _ _ _)); simp only [List.getD_cons_succ, List.getD_cons_zero] <;> rfl)) (fun wx => by go_simp) ?_
          (simp only [Act.put, List.setIfInBounds_toArray, List.set_cons_zero, List.set_cons_succ])
          refine plan_store_one 27 _ _ br 1 (.slice a2 L2 c2') _ 32 (by rfl) (by rfl) (by rfl) (by rfl) (by first | (with_reducible exact Mem.ev_const _ _) | (with_reducible exact Mem.ev_zero _ _ _) | (with_reducible (apply Eq.trans (Mem.ev_tmp _ _ _)); simp only [List.getD_cons_succ, List.getD_cons_zero] <;> rfl)) (by first | (with_reducible exact Mem.ev_const _ _) | (with_reducible exact Mem.ev_zero _ _ _) | (with_reducible (apply Eq.trans (Mem.ev_tmp _ _ _)); simp only [List.getD_cons_succ, List.getD_cons_zero] <;> rfl)) (by rfl) infoBs (HROW.out.below B2.out HV.out.br) (by simp [stRow]) (sb_set HROW.out B2.out _) ?_
          refine plan_nil ?_
          have R8 := Lib.hid (binv_next (N := N) HV.out H2.out H3.out B2.out HN.out O2.out ((HROW.out.below B2.out HV.out.br).set 1 _) (fun k hk => heap_setCell_other w2 ⟨br, 1, none⟩ k _ hk) (fun B a hB hle => hB.setCell hle _))
          go_wp2_with fail
          go_roundw
          case rel => exact ⟨j + 1, by omega, by go_num, by rw [E1.out]; exact R8.out⟩
          case measure => simp [intOf]; omega
    · have hjm : j = M := by omega
      have hge : ¬ (j : Int) < (M : Int) := by omega
      obtain ⟨F', vb, h1, h2, h3⟩ := hI
      rw [hjm] at h1
      have c2 : wr.cell? ⟨br, 2, none⟩ = some (.slice aw M capw) := by rw [h1.row.cell]; rfl
      have HV := Lib.hid h1; have H2 := Lib.hid h2; have H3 := Lib.hid h3
      clear h1 h2 h3 hjm hlt hj
      go_wp2_with (refine Mem.wpList_store_one (by rfl) 28 _ _ (by rfl) (by rfl) br 2 (.slice none 0 0) (by rfl) (by rfl) (by rfl) infoPuts _ 32 HV.out.row (by simp [stRow]) ?_; intro w8 ha ho hk; have R8 := Lib.hid (rv_set (n' := s.n) (s' := { s with b := crashTo keep torn parts s.w s.b M, w := [] }) HV.out (Below.refl _ _) rfl (by exact ha) ho hk ⟨(four_old HV.out.four (Below.refl _ _)).fb, wPut_nil _ _, (four_old HV.out.four (Below.refl _ _)).fs, (four_old HV.out.four (Below.refl _ _)).ft⟩); clear ha ho hk)
      go_end0
      refine ⟨rfl, ?_⟩
      have e : stCrash s keep torn parts = { s with b := crashTo keep torn parts s.w s.b M, w := [] } := by rw [stCrash, HM.out]
      rw [e]
      exact StEnd.trans H3.out H2.out (rv_end R8.out.1 R8.out.2)
end Sha
end Go.Proofs.Ytkgpcgkikenljaa
