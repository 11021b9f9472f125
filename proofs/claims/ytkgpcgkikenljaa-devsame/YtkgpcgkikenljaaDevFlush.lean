/- The document's store: Flush: its walk. -/
import Derived.Test.YtkgpcgkikenljaaDevRef3
import Derived.Test.YtkgpcgkikenljaaPlan3
namespace Go.Proofs.Ytkgpcgkikenljaa
namespace Sha
open Go.RowKit Mem
/-- The blocks, when the first so many writes came. -/
def flushTo (l : List (Nat × List (BitVec 8))) (b : List (BitVec 8)) : Nat → List (BitVec 8)
  | 0 => b
  | j + 1 => laidL (flushTo l b j) ((l.getD j (0, [])).1 * 256) (l.getD j (0, [])).2
/-- All writes that wait are of blocks that there are, and whole. -/
def WfP (n : Nat) (l : List (Nat × List (BitVec 8))) : Prop := ∀ j, j < l.length → (l.getD j (0, [])).1 < n ∧ (l.getD j (0, [])).2.length = 256
theorem flushTo_length {n : Nat} {l : List (Nat × List (BitVec 8))} {b : List (BitVec 8)} (h : WfP n l) (hb : b.length = n * 256) : ∀ j, j ≤ l.length → (flushTo l b j).length = n * 256
  | 0, _ => hb
  | j + 1, hj => by
    have h1 := flushTo_length h hb j (by omega)
    obtain ⟨h2, h3⟩ := h j (by omega)
    rw [flushTo, laidL_length _ _ _ (by rw [h1, h3]; omega), h1]
def stFlush (s : St6) : St6 := { s with b := flushTo s.w s.b s.w.length, w := [], t := s.t ++ [-1] }
theorem RV.below {F : Foot} {br : Nat} {w w' : World} {s : St6} {vb vw vs vt : Value} (h : RV F br w s vb vw vs vt) (hb : Below w.heap.size w w') : RV F br w' s vb vw vs vt :=
  ⟨h.box, fun k hF => Nat.lt_of_lt_of_le (h.lt k hF) hb.size, h.row.below hb h.row.lt, h.four.keep hb.size fun k _ hlt => hb.block k hlt⟩
/-- What holds of the store while its blocks change. -/
def BInv (F : Foot) (br : Nat) (w : World) (s : St6) (vw vs vt : Value) (b : List (BitVec 8)) (wr : World) : Prop :=
  ∃ F' vb, RV F' br wr { s with b := b } vb vw vs vt ∧ (∀ k, F' k → F k ∨ w.heap.size ≤ k) ∧ Chg F w wr
theorem BInv.drew {F : Foot} {br : Nat} {w : World} {s : St6} {vw vs vt : Value} {b : List (BitVec 8)} {wr : World} (h : BInv F br w s vw vs vt b wr) : BInv F br w s vw vs vt b wr.drew := by
  obtain ⟨F', vb, h1, h2, h3⟩ := h
  exact ⟨F', vb, h1.below (Below.refl _ _).drew, h2, h3.drew⟩
/-- The blocks are others, by a store into the box. -/
theorem binv_next {F F' : Foot} {br N : Nat} {w wr w2 w8 : World} {s : St6} {vb v2 vw vs vt : Value} {b b2 : List (BitVec 8)} (h : RV F' br wr { s with b := b } vb vw vs vt) (hx : ∀ k, F' k → F k ∨ w.heap.size ≤ k) (hc : Chg F w wr) (hb : Below wr.heap.size wr w2) (hN : N = s.n) (ho2 : OwnB w2 wr.heap.size v2 b2)
    (ha : At w8 br (stRow N v2 vw vs vt) 32) (ho : ∀ k, k ≠ br → w8.heap[k]? = w2.heap[k]?) (hk : ∀ B a, Below B a w2 → B ≤ br → Below B a w8) : BInv F br w s vw vs vt b2 w8 := by
  have h0 := four_old h.four hb
  have hbr := h.br
  obtain ⟨h1, h2⟩ := rv_set (n' := N) (s' := { s with b := b2 }) h hb hN ha ho hk ⟨ho2.slB.mono (fun k hk _ => ⟨.inr hk, by omega⟩), h0.fw, h0.fs, h0.ft⟩
  exact ⟨_, _, h1, fun k hk => (grow_ext k hk).elim (hx k) (fun h => .inr (Nat.le_trans hc.size h)), hc.trans h2 hx⟩
/-- The worlds of a region that sets the blocks: all but the first slice in the box is as it was. -/
def SB (br N : Nat) (vw vs vt : Value) (wr x : World) : Prop := (∃ v1, At x br (stRow N v1 vw vs vt) 32) ∧ But br wr x
theorem sb_two {br N : Nat} {vw vs vt : Value} {wr x : World} (h : SB br N vw vs vt wr x) : x.cell? ⟨br, 2, none⟩ = some vw := by
  obtain ⟨⟨v1, h⟩, _⟩ := h
  rw [h.cell]; rfl
theorem sb_cell {br N b o : Nat} {vw vs vt v : Value} {wr x : World} (h : SB br N vw vs vt wr x) (hc : wr.cell? ⟨b, o, none⟩ = some v) (hne : b ≠ br) : x.cell? ⟨b, o, none⟩ = some v := by
  rw [World.cell?_of_block (w := wr) (w' := x) (a := ⟨b, o, none⟩) (h.2.block b (block_lt_of_cell hc) hne)]; exact hc
theorem sb_of {br N : Nat} {v1 vw vs vt : Value} {wr x : World} (h : At wr br (stRow N v1 vw vs vt) 32) (hb : Below wr.heap.size wr x) : SB br N vw vs vt wr x :=
  ⟨⟨v1, h.below hb h.lt⟩, hb.size, fun k hk _ => hb.block k hk⟩
theorem sb_set {br N : Nat} {v1 vw vs vt : Value} {wr x : World} (h : At wr br (stRow N v1 vw vs vt) 32) (hb : Below wr.heap.size wr x) (v : Value) : SB br N vw vs vt wr (x.setCell ⟨br, 1, none⟩ v) :=
  ⟨⟨v, (h.below hb h.lt).set 1 v⟩, (But.refl br wr).below hb |>.row (by simp) (fun k hk => heap_setCell_other x ⟨br, 1, none⟩ k v hk)⟩
set_option maxRecDepth 100000 in
set_option maxHeartbeats 4000000 in
theorem rflush_any {F : Foot} {br : Nat} {s : St6} (w : World) (hr : RSt F br w s) (hb : s.n ≤ 1024) (hl : s.b.length = s.n * 256) (hwf : WfP s.n s.w) (hw : s.w.length ≤ 1000000) (ht : s.t.length ≤ 1000000) :
    Calls Try.prog 28 #[rq br] w fun e w' => e = .returned (.int .i64 (s.w.length : Int)) ∧ StEnd RSt F br w (stFlush s) w' := by
  obtain ⟨vb0, vw, vs, vt, hv⟩ := hr.v
  obtain ⟨aw, capw, rfl⟩ := hv.four.fw.hd
  obtain ⟨at4, capt, rfl⟩ := hv.four.ft.hd
  have hlen := fun j h => flushTo_length hwf hl j h
  obtain ⟨N, hN⟩ : ∃ N, N = s.n := ⟨_, rfl⟩
  obtain ⟨M, hM⟩ : ∃ M, M = s.w.length := ⟨_, rfl⟩
  obtain ⟨TT, hTT⟩ : ∃ TT, TT = s.t.length := ⟨_, rfl⟩
  have hrow := hv.row
  rw [← hM] at hv hw hrow hlen ⊢
  rw [← hTT] at hv ht hrow
  have c2 : w.cell? ⟨br, 2, none⟩ = some (.slice aw M capw) := by rw [hrow.cell]; rfl
  have i0 : Hid (BInv F br w s (.slice aw M capw) vs (.slice at4 TT capt) (flushTo s.w s.b 0) w) := ⟨F, vb0, hv, fun k h => .inl h, Chg.refl _ _⟩
  rw [← hN] at hb hlen
  have LEN := Lib.hid hlen; have WF := Lib.hid hwf; have HN := Lib.hid hN; have HM := Lib.hid hM; have HTT := Lib.hid hTT
  clear hr hv hrow hlen hwf hN hM hTT hl
  go_enter Try.func28, Try.ntmps28
  go_wp2_with fail
  go_loopw [4] (fun i wr => ∃ j : Nat, j ≤ M ∧ i = .int .i64 j ∧ BInv F br w s (.slice aw M capw) vs (.slice at4 TT capt) (flushTo s.w s.b j) wr) (fun i _ => M - (intOf i).toNat)
  case atStart => exact ⟨0, by omega, rfl, i0.out⟩
  case round =>
    clear i0 c2
    obtain ⟨j, hj, rfl, hI⟩ := hrel
    by_cases hlt : j < M
    · obtain ⟨F', vb, h1, h2, h3⟩ := hI
      have hbl := LEN.out j (by omega)
      have hst : flushTo s.w s.b (j + 1) = laidL (flushTo s.w s.b j) ((s.w.getD j (0, [])).1 * 256) (s.w.getD j (0, [])).2 := rfl
      obtain ⟨wf1, wf2⟩ := WF.out j (by rw [← HM.out]; exact hlt)
      obtain ⟨b1, o1, vh, e1, hG, cn0, ch, hsh⟩ := wput_at h1.four.fw (j := j) (by show j < s.w.length; rw [← HM.out]; exact hlt)
      have e1 : aw = some ⟨b1, o1, none⟩ := e1
      have hsh0 := hsh
      obtain ⟨a3, cap3, rfl⟩ := hsh.hd
      have hla := laid_any (flushTo s.w s.b j) (s.w.getD j (0, [])).2 ((s.w.getD j (0, [])).1 * 256) vb (.slice a3 (s.w.getD j (0, [])).2.length cap3) wr.drew (h1.four.fb.sl.below (Below.refl _ _).drew) (hsh0.sl.below (Below.refl _ _).drew) (by rw [hbl, wf2, HN.out]; omega) (by rw [hbl]; omega)
      obtain ⟨ab, capb, rfl⟩ := h1.four.fb.hd
      have hl0 : ({ s with b := flushTo s.w s.b j } : St6).b.length = N * 256 := hbl
      rw [hl0] at h1 hla
      rw [wf2] at ch hla
      obtain ⟨q, hq⟩ : ∃ q, q = (s.w.getD j (0, [])).1 := ⟨_, rfl⟩
      rw [← hq] at hla hst wf1
      have cn : wr.cell? ⟨b1, o1 + j * 2, none⟩ = some (.int .i64 (q : Int)) := by rw [hq]; exact cn0
      clear cn0
      rw [← hst, show ((q * 256 : Nat) : Int) = (q : Int) * 256 by omega] at hla
      rw [← HN.out] at wf1
      have hrow := h1.row
      have c1 : wr.cell? ⟨br, 1, none⟩ = some (.slice ab (N * 256) capb) := by rw [hrow.cell]; rfl
      have c2 : wr.cell? ⟨br, 2, none⟩ = some (.slice (some ⟨b1, o1, none⟩) M capw) := by rw [hrow.cell, ← e1]; rfl
      rw [e1] at h1
      have hlt' : (j : Int) < (M : Int) := by omega
      obtain ⟨L2, hL2⟩ : ∃ L2, L2 = (flushTo s.w s.b (j + 1)).length := ⟨_, rfl⟩
      have hdr : wr.drew.heap = wr.heap := rfl
      have NB := Lib.hid hG.2; have E1 := Lib.hid e1; have HROW : Hid (At wr br (stRow N (.slice ab (N * 256) capb) (.slice (some ⟨b1, o1, none⟩) M capw) vs (.slice at4 TT capt)) 32) := (by have h : At wr br (stRow s.n (.slice ab (N * 256) capb) (.slice aw M capw) vs (.slice at4 TT capt)) 32 := hrow; rw [e1, ← HN.out] at h; exact h); have S0 : Hid (SB br N (.slice (some ⟨b1, o1, none⟩) M capw) vs (.slice at4 TT capt) wr wr.drew) := sb_of HROW.out (Below.refl _ _).drew
      have HV := Lib.hid h1; have H2 := Lib.hid h2; have H3 := Lib.hid h3; have LA := Lib.hid hla; have HL2 := Lib.hid hL2
      clear hG h1 h2 h3 hla hst hbl wf2 hsh hsh0 hq hl0 hrow e1 hL2
      go_wp2_with fail
      refine wp_region_plan_in (SB br N (.slice (some ⟨b1, o1, none⟩) M capw) vs (.slice at4 TT capt) wr) (.take 0 (.take 1 (.take 2 (.take 3 (.take 5 (.take 6 (.take 7 (.take 8 (.take 9 (.take 10 (.take 11 (.take 12 (.take 13 (.take 14 (.take 15 (.take 16 (.take 17 (.take 18 (.take 19 (.take 20 (.take 21 (.sole 4 (.sole 22 (.take 23 (.take 24 (.sole 25 .done)))))))))))))))))))))))))) (by kernel_rfl) (by kernel_rfl) (by kernel_rfl) S0.out ?_
      (first | (refine plan_move _ _ (by rfl) (by rfl) (.inl (by rfl)) (by first | (with_reducible exact Mem.ev_const _ _) | (with_reducible exact Mem.ev_zero _ _ _) | (with_reducible (apply Eq.trans (Mem.ev_tmp _ _ _)); simp only [List.getD_cons_succ, List.getD_cons_zero] <;> rfl)) ?_) | (refine plan_move _ _ (by rfl) (by rfl) (.inr (by rfl)) (by first | (with_reducible exact Mem.ev_const _ _) | (with_reducible exact Mem.ev_zero _ _ _) | (with_reducible (apply Eq.trans (Mem.ev_tmp _ _ _)); simp only [List.getD_cons_succ, List.getD_cons_zero] <;> rfl)) ?_) | (refine plan_pick_t _ _ _ _ (by rfl) (by rfl) (by rfl) (by first | (with_reducible exact Mem.ev_const _ _) | (with_reducible exact Mem.ev_zero _ _ _) | (with_reducible (apply Eq.trans (Mem.ev_tmp _ _ _)); simp only [List.getD_cons_succ, List.getD_cons_zero] <;> rfl)) (by first | (with_reducible exact Mem.ev_const _ _) | (with_reducible exact Mem.ev_zero _ _ _) | (with_reducible (apply Eq.trans (Mem.ev_tmp _ _ _)); simp only [List.getD_cons_succ, List.getD_cons_zero] <;> rfl)) ?_) | (refine plan_pick_f _ _ _ _ (by rfl) (by rfl) (by rfl) (by first | (with_reducible exact Mem.ev_const _ _) | (with_reducible exact Mem.ev_zero _ _ _) | (with_reducible (apply Eq.trans (Mem.ev_tmp _ _ _)); simp only [List.getD_cons_succ, List.getD_cons_zero] <;> rfl)) (by first | (with_reducible exact Mem.ev_const _ _) | (with_reducible exact Mem.ev_zero _ _ _) | (with_reducible (apply Eq.trans (Mem.ev_tmp _ _ _)); simp only [List.getD_cons_succ, List.getD_cons_zero] <;> rfl)) ?_))
      (simp only [Act.put, List.setIfInBounds_toArray, List.set_cons_zero, List.set_cons_succ])
      (first | (refine plan_move _ _ (by rfl) (by rfl) (.inl (by rfl)) (by first | (with_reducible exact Mem.ev_const _ _) | (with_reducible exact Mem.ev_zero _ _ _) | (with_reducible (apply Eq.trans (Mem.ev_tmp _ _ _)); simp only [List.getD_cons_succ, List.getD_cons_zero] <;> rfl)) ?_) | (refine plan_move _ _ (by rfl) (by rfl) (.inr (by rfl)) (by first | (with_reducible exact Mem.ev_const _ _) | (with_reducible exact Mem.ev_zero _ _ _) | (with_reducible (apply Eq.trans (Mem.ev_tmp _ _ _)); simp only [List.getD_cons_succ, List.getD_cons_zero] <;> rfl)) ?_) | (refine plan_pick_t _ _ _ _ (by rfl) (by rfl) (by rfl) (by first | (with_reducible exact Mem.ev_const _ _) | (with_reducible exact Mem.ev_zero _ _ _) | (with_reducible (apply Eq.trans (Mem.ev_tmp _ _ _)); simp only [List.getD_cons_succ, List.getD_cons_zero] <;> rfl)) (by first | (with_reducible exact Mem.ev_const _ _) | (with_reducible exact Mem.ev_zero _ _ _) | (with_reducible (apply Eq.trans (Mem.ev_tmp _ _ _)); simp only [List.getD_cons_succ, List.getD_cons_zero] <;> rfl)) ?_) | (refine plan_pick_f _ _ _ _ (by rfl) (by rfl) (by rfl) (by first | (with_reducible exact Mem.ev_const _ _) | (with_reducible exact Mem.ev_zero _ _ _) | (with_reducible (apply Eq.trans (Mem.ev_tmp _ _ _)); simp only [List.getD_cons_succ, List.getD_cons_zero] <;> rfl)) (by first | (with_reducible exact Mem.ev_const _ _) | (with_reducible exact Mem.ev_zero _ _ _) | (with_reducible (apply Eq.trans (Mem.ev_tmp _ _ _)); simp only [List.getD_cons_succ, List.getD_cons_zero] <;> rfl)) ?_))
      (simp only [Act.put, List.setIfInBounds_toArray, List.set_cons_zero, List.set_cons_succ])
      refine plan_nilcheck _ ⟨br, 0, none⟩ (by rfl) (by rfl) (by rfl) (by first | (with_reducible exact Mem.ev_const _ _) | (with_reducible exact Mem.ev_zero _ _ _) | (with_reducible (apply Eq.trans (Mem.ev_tmp _ _ _)); simp only [List.getD_cons_succ, List.getD_cons_zero] <;> rfl)) ?_
      (simp only [Act.put, List.setIfInBounds_toArray, List.set_cons_zero, List.set_cons_succ])
      refine plan_field 32 _ 1 br 0 ⟨br, 1, none⟩ (by rfl) (by rfl) (by rfl) (by first | (with_reducible exact Mem.ev_const _ _) | (with_reducible exact Mem.ev_zero _ _ _) | (with_reducible (apply Eq.trans (Mem.ev_tmp _ _ _)); simp only [List.getD_cons_succ, List.getD_cons_zero] <;> rfl)) (fun wx => by go_simp) ?_
      (simp only [Act.put, List.setIfInBounds_toArray, List.set_cons_zero, List.set_cons_succ])
      (first | (refine plan_move _ _ (by rfl) (by rfl) (.inl (by rfl)) (by first | (with_reducible exact Mem.ev_const _ _) | (with_reducible exact Mem.ev_zero _ _ _) | (with_reducible (apply Eq.trans (Mem.ev_tmp _ _ _)); simp only [List.getD_cons_succ, List.getD_cons_zero] <;> rfl)) ?_) | (refine plan_move _ _ (by rfl) (by rfl) (.inr (by rfl)) (by first | (with_reducible exact Mem.ev_const _ _) | (with_reducible exact Mem.ev_zero _ _ _) | (with_reducible (apply Eq.trans (Mem.ev_tmp _ _ _)); simp only [List.getD_cons_succ, List.getD_cons_zero] <;> rfl)) ?_) | (refine plan_pick_t _ _ _ _ (by rfl) (by rfl) (by rfl) (by first | (with_reducible exact Mem.ev_const _ _) | (with_reducible exact Mem.ev_zero _ _ _) | (with_reducible (apply Eq.trans (Mem.ev_tmp _ _ _)); simp only [List.getD_cons_succ, List.getD_cons_zero] <;> rfl)) (by first | (with_reducible exact Mem.ev_const _ _) | (with_reducible exact Mem.ev_zero _ _ _) | (with_reducible (apply Eq.trans (Mem.ev_tmp _ _ _)); simp only [List.getD_cons_succ, List.getD_cons_zero] <;> rfl)) ?_) | (refine plan_pick_f _ _ _ _ (by rfl) (by rfl) (by rfl) (by first | (with_reducible exact Mem.ev_const _ _) | (with_reducible exact Mem.ev_zero _ _ _) | (with_reducible (apply Eq.trans (Mem.ev_tmp _ _ _)); simp only [List.getD_cons_succ, List.getD_cons_zero] <;> rfl)) (by first | (with_reducible exact Mem.ev_const _ _) | (with_reducible exact Mem.ev_zero _ _ _) | (with_reducible (apply Eq.trans (Mem.ev_tmp _ _ _)); simp only [List.getD_cons_succ, List.getD_cons_zero] <;> rfl)) ?_))
      (simp only [Act.put, List.setIfInBounds_toArray, List.set_cons_zero, List.set_cons_succ])
      refine plan_nilcheck _ ⟨br, 0, none⟩ (by rfl) (by rfl) (by rfl) (by first | (with_reducible exact Mem.ev_const _ _) | (with_reducible exact Mem.ev_zero _ _ _) | (with_reducible (apply Eq.trans (Mem.ev_tmp _ _ _)); simp only [List.getD_cons_succ, List.getD_cons_zero] <;> rfl)) ?_
      (simp only [Act.put, List.setIfInBounds_toArray, List.set_cons_zero, List.set_cons_succ])
      refine plan_field 32 _ 2 br 0 ⟨br, 2, none⟩ (by rfl) (by rfl) (by rfl) (by first | (with_reducible exact Mem.ev_const _ _) | (with_reducible exact Mem.ev_zero _ _ _) | (with_reducible (apply Eq.trans (Mem.ev_tmp _ _ _)); simp only [List.getD_cons_succ, List.getD_cons_zero] <;> rfl)) (fun wx => by go_simp) ?_
      (simp only [Act.put, List.setIfInBounds_toArray, List.set_cons_zero, List.set_cons_succ])
      refine plan_cell 28 _ _ (.slice (some ⟨b1, o1, none⟩) M capw) _ (by rfl) (by rfl) (by rfl) (by first | (with_reducible exact Mem.ev_const _ _) | (with_reducible exact Mem.ev_zero _ _ _) | (with_reducible (apply Eq.trans (Mem.ev_tmp _ _ _)); simp only [List.getD_cons_succ, List.getD_cons_zero] <;> rfl)) (fun w' hw' => sb_two hw') Try.underlying28 (by rfl) ?_
      (simp only [Act.put, List.setIfInBounds_toArray, List.set_cons_zero, List.set_cons_succ])
      (first | (refine plan_move _ _ (by rfl) (by rfl) (.inl (by rfl)) (by first | (with_reducible exact Mem.ev_const _ _) | (with_reducible exact Mem.ev_zero _ _ _) | (with_reducible (apply Eq.trans (Mem.ev_tmp _ _ _)); simp only [List.getD_cons_succ, List.getD_cons_zero] <;> rfl)) ?_) | (refine plan_move _ _ (by rfl) (by rfl) (.inr (by rfl)) (by first | (with_reducible exact Mem.ev_const _ _) | (with_reducible exact Mem.ev_zero _ _ _) | (with_reducible (apply Eq.trans (Mem.ev_tmp _ _ _)); simp only [List.getD_cons_succ, List.getD_cons_zero] <;> rfl)) ?_) | (refine plan_pick_t _ _ _ _ (by rfl) (by rfl) (by rfl) (by first | (with_reducible exact Mem.ev_const _ _) | (with_reducible exact Mem.ev_zero _ _ _) | (with_reducible (apply Eq.trans (Mem.ev_tmp _ _ _)); simp only [List.getD_cons_succ, List.getD_cons_zero] <;> rfl)) (by first | (with_reducible exact Mem.ev_const _ _) | (with_reducible exact Mem.ev_zero _ _ _) | (with_reducible (apply Eq.trans (Mem.ev_tmp _ _ _)); simp only [List.getD_cons_succ, List.getD_cons_zero] <;> rfl)) ?_) | (refine plan_pick_f _ _ _ _ (by rfl) (by rfl) (by rfl) (by first | (with_reducible exact Mem.ev_const _ _) | (with_reducible exact Mem.ev_zero _ _ _) | (with_reducible (apply Eq.trans (Mem.ev_tmp _ _ _)); simp only [List.getD_cons_succ, List.getD_cons_zero] <;> rfl)) (by first | (with_reducible exact Mem.ev_const _ _) | (with_reducible exact Mem.ev_zero _ _ _) | (with_reducible (apply Eq.trans (Mem.ev_tmp _ _ _)); simp only [List.getD_cons_succ, List.getD_cons_zero] <;> rfl)) ?_))
      (simp only [Act.put, List.setIfInBounds_toArray, List.set_cons_zero, List.set_cons_succ])
      refine plan_index_z 28 48 _ _ b1 o1 M capw 2 j (by rfl) (by rfl) (by rfl) (by first | (with_reducible exact Mem.ev_const _ _) | (with_reducible exact Mem.ev_zero _ _ _) | (with_reducible (apply Eq.trans (Mem.ev_tmp _ _ _)); simp only [List.getD_cons_succ, List.getD_cons_zero] <;> rfl)) (by first | (with_reducible exact Mem.ev_const _ _) | (with_reducible exact Mem.ev_zero _ _ _) | (with_reducible (apply Eq.trans (Mem.ev_tmp _ _ _)); simp only [List.getD_cons_succ, List.getD_cons_zero] <;> rfl)) (by omega) Try.underlying28 (by kernel_rfl) ?_
      (simp only [Act.put, List.setIfInBounds_toArray, List.set_cons_zero, List.set_cons_succ])
      refine plan_field 48 _ 0 b1 (o1 + j * 2) ⟨b1, o1 + j * 2, none⟩ (by rfl) (by rfl) (by rfl) (by first | (with_reducible exact Mem.ev_const _ _) | (with_reducible exact Mem.ev_zero _ _ _) | (with_reducible (apply Eq.trans (Mem.ev_tmp _ _ _)); simp only [List.getD_cons_succ, List.getD_cons_zero] <;> rfl)) (fun wx => by go_simp) ?_
      (simp only [Act.put, List.setIfInBounds_toArray, List.set_cons_zero, List.set_cons_succ])
      refine plan_cell 3 _ _ (.int .i64 (q : Int)) _ (by rfl) (by rfl) (by rfl) (by first | (with_reducible exact Mem.ev_const _ _) | (with_reducible exact Mem.ev_zero _ _ _) | (with_reducible (apply Eq.trans (Mem.ev_tmp _ _ _)); simp only [List.getD_cons_succ, List.getD_cons_zero] <;> rfl)) (fun w' hw' => sb_cell hw' cn NB.out) Try.underlying3 (by rfl) ?_
      (simp only [Act.put, List.setIfInBounds_toArray, List.set_cons_zero, List.set_cons_succ])
      refine plan_bin _ _ _ _ _ _ _ _ (by rfl) (by rfl) (by rfl) (by first | (with_reducible exact Mem.ev_const _ _) | (with_reducible exact Mem.ev_zero _ _ _) | (with_reducible (apply Eq.trans (Mem.ev_tmp _ _ _)); simp only [List.getD_cons_succ, List.getD_cons_zero] <;> rfl)) (by first | (with_reducible exact Mem.ev_const _ _) | (with_reducible exact Mem.ev_zero _ _ _) | (with_reducible (apply Eq.trans (Mem.ev_tmp _ _ _)); simp only [List.getD_cons_succ, List.getD_cons_zero] <;> rfl)) (fun wx => o_imul _ _ _ _ ((q : Nat) : Int) 256 ((q * 256 : Nat) : Int) (by omega) (by omega) (by omega) wx) ?_
      (simp only [Act.put, List.setIfInBounds_toArray, List.set_cons_zero, List.set_cons_succ])
      (first | (refine plan_move _ _ (by rfl) (by rfl) (.inl (by rfl)) (by first | (with_reducible exact Mem.ev_const _ _) | (with_reducible exact Mem.ev_zero _ _ _) | (with_reducible (apply Eq.trans (Mem.ev_tmp _ _ _)); simp only [List.getD_cons_succ, List.getD_cons_zero] <;> rfl)) ?_) | (refine plan_move _ _ (by rfl) (by rfl) (.inr (by rfl)) (by first | (with_reducible exact Mem.ev_const _ _) | (with_reducible exact Mem.ev_zero _ _ _) | (with_reducible (apply Eq.trans (Mem.ev_tmp _ _ _)); simp only [List.getD_cons_succ, List.getD_cons_zero] <;> rfl)) ?_) | (refine plan_pick_t _ _ _ _ (by rfl) (by rfl) (by rfl) (by first | (with_reducible exact Mem.ev_const _ _) | (with_reducible exact Mem.ev_zero _ _ _) | (with_reducible (apply Eq.trans (Mem.ev_tmp _ _ _)); simp only [List.getD_cons_succ, List.getD_cons_zero] <;> rfl)) (by first | (with_reducible exact Mem.ev_const _ _) | (with_reducible exact Mem.ev_zero _ _ _) | (with_reducible (apply Eq.trans (Mem.ev_tmp _ _ _)); simp only [List.getD_cons_succ, List.getD_cons_zero] <;> rfl)) ?_) | (refine plan_pick_f _ _ _ _ (by rfl) (by rfl) (by rfl) (by first | (with_reducible exact Mem.ev_const _ _) | (with_reducible exact Mem.ev_zero _ _ _) | (with_reducible (apply Eq.trans (Mem.ev_tmp _ _ _)); simp only [List.getD_cons_succ, List.getD_cons_zero] <;> rfl)) (by first | (with_reducible exact Mem.ev_const _ _) | (with_reducible exact Mem.ev_zero _ _ _) | (with_reducible (apply Eq.trans (Mem.ev_tmp _ _ _)); simp only [List.getD_cons_succ, List.getD_cons_zero] <;> rfl)) ?_))
      (simp only [Act.put, List.setIfInBounds_toArray, List.set_cons_zero, List.set_cons_succ])
      refine plan_nilcheck _ ⟨br, 0, none⟩ (by rfl) (by rfl) (by rfl) (by first | (with_reducible exact Mem.ev_const _ _) | (with_reducible exact Mem.ev_zero _ _ _) | (with_reducible (apply Eq.trans (Mem.ev_tmp _ _ _)); simp only [List.getD_cons_succ, List.getD_cons_zero] <;> rfl)) ?_
      (simp only [Act.put, List.setIfInBounds_toArray, List.set_cons_zero, List.set_cons_succ])
      refine plan_field 32 _ 2 br 0 ⟨br, 2, none⟩ (by rfl) (by rfl) (by rfl) (by first | (with_reducible exact Mem.ev_const _ _) | (with_reducible exact Mem.ev_zero _ _ _) | (with_reducible (apply Eq.trans (Mem.ev_tmp _ _ _)); simp only [List.getD_cons_succ, List.getD_cons_zero] <;> rfl)) (fun wx => by go_simp) ?_
      (simp only [Act.put, List.setIfInBounds_toArray, List.set_cons_zero, List.set_cons_succ])
      refine plan_cell 28 _ _ (.slice (some ⟨b1, o1, none⟩) M capw) _ (by rfl) (by rfl) (by rfl) (by first | (with_reducible exact Mem.ev_const _ _) | (with_reducible exact Mem.ev_zero _ _ _) | (with_reducible (apply Eq.trans (Mem.ev_tmp _ _ _)); simp only [List.getD_cons_succ, List.getD_cons_zero] <;> rfl)) (fun w' hw' => sb_two hw') Try.underlying28 (by rfl) ?_
      (simp only [Act.put, List.setIfInBounds_toArray, List.set_cons_zero, List.set_cons_succ])
      (first | (refine plan_move _ _ (by rfl) (by rfl) (.inl (by rfl)) (by first | (with_reducible exact Mem.ev_const _ _) | (with_reducible exact Mem.ev_zero _ _ _) | (with_reducible (apply Eq.trans (Mem.ev_tmp _ _ _)); simp only [List.getD_cons_succ, List.getD_cons_zero] <;> rfl)) ?_) | (refine plan_move _ _ (by rfl) (by rfl) (.inr (by rfl)) (by first | (with_reducible exact Mem.ev_const _ _) | (with_reducible exact Mem.ev_zero _ _ _) | (with_reducible (apply Eq.trans (Mem.ev_tmp _ _ _)); simp only [List.getD_cons_succ, List.getD_cons_zero] <;> rfl)) ?_) | (refine plan_pick_t _ _ _ _ (by rfl) (by rfl) (by rfl) (by first | (with_reducible exact Mem.ev_const _ _) | (with_reducible exact Mem.ev_zero _ _ _) | (with_reducible (apply Eq.trans (Mem.ev_tmp _ _ _)); simp only [List.getD_cons_succ, List.getD_cons_zero] <;> rfl)) (by first | (with_reducible exact Mem.ev_const _ _) | (with_reducible exact Mem.ev_zero _ _ _) | (with_reducible (apply Eq.trans (Mem.ev_tmp _ _ _)); simp only [List.getD_cons_succ, List.getD_cons_zero] <;> rfl)) ?_) | (refine plan_pick_f _ _ _ _ (by rfl) (by rfl) (by rfl) (by first | (with_reducible exact Mem.ev_const _ _) | (with_reducible exact Mem.ev_zero _ _ _) | (with_reducible (apply Eq.trans (Mem.ev_tmp _ _ _)); simp only [List.getD_cons_succ, List.getD_cons_zero] <;> rfl)) (by first | (with_reducible exact Mem.ev_const _ _) | (with_reducible exact Mem.ev_zero _ _ _) | (with_reducible (apply Eq.trans (Mem.ev_tmp _ _ _)); simp only [List.getD_cons_succ, List.getD_cons_zero] <;> rfl)) ?_))
      (simp only [Act.put, List.setIfInBounds_toArray, List.set_cons_zero, List.set_cons_succ])
      refine plan_index_z 28 48 _ _ b1 o1 M capw 2 j (by rfl) (by rfl) (by rfl) (by first | (with_reducible exact Mem.ev_const _ _) | (with_reducible exact Mem.ev_zero _ _ _) | (with_reducible (apply Eq.trans (Mem.ev_tmp _ _ _)); simp only [List.getD_cons_succ, List.getD_cons_zero] <;> rfl)) (by first | (with_reducible exact Mem.ev_const _ _) | (with_reducible exact Mem.ev_zero _ _ _) | (with_reducible (apply Eq.trans (Mem.ev_tmp _ _ _)); simp only [List.getD_cons_succ, List.getD_cons_zero] <;> rfl)) (by omega) Try.underlying28 (by kernel_rfl) ?_
      (simp only [Act.put, List.setIfInBounds_toArray, List.set_cons_zero, List.set_cons_succ])
      refine plan_field 48 _ 1 b1 (o1 + j * 2) ⟨b1, o1 + j * 2 + 1, none⟩ (by rfl) (by rfl) (by rfl) (by first | (with_reducible exact Mem.ev_const _ _) | (with_reducible exact Mem.ev_zero _ _ _) | (with_reducible (apply Eq.trans (Mem.ev_tmp _ _ _)); simp only [List.getD_cons_succ, List.getD_cons_zero] <;> rfl)) (fun wx => by go_simp) ?_
      (simp only [Act.put, List.setIfInBounds_toArray, List.set_cons_zero, List.set_cons_succ])
      refine plan_cell 27 _ _ (.slice a3 256 cap3) _ (by rfl) (by rfl) (by rfl) (by first | (with_reducible exact Mem.ev_const _ _) | (with_reducible exact Mem.ev_zero _ _ _) | (with_reducible (apply Eq.trans (Mem.ev_tmp _ _ _)); simp only [List.getD_cons_succ, List.getD_cons_zero] <;> rfl)) (fun w' hw' => sb_cell hw' ch NB.out) Try.underlying27 (by rfl) ?_
      (simp only [Act.put, List.setIfInBounds_toArray, List.set_cons_zero, List.set_cons_succ])
      refine plan_sole_cell 27 _ _ (.slice ab (N * 256) capb) _ (by rfl) (by rfl) (by rfl) (by first | (with_reducible exact Mem.ev_const _ _) | (with_reducible exact Mem.ev_zero _ _ _) | (with_reducible (apply Eq.trans (Mem.ev_tmp _ _ _)); simp only [List.getD_cons_succ, List.getD_cons_zero] <;> rfl)) (by exact c1) Try.underlying27 (by rfl) S0.out ?_
      (simp only [Act.put, List.setIfInBounds_toArray, List.set_cons_zero, List.set_cons_succ])
      refine plan_call 44 _ _ _ (by kernel_rfl) (by rfl) (by rfl) (by rfl) (by first | exact Mem.ev_none _ | (simp only [List.map_toArray, List.map_cons, List.map_nil, Mem.ev_tmp, List.getD_cons_succ, List.getD_cons_zero] <;> rfl)) ?_
      refine LA.out.mono ?_
      rintro o w2 ⟨v2, rfl, ho2, hb2⟩
      obtain ⟨a2, c2', rfl⟩ := own_hd ho2 HL2.out
      have B2 : Hid (Below wr.heap.size wr w2) := (Below.refl _ _).drew.trans hb2
      have O2 := Lib.hid ho2
      clear ho2 hb2 LA
      refine ⟨_, rfl, sb_of HROW.out B2.out, ?_⟩
      (simp only [Act.put, List.setIfInBounds_toArray, List.set_cons_zero, List.set_cons_succ])
      refine plan_nilcheck _ ⟨br, 0, none⟩ (by rfl) (by rfl) (by rfl) (by first | (with_reducible exact Mem.ev_const _ _) | (with_reducible exact Mem.ev_zero _ _ _) | (with_reducible (apply Eq.trans (Mem.ev_tmp _ _ _)); simp only [List.getD_cons_succ, List.getD_cons_zero] <;> rfl)) ?_
      (simp only [Act.put, List.setIfInBounds_toArray, List.set_cons_zero, List.set_cons_succ])
      refine plan_field 32 _ 1 br 0 ⟨br, 1, none⟩ (by rfl) (by rfl) (by rfl) (by first | (with_reducible exact Mem.ev_const _ _) | (with_reducible exact Mem.ev_zero _ _ _) | (with_reducible (apply Eq.trans (Mem.ev_tmp _ _ _)); simp only [List.getD_cons_succ, List.getD_cons_zero] <;> rfl)) (fun wx => by go_simp) ?_
      (simp only [Act.put, List.setIfInBounds_toArray, List.set_cons_zero, List.set_cons_succ])
      refine plan_store_one 27 _ _ br 1 (.slice a2 L2 c2') _ 32 (by rfl) (by rfl) (by rfl) (by rfl) (by first | (with_reducible exact Mem.ev_const _ _) | (with_reducible exact Mem.ev_zero _ _ _) | (with_reducible (apply Eq.trans (Mem.ev_tmp _ _ _)); simp only [List.getD_cons_succ, List.getD_cons_zero] <;> rfl)) (by first | (with_reducible exact Mem.ev_const _ _) | (with_reducible exact Mem.ev_zero _ _ _) | (with_reducible (apply Eq.trans (Mem.ev_tmp _ _ _)); simp only [List.getD_cons_succ, List.getD_cons_zero] <;> rfl)) (by rfl) infoBs (HROW.out.below B2.out HV.out.br) (by simp [stRow]) (sb_set HROW.out B2.out _) ?_
      refine plan_nil ?_
      have R8 := Lib.hid (binv_next (N := N) HV.out H2.out H3.out B2.out HN.out O2.out ((HROW.out.below B2.out HV.out.br).set 1 _) (fun k hk => heap_setCell_other w2 ⟨br, 1, none⟩ k _ hk) (fun B a hB hle => hB.setCell hle _))
      go_wp2_with fail
      go_roundw
      case rel => exact ⟨j + 1, by omega, by go_num, by rw [E1.out]; exact R8.out⟩
      case measure => simp [intOf]; omega
    · have hjm : j = M := by omega
      have hge : ¬ (j : Int) < (M : Int) := by omega
      obtain ⟨F', vb, h1, h2, h3⟩ := hI
      rw [hjm] at h1
      have HV := Lib.hid h1; have H2 := Lib.hid h2; have H3 := Lib.hid h3
      clear h1 h2 h3 hjm hlt hj
      go_wp2_with (first
        | (refine Mem.wpList_store_one (by rfl) 28 _ _ (by rfl) (by rfl) br 2 (.slice none 0 0) (by rfl) (by rfl) (by rfl) infoPuts _ 32 HV.out.row (by simp [stRow]) ?_; intro w8 ha ho hk; have R8 := Lib.hid (rv_set (n' := s.n) (s' := { s with b := flushTo s.w s.b M, w := [] }) HV.out (Below.refl _ _) rfl (by exact ha) ho hk ⟨(four_old HV.out.four (Below.refl _ _)).fb, wPut_nil _ _, (four_old HV.out.four (Below.refl _ _)).fs, (four_old HV.out.four (Below.refl _ _)).ft⟩); have HROW8 := Lib.hid R8.out.1.row; have T8 : Hid (RdR w8 1 (.slice at4 TT capt) TT (i64s s.t)) := (by have h : RdR w8 1 (.slice at4 TT capt) s.t.length (i64s s.t) := R8.out.1.four.ft.rd; rw [← HTT.out] at h; exact h); have c4 : w8.cell? ⟨br, 4, none⟩ = some (.slice at4 TT capt) := (by rw [HROW8.out.cell]; rfl); clear ha ho hk)
        | (at_builtin; refine wpList_append_rows (by rfl) _ _ 30 (by rfl) (.slice at4 TT capt) 0 TT 1 (i64s s.t) (.int .i64 0) 8 elemRI (by rfl) (by decide) (by rfl) (ownsRow_nil0 w8 w8.heap.size _ 1) (by rfl) T8.out (i64s_one _) (by omega) (by omega) (Nat.le_refl _) ?_; intro v9 w9 ho9 _ hb9; have O9 := Lib.hid ho9; have B9 := Lib.hid hb9; clear ho9 hb9)
        | (at_builtin; refine wpList_append_rows (by rfl) _ _ 30 (by rfl) (.slice (some ⟨w9.heap.size, 0, none⟩) 1 1) (0 + TT) 1 1 [.int .i64 (-1)] (.int .i64 0) 8 elemRI (by rfl) (by decide) (by rfl) (ownsRow_below O9.out ((Below.refl _ _).alloc (Nat.le_refl _) _)) (by rfl) (by exact rdR_new (e := 3) (C := #[.int .i64 (-1)])) (by simp [Value.oneCell']) (by omega) (by omega) (by have h9 := B9.out.size; simp; omega) ?_; intro v11 w11 ho11 _ hb11; rw [Nat.zero_add] at ho11; have B11 := Lib.hid ((B9.out.alloc B9.out.size _).trans hb11); obtain ⟨a11, c11, rfl⟩ := rows_hd ho11; have O11 := Lib.hid ho11; clear ho11 hb11)
        | (refine Mem.wpList_store_one (by rfl) 30 _ _ (by rfl) (by rfl) br 4 (.slice a11 (TT + 1) c11) (by rfl) (by rfl) (by rfl) infoInts _ 32 (HROW8.out.below B11.out R8.out.1.br) (by simp [stRow]) ?_; intro w12 ha ho hk; have R12 := Lib.hid (rv_set (n' := s.n) (s' := { s with b := flushTo s.w s.b M, w := [], t := s.t ++ [-1] }) R8.out.1 B11.out rfl (by exact ha) ho hk ⟨(four_old R8.out.1.four B11.out).fb, (four_old R8.out.1.four B11.out).fw, (four_old R8.out.1.four B11.out).fs, wtr_snoc R8.out.1.br HTT.out O11.out⟩); clear ha ho hk))
      go_ret
      refine ⟨rfl, ?_⟩
      have e : stFlush s = { s with b := flushTo s.w s.b M, w := [], t := s.t ++ [-1] } := by rw [stFlush, HM.out]
      rw [e]
      exact StEnd.trans H3.out H2.out (StEnd.trans R8.out.2 grow_ext (rv_end R12.out.1 R12.out.2))
end Sha
end Go.Proofs.Ytkgpcgkikenljaa
