/- The law's step: one call at the program's store and at the document's; both tell the same. -/
import Derived.Test.YtkgpcgkikenljaaDevTwo
import Derived.Deep.Cut
namespace Go.Proofs.Ytkgpcgkikenljaa
namespace Sha
open Go.RowKit Mem
theorem readTo_len {n k : Nat} {l : List (Nat × List (BitVec 8))} {d : List (BitVec 8)} (h : WfP n l) (hd : d.length = 256) : ∀ j, j ≤ l.length → (readTo k d l j).length = 256
  | 0, _ => hd
  | j + 1, hj => by
    rw [readTo]
    split
    · exact (h j (by omega)).2
    · exact readTo_len h hd j (by omega)
theorem stRead_len {m : Nat} {s : St6} (h : Ok6 m s) {n : Nat} (hn : n < s.n) : (stRead s n).length = 256 := by
  have h1 : (blkOf s.b n).length = 256 := by rw [blkOf, List.length_take, List.length_drop, h.b]; omega
  exact readTo_len h.wf h1 _ (Nat.le_refl _)
theorem slB_blk {E : Foot} {w : World} {g o n c : Nat} {l : List (BitVec 8)} (h : Sl w (.slice (some ⟨g, o, none⟩) n c) l) (hE : E g) : SlB E w (.slice (some ⟨g, o, none⟩) n c) l := by
  obtain ⟨a, cap, e, hc, hr⟩ := h
  injection e with e1 e2 e3
  subst e1; subst e2; subst e3
  refine ⟨by rw [u8s_length, Nat.mul_one], some ⟨g, o, none⟩, c, rfl, hc, fun hne => ?_⟩
  obtain ⟨bb, oo, ea, hlt, hcell⟩ := hr (fun h0 => hne (by rw [h0]; rfl))
  injection ea with ea
  injection ea with e4 e5 _
  subst e4; subst e5
  refine ⟨g, o, rfl, hE, hlt, fun j u hu => ?_⟩
  have hj : j < l.length := by have := (List.getElem?_eq_some_iff.1 hu).1; rwa [u8s_length] at this
  rw [hcell j hj, ← u8s_get l j hj, hu]
theorem pieceA_some (g o cap i : Nat) : ∃ o', pieceA (some ⟨g, o, none⟩) cap i = some ⟨g, o', none⟩ := by
  unfold pieceA
  split
  · exact ⟨o, rfl⟩
  · exact ⟨o + i, by simp [Addr.add_mid]⟩
section
variable {E : Foot} {w : World} {g : Nat} {x : BitVec 8}
theorem block_all {b : Nat} (h : At w g (u8s (List.replicate 256 x)).toArray 5) : SlB (fun k => k = b ∨ k = g) w.drew (.slice (some ⟨g, 0, none⟩) 256 256) (List.replicate 256 x) :=
  slB_blk (at_sl (w := w.drew) h.drew (List.length_replicate (n := 256))) (.inr rfl)
theorem block_part {b : Nat} (h : At w g (u8s (List.replicate 256 x)).toArray 5) (m : Nat) (hm : m ≤ 256) : SlB (fun k => k = b ∨ k = g) w.drew (.slice (pieceA (some ⟨g, 0, none⟩) 256 0) m 256) (List.replicate m x) := by
  have h1 := sl_to (m := m) (at_sl (w := w.drew) h.drew (List.length_replicate (n := 256))) (List.length_replicate (n := 256)).symm hm
  rw [List.take_replicate, Nat.min_eq_left hm] at h1
  obtain ⟨o', e⟩ := pieceA_some g 0 256 0
  rw [e] at h1 ⊢
  exact slB_blk h1 (.inr rfl)
theorem block_tail {b : Nat} (h : At w g (u8s (List.replicate 256 x)).toArray 5) : SlB (fun k => k = b ∨ k = g) w.drew (.slice (pieceA (some ⟨g, 0, none⟩) 256 1) 255 255) (List.replicate 255 x) := by
  have h1 := sl_from (m := 1) (at_sl (w := w.drew) h.drew (List.length_replicate (n := 256))) (List.length_replicate (n := 256)).symm (by decide)
  rw [List.drop_replicate] at h1
  obtain ⟨o', e⟩ := pieceA_some g 0 256 1
  rw [e] at h1 ⊢
  exact slB_blk h1 (.inr rfl)
end
theorem conv_bi (x : BitVec 8) (w : World) : (convert 5 3 (.int .u8 (B8 x))).run Try.prog w = .ok (.int .i64 (B8 x)) w := by
  have h0 := B8_lo x
  have h1 := B8_hi x
  go_simp
  exact i64_id _ (by omega) (by omega)
/-- What a step makes of a store. -/
def doSt (s : St6) (x : Step6) : St6 :=
  if B8 x.k % 8 = 2 then s
  else if B8 x.k % 8 = 3 then stFlush s
  else if B8 x.k % 8 = 4 then stCrash s x.q x.n x.a
  else if B8 x.k % 8 = 5 then (if x.n < 0 ∨ (s.n : Int) ≤ x.n ∨ x.a < 0 ∨ 256 < x.a ∨ 256 - x.a < (x.x.toNat : Int) then s else stTamper s (x.n.toNat * 256 + x.a.toNat) (List.replicate x.x.toNat x.x))
  else if B8 x.k % 8 = 6 then (if s.sh.length < 16 then stPut s else s)
  else if B8 x.k % 8 = 7 then (if x.a < 0 ∨ (s.sh.length : Int) ≤ x.a then s else stRestore s x.a.toNat)
  else if x.q % 16 = 5 ∨ x.n < 0 ∨ (s.n : Int) ≤ x.n then s else stWrite s x.n.toNat (List.replicate 256 x.x)
def goodS6 (x : Step6) : Prop := (-9223372036854775808 ≤ x.n ∧ x.n ≤ 9223372036854775807) ∧ (-9223372036854775808 ≤ x.a ∧ x.a ≤ 9223372036854775807) ∧ x.q < 18446744073709551616
set_option maxRecDepth 100000 in
set_option maxHeartbeats 8000000 in
theorem do_all {R : StAcc} (C : DevC R) {bs br m : Nat} {F G : Foot} {s : St6} (x : Step6) (w : World) (hp : Pair R bs br F G s w) (hok : Ok6 m s) (hm : m ≤ 900) (hx : goodS6 x) :
    Calls Try.prog 11 #[rq bs, rq br, .agg (stepC6 x)] w fun e w' => e = .returned (.bool true) ∧ Ok6 (m + 1) (doSt s x) ∧ (doSt s x).n = s.n ∧ DoEnd R bs br F G w (doSt s x) w' := by
  have D := Lib.hid (doI_start C hp (.cells (stepC6 x) 39))
  have AX := Lib.hid (at_new w (stepC6 x) 39)
  have CC := Lib.hid C; have OKM := Lib.hid hok; have OK := Lib.hid (hok.mono (show m ≤ 1000 by omega)); have OK1 := Lib.hid (hok.mono (Nat.le_succ m)); have XN := Lib.hid hx.1; have XA := Lib.hid hx.2.1; have XQ := Lib.hid hx.2.2
  have xq := hx.2.2
  have k0 := B8_lo x.k
  have k1 := B8_hi x.k
  have x0 := B8_lo x.x
  have x1 := B8_hi x.x
  have hxb : B8 x.x = (x.x.toNat : Int) := rfl
  have h8 : B8 x.k % 8 = 0 ∨ B8 x.k % 8 = 1 ∨ B8 x.k % 8 = 2 ∨ B8 x.k % 8 = 3 ∨ B8 x.k % 8 = 4 ∨ B8 x.k % 8 = 5 ∨ B8 x.k % 8 = 6 ∨ B8 x.k % 8 = 7 := by omega
  clear C hp hok hx
  rcases h8 with h8 | h8 | h8 | h8 | h8 | h8 | h8 | h8
  · by_cases hq : x.q % 16 = 5
    · have ds : doSt s x = s := by unfold doSt; rw [if_neg (by omega : ¬ B8 x.k % 8 = 2), if_neg (by omega : ¬ B8 x.k % 8 = 3), if_neg (by omega : ¬ B8 x.k % 8 = 4), if_neg (by omega : ¬ B8 x.k % 8 = 5), if_neg (by omega : ¬ B8 x.k % 8 = 6), if_neg (by omega : ¬ B8 x.k % 8 = 7), if_pos (by omega : x.q % 16 = 5 ∨ x.n < 0 ∨ (s.n : Int) ≤ x.n)]
      have DS := Lib.hid ds
      clear ds
      have hq2 : (x.q : Int) % 16 = 5 := by omega
      have BAD : Hid (x.n < 0 ∨ (s.n : Int) ≤ x.n ∨ (List.replicate 255 x.x).length ≠ 256) := .inr (.inr (by rw [List.length_replicate]; decide))
      go_enter Try.func11, Try.ntmps11
      go_upto_region 1 with fail
      generalize w.alloc (.cells (stepC6 x) 39) = wk at *
      have d0 : wk.cell? ⟨w.heap.size, 0, none⟩ = some (.int .u8 (B8 x.k)) := AX.out.cell' 0 rfl
      have d1 : wk.cell? ⟨w.heap.size, 1, none⟩ = some (.int .i64 x.n) := AX.out.cell' 1 rfl
      have d2 : wk.cell? ⟨w.heap.size, 2, none⟩ = some (.int .i64 x.a) := AX.out.cell' 2 rfl
      have d3 : wk.cell? ⟨w.heap.size, 3, none⟩ = some (.int .u8 (B8 x.x)) := AX.out.cell' 3 rfl
      have d4 : wk.cell? ⟨w.heap.size, 4, none⟩ = some (.int .u64 (x.q : Int)) := AX.out.cell' 4 rfl
      go_wp2_with fail
      refine (block_any x.x _).mono ?_
      rintro e w4 ⟨g, rfl, ha, hg, hb⟩
      have D4 := Lib.hid (D.out.add CC.out hb (fun k => k = w.heap.size ∨ k = g) (fun k hk => hk.imp id (fun h => by subst h; exact ⟨hg, ha.lt⟩)))
      have AX4 := Lib.hid (AX.out.below hb AX.out.lt)
      have G4 := Lib.hid ha
      rw [List.length_replicate]
      clear ha hg hb
      clear D AX d0 d1 d2 d3 d4
      have d1 : w4.cell? ⟨w.heap.size, 1, none⟩ = some (.int .i64 x.n) := AX4.out.cell' 1 rfl
      have d2 : w4.cell? ⟨w.heap.size, 2, none⟩ = some (.int .i64 x.a) := AX4.out.cell' 2 rfl
      have d3 : w4.cell? ⟨w.heap.size, 3, none⟩ = some (.int .u8 (B8 x.x)) := AX4.out.cell' 3 rfl
      have d4 : w4.cell? ⟨w.heap.size, 4, none⟩ = some (.int .u64 (x.q : Int)) := AX4.out.cell' 4 rfl
      have SL4 := Lib.hid (at_sl G4.out (List.length_replicate (n := 256)))
      go_wp2_with (refine wpList_piece_from (by rfl) 27 _ _ (by rfl) Try.underlying27 (some ⟨g, 0, none⟩) 256 256 1 (List.replicate 256 x.x) (List.length_replicate (n := 256)) (by rfl) SL4.out (by rfl) (by decide) ?_; intro _)
      have SX : Hid (SlB (fun k => k = w.heap.size ∨ k = g) w4.drew (.slice (pieceA (some ⟨g, 0, none⟩) 256 1) 255 255) (List.replicate 255 x.x)) := block_tail G4.out
      have D := Lib.hid (DoI.drew CC.out D4.out)
      have AX := Lib.hid AX4.out.drew
      clear D4 AX4 G4 d1 d2 d3 d4
      refine wp_region_plan_in (fun w' => At w' w.heap.size (stepC6 x) 39) (.take 0 (.take 1 (.take 2 (.take 3 (.take 5 (.take 6 (.take 7 (.take 8 (.sole 4 (.sole 9 (.take 10 (.take 11 .done)))))))))))) (by kernel_rfl) (by kernel_rfl) (by kernel_rfl) AX.out.drew ?_
      (first | (refine plan_move _ _ (by rfl) (by rfl) (.inl (by rfl)) (by first | (with_reducible exact Mem.ev_const _ _) | (with_reducible exact Mem.ev_zero _ _ _) | (with_reducible (apply Eq.trans (Mem.ev_tmp _ _ _)); simp only [List.getD_cons_succ, List.getD_cons_zero] <;> rfl)) ?_) | (refine plan_move _ _ (by rfl) (by rfl) (.inr (by rfl)) (by first | (with_reducible exact Mem.ev_const _ _) | (with_reducible exact Mem.ev_zero _ _ _) | (with_reducible (apply Eq.trans (Mem.ev_tmp _ _ _)); simp only [List.getD_cons_succ, List.getD_cons_zero] <;> rfl)) ?_) | (refine plan_pick_t _ _ _ _ (by rfl) (by rfl) (by rfl) (by first | (with_reducible exact Mem.ev_const _ _) | (with_reducible exact Mem.ev_zero _ _ _) | (with_reducible (apply Eq.trans (Mem.ev_tmp _ _ _)); simp only [List.getD_cons_succ, List.getD_cons_zero] <;> rfl)) (by first | (with_reducible exact Mem.ev_const _ _) | (with_reducible exact Mem.ev_zero _ _ _) | (with_reducible (apply Eq.trans (Mem.ev_tmp _ _ _)); simp only [List.getD_cons_succ, List.getD_cons_zero] <;> rfl)) ?_) | (refine plan_pick_f _ _ _ _ (by rfl) (by rfl) (by rfl) (by first | (with_reducible exact Mem.ev_const _ _) | (with_reducible exact Mem.ev_zero _ _ _) | (with_reducible (apply Eq.trans (Mem.ev_tmp _ _ _)); simp only [List.getD_cons_succ, List.getD_cons_zero] <;> rfl)) (by first | (with_reducible exact Mem.ev_const _ _) | (with_reducible exact Mem.ev_zero _ _ _) | (with_reducible (apply Eq.trans (Mem.ev_tmp _ _ _)); simp only [List.getD_cons_succ, List.getD_cons_zero] <;> rfl)) ?_))
      (simp only [Act.put, List.setIfInBounds_toArray, List.set_cons_zero, List.set_cons_succ])
      refine plan_field 39 _ 1 w.heap.size 0 ⟨w.heap.size, 1, none⟩ (by rfl) (by rfl) (by rfl) (by first | (with_reducible exact Mem.ev_const _ _) | (with_reducible exact Mem.ev_zero _ _ _) | (with_reducible (apply Eq.trans (Mem.ev_tmp _ _ _)); simp only [List.getD_cons_succ, List.getD_cons_zero] <;> rfl)) (fun wx => by go_simp) ?_
      (simp only [Act.put, List.setIfInBounds_toArray, List.set_cons_zero, List.set_cons_succ])
      refine plan_cell 3 _ _ (.int .i64 x.n) _ (by rfl) (by rfl) (by rfl) (by first | (with_reducible exact Mem.ev_const _ _) | (with_reducible exact Mem.ev_zero _ _ _) | (with_reducible (apply Eq.trans (Mem.ev_tmp _ _ _)); simp only [List.getD_cons_succ, List.getD_cons_zero] <;> rfl)) (fun w' hw' => hw'.cell' 1 rfl) Try.underlying3 (by rfl) ?_
      (simp only [Act.put, List.setIfInBounds_toArray, List.set_cons_zero, List.set_cons_succ])
      (first | (refine plan_move _ _ (by rfl) (by rfl) (.inl (by rfl)) (by first | (with_reducible exact Mem.ev_const _ _) | (with_reducible exact Mem.ev_zero _ _ _) | (with_reducible (apply Eq.trans (Mem.ev_tmp _ _ _)); simp only [List.getD_cons_succ, List.getD_cons_zero] <;> rfl)) ?_) | (refine plan_move _ _ (by rfl) (by rfl) (.inr (by rfl)) (by first | (with_reducible exact Mem.ev_const _ _) | (with_reducible exact Mem.ev_zero _ _ _) | (with_reducible (apply Eq.trans (Mem.ev_tmp _ _ _)); simp only [List.getD_cons_succ, List.getD_cons_zero] <;> rfl)) ?_) | (refine plan_pick_t _ _ _ _ (by rfl) (by rfl) (by rfl) (by first | (with_reducible exact Mem.ev_const _ _) | (with_reducible exact Mem.ev_zero _ _ _) | (with_reducible (apply Eq.trans (Mem.ev_tmp _ _ _)); simp only [List.getD_cons_succ, List.getD_cons_zero] <;> rfl)) (by first | (with_reducible exact Mem.ev_const _ _) | (with_reducible exact Mem.ev_zero _ _ _) | (with_reducible (apply Eq.trans (Mem.ev_tmp _ _ _)); simp only [List.getD_cons_succ, List.getD_cons_zero] <;> rfl)) ?_) | (refine plan_pick_f _ _ _ _ (by rfl) (by rfl) (by rfl) (by first | (with_reducible exact Mem.ev_const _ _) | (with_reducible exact Mem.ev_zero _ _ _) | (with_reducible (apply Eq.trans (Mem.ev_tmp _ _ _)); simp only [List.getD_cons_succ, List.getD_cons_zero] <;> rfl)) (by first | (with_reducible exact Mem.ev_const _ _) | (with_reducible exact Mem.ev_zero _ _ _) | (with_reducible (apply Eq.trans (Mem.ev_tmp _ _ _)); simp only [List.getD_cons_succ, List.getD_cons_zero] <;> rfl)) ?_))
      (simp only [Act.put, List.setIfInBounds_toArray, List.set_cons_zero, List.set_cons_succ])
      (first | (refine plan_move _ _ (by rfl) (by rfl) (.inl (by rfl)) (by first | (with_reducible exact Mem.ev_const _ _) | (with_reducible exact Mem.ev_zero _ _ _) | (with_reducible (apply Eq.trans (Mem.ev_tmp _ _ _)); simp only [List.getD_cons_succ, List.getD_cons_zero] <;> rfl)) ?_) | (refine plan_move _ _ (by rfl) (by rfl) (.inr (by rfl)) (by first | (with_reducible exact Mem.ev_const _ _) | (with_reducible exact Mem.ev_zero _ _ _) | (with_reducible (apply Eq.trans (Mem.ev_tmp _ _ _)); simp only [List.getD_cons_succ, List.getD_cons_zero] <;> rfl)) ?_) | (refine plan_pick_t _ _ _ _ (by rfl) (by rfl) (by rfl) (by first | (with_reducible exact Mem.ev_const _ _) | (with_reducible exact Mem.ev_zero _ _ _) | (with_reducible (apply Eq.trans (Mem.ev_tmp _ _ _)); simp only [List.getD_cons_succ, List.getD_cons_zero] <;> rfl)) (by first | (with_reducible exact Mem.ev_const _ _) | (with_reducible exact Mem.ev_zero _ _ _) | (with_reducible (apply Eq.trans (Mem.ev_tmp _ _ _)); simp only [List.getD_cons_succ, List.getD_cons_zero] <;> rfl)) ?_) | (refine plan_pick_f _ _ _ _ (by rfl) (by rfl) (by rfl) (by first | (with_reducible exact Mem.ev_const _ _) | (with_reducible exact Mem.ev_zero _ _ _) | (with_reducible (apply Eq.trans (Mem.ev_tmp _ _ _)); simp only [List.getD_cons_succ, List.getD_cons_zero] <;> rfl)) (by first | (with_reducible exact Mem.ev_const _ _) | (with_reducible exact Mem.ev_zero _ _ _) | (with_reducible (apply Eq.trans (Mem.ev_tmp _ _ _)); simp only [List.getD_cons_succ, List.getD_cons_zero] <;> rfl)) ?_))
      (simp only [Act.put, List.setIfInBounds_toArray, List.set_cons_zero, List.set_cons_succ])
      refine plan_field 39 _ 1 w.heap.size 0 ⟨w.heap.size, 1, none⟩ (by rfl) (by rfl) (by rfl) (by first | (with_reducible exact Mem.ev_const _ _) | (with_reducible exact Mem.ev_zero _ _ _) | (with_reducible (apply Eq.trans (Mem.ev_tmp _ _ _)); simp only [List.getD_cons_succ, List.getD_cons_zero] <;> rfl)) (fun wx => by go_simp) ?_
      (simp only [Act.put, List.setIfInBounds_toArray, List.set_cons_zero, List.set_cons_succ])
      refine plan_cell 3 _ _ (.int .i64 x.n) _ (by rfl) (by rfl) (by rfl) (by first | (with_reducible exact Mem.ev_const _ _) | (with_reducible exact Mem.ev_zero _ _ _) | (with_reducible (apply Eq.trans (Mem.ev_tmp _ _ _)); simp only [List.getD_cons_succ, List.getD_cons_zero] <;> rfl)) (fun w' hw' => hw'.cell' 1 rfl) Try.underlying3 (by rfl) ?_
      (simp only [Act.put, List.setIfInBounds_toArray, List.set_cons_zero, List.set_cons_succ])
      (first | (refine plan_move _ _ (by rfl) (by rfl) (.inl (by rfl)) (by first | (with_reducible exact Mem.ev_const _ _) | (with_reducible exact Mem.ev_zero _ _ _) | (with_reducible (apply Eq.trans (Mem.ev_tmp _ _ _)); simp only [List.getD_cons_succ, List.getD_cons_zero] <;> rfl)) ?_) | (refine plan_move _ _ (by rfl) (by rfl) (.inr (by rfl)) (by first | (with_reducible exact Mem.ev_const _ _) | (with_reducible exact Mem.ev_zero _ _ _) | (with_reducible (apply Eq.trans (Mem.ev_tmp _ _ _)); simp only [List.getD_cons_succ, List.getD_cons_zero] <;> rfl)) ?_) | (refine plan_pick_t _ _ _ _ (by rfl) (by rfl) (by rfl) (by first | (with_reducible exact Mem.ev_const _ _) | (with_reducible exact Mem.ev_zero _ _ _) | (with_reducible (apply Eq.trans (Mem.ev_tmp _ _ _)); simp only [List.getD_cons_succ, List.getD_cons_zero] <;> rfl)) (by first | (with_reducible exact Mem.ev_const _ _) | (with_reducible exact Mem.ev_zero _ _ _) | (with_reducible (apply Eq.trans (Mem.ev_tmp _ _ _)); simp only [List.getD_cons_succ, List.getD_cons_zero] <;> rfl)) ?_) | (refine plan_pick_f _ _ _ _ (by rfl) (by rfl) (by rfl) (by first | (with_reducible exact Mem.ev_const _ _) | (with_reducible exact Mem.ev_zero _ _ _) | (with_reducible (apply Eq.trans (Mem.ev_tmp _ _ _)); simp only [List.getD_cons_succ, List.getD_cons_zero] <;> rfl)) (by first | (with_reducible exact Mem.ev_const _ _) | (with_reducible exact Mem.ev_zero _ _ _) | (with_reducible (apply Eq.trans (Mem.ev_tmp _ _ _)); simp only [List.getD_cons_succ, List.getD_cons_zero] <;> rfl)) ?_))
      (simp only [Act.put, List.setIfInBounds_toArray, List.set_cons_zero, List.set_cons_succ])
      refine plan_call 20 _ _ _ (by kernel_rfl) (by rfl) (by rfl) (by rfl) (by first | exact Mem.ev_none _ | (simp only [List.map_toArray, List.map_cons, List.map_nil, Mem.ev_tmp, List.getD_cons_succ, List.getD_cons_zero] <;> rfl)) ?_
      refine (DoI.first CC.out D.out (fun F h => CC.out.writeBad x.n _ _ _ h OK.out SX.out.sl XN.out.1 XN.out.2 (by rw [List.length_replicate]; decide) BAD.out)).mono ?_
      rintro e w5 ⟨rfl, hd, hk⟩
      have D5 := Lib.hid hd
      have AX5 := Lib.hid (AX.out.kept hk (by first | exact rfl | exact .inl rfl))
      have SX5 := Lib.hid (SX.out.kept hk)
      clear hd hk D
      refine ⟨_, rfl, AX5.out, ?_⟩
      (simp only [Act.put, List.setIfInBounds_toArray, List.set_cons_zero, List.set_cons_succ])
      refine plan_call 33 _ _ _ (by kernel_rfl) (by rfl) (by rfl) (by rfl) (by first | exact Mem.ev_none _ | (simp only [List.map_toArray, List.map_cons, List.map_nil, Mem.ev_tmp, List.getD_cons_succ, List.getD_cons_zero] <;> rfl)) ?_
      refine (DoI.second CC.out D5.out (fun G h => rbad_end (rwrite_bad x.n _ _ _ h SX5.out.sl OK.out.n2 (by rw [List.length_replicate]; decide) BAD.out) h)).mono ?_
      rintro e w6 ⟨rfl, hd, hk⟩
      have D6 := Lib.hid hd
      have AX6 := Lib.hid (AX5.out.kept hk (by first | exact rfl | exact .inl rfl))
      clear hd hk D5
      refine ⟨_, rfl, AX6.out, ?_⟩
      (simp only [Act.put, List.setIfInBounds_toArray, List.set_cons_zero, List.set_cons_succ])
      refine plan_bin _ _ _ _ _ _ _ _ (by rfl) (by rfl) (by rfl) (by first | (with_reducible exact Mem.ev_const _ _) | (with_reducible exact Mem.ev_zero _ _ _) | (with_reducible (apply Eq.trans (Mem.ev_tmp _ _ _)); simp only [List.getD_cons_succ, List.getD_cons_zero] <;> rfl)) (by first | (with_reducible exact Mem.ev_const _ _) | (with_reducible exact Mem.ev_zero _ _ _) | (with_reducible (apply Eq.trans (Mem.ev_tmp _ _ _)); simp only [List.getD_cons_succ, List.getD_cons_zero] <;> rfl)) (fun wx => (by go_simp : (do eqGuard .eql 3 _ _ (.int .i64 1) (.int .i64 1); Go.binOp .eql 3 (.int .i64 1) (.int .i64 1) : Sem Value).run Try.prog wx = .ok (.bool true) wx)) ?_
      (simp only [Act.put, List.setIfInBounds_toArray, List.set_cons_zero, List.set_cons_succ])
      (first | (refine plan_move _ _ (by rfl) (by rfl) (.inl (by rfl)) (by first | (with_reducible exact Mem.ev_const _ _) | (with_reducible exact Mem.ev_zero _ _ _) | (with_reducible (apply Eq.trans (Mem.ev_tmp _ _ _)); simp only [List.getD_cons_succ, List.getD_cons_zero] <;> rfl)) ?_) | (refine plan_move _ _ (by rfl) (by rfl) (.inr (by rfl)) (by first | (with_reducible exact Mem.ev_const _ _) | (with_reducible exact Mem.ev_zero _ _ _) | (with_reducible (apply Eq.trans (Mem.ev_tmp _ _ _)); simp only [List.getD_cons_succ, List.getD_cons_zero] <;> rfl)) ?_) | (refine plan_pick_t _ _ _ _ (by rfl) (by rfl) (by rfl) (by first | (with_reducible exact Mem.ev_const _ _) | (with_reducible exact Mem.ev_zero _ _ _) | (with_reducible (apply Eq.trans (Mem.ev_tmp _ _ _)); simp only [List.getD_cons_succ, List.getD_cons_zero] <;> rfl)) (by first | (with_reducible exact Mem.ev_const _ _) | (with_reducible exact Mem.ev_zero _ _ _) | (with_reducible (apply Eq.trans (Mem.ev_tmp _ _ _)); simp only [List.getD_cons_succ, List.getD_cons_zero] <;> rfl)) ?_) | (refine plan_pick_f _ _ _ _ (by rfl) (by rfl) (by rfl) (by first | (with_reducible exact Mem.ev_const _ _) | (with_reducible exact Mem.ev_zero _ _ _) | (with_reducible (apply Eq.trans (Mem.ev_tmp _ _ _)); simp only [List.getD_cons_succ, List.getD_cons_zero] <;> rfl)) (by first | (with_reducible exact Mem.ev_const _ _) | (with_reducible exact Mem.ev_zero _ _ _) | (with_reducible (apply Eq.trans (Mem.ev_tmp _ _ _)); simp only [List.getD_cons_succ, List.getD_cons_zero] <;> rfl)) ?_))
      (simp only [Act.put, List.setIfInBounds_toArray, List.set_cons_zero, List.set_cons_succ])
      refine plan_nil ?_
      go_wp2_with fail
      go_ret
      rw [DS.out]
      exact ⟨rfl, OK1.out, rfl, D6.out.fin⟩
    · have hq2 : ¬ (x.q : Int) % 16 = 5 := by omega
      by_cases hN : 0 ≤ x.n ∧ x.n < (s.n : Int)
      · obtain ⟨n, HN'⟩ : ∃ n : Nat, x.n = (n : Int) := ⟨x.n.toNat, by omega⟩
        have NL : Hid (n < s.n) := (by show n < s.n; omega)
        have HN := Lib.hid HN'
        have ds : doSt s x = stWrite s n (List.replicate 256 x.x) := by unfold doSt; rw [if_neg (by omega : ¬ B8 x.k % 8 = 2), if_neg (by omega : ¬ B8 x.k % 8 = 3), if_neg (by omega : ¬ B8 x.k % 8 = 4), if_neg (by omega : ¬ B8 x.k % 8 = 5), if_neg (by omega : ¬ B8 x.k % 8 = 6), if_neg (by omega : ¬ B8 x.k % 8 = 7), if_neg (by omega : ¬ (x.q % 16 = 5 ∨ x.n < 0 ∨ (s.n : Int) ≤ x.n)), show x.n.toNat = n by omega]
        have DS := Lib.hid ds
        clear ds
        clear hN HN'
        go_enter Try.func11, Try.ntmps11
        go_upto_region 1 with fail
        generalize w.alloc (.cells (stepC6 x) 39) = wk at *
        have d0 : wk.cell? ⟨w.heap.size, 0, none⟩ = some (.int .u8 (B8 x.k)) := AX.out.cell' 0 rfl
        have d1 : wk.cell? ⟨w.heap.size, 1, none⟩ = some (.int .i64 (n : Int)) := AX.out.cell' 1 (by rw [← HN.out]; rfl)
        have d2 : wk.cell? ⟨w.heap.size, 2, none⟩ = some (.int .i64 x.a) := AX.out.cell' 2 rfl
        have d3 : wk.cell? ⟨w.heap.size, 3, none⟩ = some (.int .u8 (B8 x.x)) := AX.out.cell' 3 rfl
        have d4 : wk.cell? ⟨w.heap.size, 4, none⟩ = some (.int .u64 (x.q : Int)) := AX.out.cell' 4 rfl
        go_wp2_with fail
        refine (block_any x.x _).mono ?_
        rintro e w4 ⟨g, rfl, ha, hg, hb⟩
        have D4 := Lib.hid (D.out.add CC.out hb (fun k => k = w.heap.size ∨ k = g) (fun k hk => hk.imp id (fun h => by subst h; exact ⟨hg, ha.lt⟩)))
        have AX4 := Lib.hid (AX.out.below hb AX.out.lt)
        have G4 := Lib.hid ha
        rw [List.length_replicate]
        clear ha hg hb
        clear D AX d0 d1 d2 d3 d4
        have d1 : w4.cell? ⟨w.heap.size, 1, none⟩ = some (.int .i64 (n : Int)) := AX4.out.cell' 1 (by rw [← HN.out]; rfl)
        have d2 : w4.cell? ⟨w.heap.size, 2, none⟩ = some (.int .i64 x.a) := AX4.out.cell' 2 rfl
        have d3 : w4.cell? ⟨w.heap.size, 3, none⟩ = some (.int .u8 (B8 x.x)) := AX4.out.cell' 3 rfl
        have d4 : w4.cell? ⟨w.heap.size, 4, none⟩ = some (.int .u64 (x.q : Int)) := AX4.out.cell' 4 rfl
        go_wp2_with fail
        have SX : Hid (SlB (fun k => k = w.heap.size ∨ k = g) w4.drew (.slice (some ⟨g, 0, none⟩) 256 256) (List.replicate 256 x.x)) := block_all G4.out
        have D := Lib.hid (DoI.drew CC.out D4.out)
        have AX := Lib.hid AX4.out.drew
        clear D4 AX4 G4 d1 d2 d3 d4
        refine wp_region_plan_in (fun w' => At w' w.heap.size (stepC6 x) 39) (.take 0 (.take 1 (.take 2 (.take 3 (.take 5 (.take 6 (.take 7 (.take 8 (.sole 4 (.sole 9 (.take 10 (.take 11 .done)))))))))))) (by kernel_rfl) (by kernel_rfl) (by kernel_rfl) AX.out.drew ?_
        (first | (refine plan_move _ _ (by rfl) (by rfl) (.inl (by rfl)) (by first | (with_reducible exact Mem.ev_const _ _) | (with_reducible exact Mem.ev_zero _ _ _) | (with_reducible (apply Eq.trans (Mem.ev_tmp _ _ _)); simp only [List.getD_cons_succ, List.getD_cons_zero] <;> rfl)) ?_) | (refine plan_move _ _ (by rfl) (by rfl) (.inr (by rfl)) (by first | (with_reducible exact Mem.ev_const _ _) | (with_reducible exact Mem.ev_zero _ _ _) | (with_reducible (apply Eq.trans (Mem.ev_tmp _ _ _)); simp only [List.getD_cons_succ, List.getD_cons_zero] <;> rfl)) ?_) | (refine plan_pick_t _ _ _ _ (by rfl) (by rfl) (by rfl) (by first | (with_reducible exact Mem.ev_const _ _) | (with_reducible exact Mem.ev_zero _ _ _) | (with_reducible (apply Eq.trans (Mem.ev_tmp _ _ _)); simp only [List.getD_cons_succ, List.getD_cons_zero] <;> rfl)) (by first | (with_reducible exact Mem.ev_const _ _) | (with_reducible exact Mem.ev_zero _ _ _) | (with_reducible (apply Eq.trans (Mem.ev_tmp _ _ _)); simp only [List.getD_cons_succ, List.getD_cons_zero] <;> rfl)) ?_) | (refine plan_pick_f _ _ _ _ (by rfl) (by rfl) (by rfl) (by first | (with_reducible exact Mem.ev_const _ _) | (with_reducible exact Mem.ev_zero _ _ _) | (with_reducible (apply Eq.trans (Mem.ev_tmp _ _ _)); simp only [List.getD_cons_succ, List.getD_cons_zero] <;> rfl)) (by first | (with_reducible exact Mem.ev_const _ _) | (with_reducible exact Mem.ev_zero _ _ _) | (with_reducible (apply Eq.trans (Mem.ev_tmp _ _ _)); simp only [List.getD_cons_succ, List.getD_cons_zero] <;> rfl)) ?_))
        (simp only [Act.put, List.setIfInBounds_toArray, List.set_cons_zero, List.set_cons_succ])
        refine plan_field 39 _ 1 w.heap.size 0 ⟨w.heap.size, 1, none⟩ (by rfl) (by rfl) (by rfl) (by first | (with_reducible exact Mem.ev_const _ _) | (with_reducible exact Mem.ev_zero _ _ _) | (with_reducible (apply Eq.trans (Mem.ev_tmp _ _ _)); simp only [List.getD_cons_succ, List.getD_cons_zero] <;> rfl)) (fun wx => by go_simp) ?_
        (simp only [Act.put, List.setIfInBounds_toArray, List.set_cons_zero, List.set_cons_succ])
        refine plan_cell 3 _ _ (.int .i64 (n : Int)) _ (by rfl) (by rfl) (by rfl) (by first | (with_reducible exact Mem.ev_const _ _) | (with_reducible exact Mem.ev_zero _ _ _) | (with_reducible (apply Eq.trans (Mem.ev_tmp _ _ _)); simp only [List.getD_cons_succ, List.getD_cons_zero] <;> rfl)) (fun w' hw' => hw'.cell' 1 (by rw [← HN.out]; rfl)) Try.underlying3 (by rfl) ?_
        (simp only [Act.put, List.setIfInBounds_toArray, List.set_cons_zero, List.set_cons_succ])
        (first | (refine plan_move _ _ (by rfl) (by rfl) (.inl (by rfl)) (by first | (with_reducible exact Mem.ev_const _ _) | (with_reducible exact Mem.ev_zero _ _ _) | (with_reducible (apply Eq.trans (Mem.ev_tmp _ _ _)); simp only [List.getD_cons_succ, List.getD_cons_zero] <;> rfl)) ?_) | (refine plan_move _ _ (by rfl) (by rfl) (.inr (by rfl)) (by first | (with_reducible exact Mem.ev_const _ _) | (with_reducible exact Mem.ev_zero _ _ _) | (with_reducible (apply Eq.trans (Mem.ev_tmp _ _ _)); simp only [List.getD_cons_succ, List.getD_cons_zero] <;> rfl)) ?_) | (refine plan_pick_t _ _ _ _ (by rfl) (by rfl) (by rfl) (by first | (with_reducible exact Mem.ev_const _ _) | (with_reducible exact Mem.ev_zero _ _ _) | (with_reducible (apply Eq.trans (Mem.ev_tmp _ _ _)); simp only [List.getD_cons_succ, List.getD_cons_zero] <;> rfl)) (by first | (with_reducible exact Mem.ev_const _ _) | (with_reducible exact Mem.ev_zero _ _ _) | (with_reducible (apply Eq.trans (Mem.ev_tmp _ _ _)); simp only [List.getD_cons_succ, List.getD_cons_zero] <;> rfl)) ?_) | (refine plan_pick_f _ _ _ _ (by rfl) (by rfl) (by rfl) (by first | (with_reducible exact Mem.ev_const _ _) | (with_reducible exact Mem.ev_zero _ _ _) | (with_reducible (apply Eq.trans (Mem.ev_tmp _ _ _)); simp only [List.getD_cons_succ, List.getD_cons_zero] <;> rfl)) (by first | (with_reducible exact Mem.ev_const _ _) | (with_reducible exact Mem.ev_zero _ _ _) | (with_reducible (apply Eq.trans (Mem.ev_tmp _ _ _)); simp only [List.getD_cons_succ, List.getD_cons_zero] <;> rfl)) ?_))
        (simp only [Act.put, List.setIfInBounds_toArray, List.set_cons_zero, List.set_cons_succ])
        (first | (refine plan_move _ _ (by rfl) (by rfl) (.inl (by rfl)) (by first | (with_reducible exact Mem.ev_const _ _) | (with_reducible exact Mem.ev_zero _ _ _) | (with_reducible (apply Eq.trans (Mem.ev_tmp _ _ _)); simp only [List.getD_cons_succ, List.getD_cons_zero] <;> rfl)) ?_) | (refine plan_move _ _ (by rfl) (by rfl) (.inr (by rfl)) (by first | (with_reducible exact Mem.ev_const _ _) | (with_reducible exact Mem.ev_zero _ _ _) | (with_reducible (apply Eq.trans (Mem.ev_tmp _ _ _)); simp only [List.getD_cons_succ, List.getD_cons_zero] <;> rfl)) ?_) | (refine plan_pick_t _ _ _ _ (by rfl) (by rfl) (by rfl) (by first | (with_reducible exact Mem.ev_const _ _) | (with_reducible exact Mem.ev_zero _ _ _) | (with_reducible (apply Eq.trans (Mem.ev_tmp _ _ _)); simp only [List.getD_cons_succ, List.getD_cons_zero] <;> rfl)) (by first | (with_reducible exact Mem.ev_const _ _) | (with_reducible exact Mem.ev_zero _ _ _) | (with_reducible (apply Eq.trans (Mem.ev_tmp _ _ _)); simp only [List.getD_cons_succ, List.getD_cons_zero] <;> rfl)) ?_) | (refine plan_pick_f _ _ _ _ (by rfl) (by rfl) (by rfl) (by first | (with_reducible exact Mem.ev_const _ _) | (with_reducible exact Mem.ev_zero _ _ _) | (with_reducible (apply Eq.trans (Mem.ev_tmp _ _ _)); simp only [List.getD_cons_succ, List.getD_cons_zero] <;> rfl)) (by first | (with_reducible exact Mem.ev_const _ _) | (with_reducible exact Mem.ev_zero _ _ _) | (with_reducible (apply Eq.trans (Mem.ev_tmp _ _ _)); simp only [List.getD_cons_succ, List.getD_cons_zero] <;> rfl)) ?_))
        (simp only [Act.put, List.setIfInBounds_toArray, List.set_cons_zero, List.set_cons_succ])
        refine plan_field 39 _ 1 w.heap.size 0 ⟨w.heap.size, 1, none⟩ (by rfl) (by rfl) (by rfl) (by first | (with_reducible exact Mem.ev_const _ _) | (with_reducible exact Mem.ev_zero _ _ _) | (with_reducible (apply Eq.trans (Mem.ev_tmp _ _ _)); simp only [List.getD_cons_succ, List.getD_cons_zero] <;> rfl)) (fun wx => by go_simp) ?_
        (simp only [Act.put, List.setIfInBounds_toArray, List.set_cons_zero, List.set_cons_succ])
        refine plan_cell 3 _ _ (.int .i64 (n : Int)) _ (by rfl) (by rfl) (by rfl) (by first | (with_reducible exact Mem.ev_const _ _) | (with_reducible exact Mem.ev_zero _ _ _) | (with_reducible (apply Eq.trans (Mem.ev_tmp _ _ _)); simp only [List.getD_cons_succ, List.getD_cons_zero] <;> rfl)) (fun w' hw' => hw'.cell' 1 (by rw [← HN.out]; rfl)) Try.underlying3 (by rfl) ?_
        (simp only [Act.put, List.setIfInBounds_toArray, List.set_cons_zero, List.set_cons_succ])
        (first | (refine plan_move _ _ (by rfl) (by rfl) (.inl (by rfl)) (by first | (with_reducible exact Mem.ev_const _ _) | (with_reducible exact Mem.ev_zero _ _ _) | (with_reducible (apply Eq.trans (Mem.ev_tmp _ _ _)); simp only [List.getD_cons_succ, List.getD_cons_zero] <;> rfl)) ?_) | (refine plan_move _ _ (by rfl) (by rfl) (.inr (by rfl)) (by first | (with_reducible exact Mem.ev_const _ _) | (with_reducible exact Mem.ev_zero _ _ _) | (with_reducible (apply Eq.trans (Mem.ev_tmp _ _ _)); simp only [List.getD_cons_succ, List.getD_cons_zero] <;> rfl)) ?_) | (refine plan_pick_t _ _ _ _ (by rfl) (by rfl) (by rfl) (by first | (with_reducible exact Mem.ev_const _ _) | (with_reducible exact Mem.ev_zero _ _ _) | (with_reducible (apply Eq.trans (Mem.ev_tmp _ _ _)); simp only [List.getD_cons_succ, List.getD_cons_zero] <;> rfl)) (by first | (with_reducible exact Mem.ev_const _ _) | (with_reducible exact Mem.ev_zero _ _ _) | (with_reducible (apply Eq.trans (Mem.ev_tmp _ _ _)); simp only [List.getD_cons_succ, List.getD_cons_zero] <;> rfl)) ?_) | (refine plan_pick_f _ _ _ _ (by rfl) (by rfl) (by rfl) (by first | (with_reducible exact Mem.ev_const _ _) | (with_reducible exact Mem.ev_zero _ _ _) | (with_reducible (apply Eq.trans (Mem.ev_tmp _ _ _)); simp only [List.getD_cons_succ, List.getD_cons_zero] <;> rfl)) (by first | (with_reducible exact Mem.ev_const _ _) | (with_reducible exact Mem.ev_zero _ _ _) | (with_reducible (apply Eq.trans (Mem.ev_tmp _ _ _)); simp only [List.getD_cons_succ, List.getD_cons_zero] <;> rfl)) ?_))
        (simp only [Act.put, List.setIfInBounds_toArray, List.set_cons_zero, List.set_cons_succ])
        refine plan_call 20 _ _ _ (by kernel_rfl) (by rfl) (by rfl) (by rfl) (by first | exact Mem.ev_none _ | (simp only [List.map_toArray, List.map_cons, List.map_nil, Mem.ev_tmp, List.getD_cons_succ, List.getD_cons_zero] <;> rfl)) ?_
        refine (DoI.first CC.out D.out (fun F h => CC.out.write n _ _ _ h OK.out SX.out.sl NL.out (by rw [List.length_replicate]))).mono ?_
        rintro e w5 ⟨rfl, hd, hk⟩
        have D5 := Lib.hid hd
        have AX5 := Lib.hid (AX.out.kept hk (by first | exact rfl | exact .inl rfl))
        have SX5 := Lib.hid (SX.out.kept hk)
        clear hd hk D
        refine ⟨_, rfl, AX5.out, ?_⟩
        (simp only [Act.put, List.setIfInBounds_toArray, List.set_cons_zero, List.set_cons_succ])
        refine plan_call 33 _ _ _ (by kernel_rfl) (by rfl) (by rfl) (by rfl) (by first | exact Mem.ev_none _ | (simp only [List.map_toArray, List.map_cons, List.map_nil, Mem.ev_tmp, List.getD_cons_succ, List.getD_cons_zero] <;> rfl)) ?_
        refine (DoI.second CC.out D5.out (fun G h => rwrite_good n _ _ _ h SX5.out.sl OK.out.n2 NL.out (by rw [List.length_replicate]) (Nat.le_trans OK.out.w (by decide)) (Nat.le_trans OK.out.t (by decide)))).mono ?_
        rintro e w6 ⟨rfl, hd, hk⟩
        have D6 := Lib.hid hd
        have AX6 := Lib.hid (AX5.out.kept hk (by first | exact rfl | exact .inl rfl))
        clear hd hk D5
        refine ⟨_, rfl, AX6.out, ?_⟩
        (simp only [Act.put, List.setIfInBounds_toArray, List.set_cons_zero, List.set_cons_succ])
        refine plan_bin _ _ _ _ _ _ _ _ (by rfl) (by rfl) (by rfl) (by first | (with_reducible exact Mem.ev_const _ _) | (with_reducible exact Mem.ev_zero _ _ _) | (with_reducible (apply Eq.trans (Mem.ev_tmp _ _ _)); simp only [List.getD_cons_succ, List.getD_cons_zero] <;> rfl)) (by first | (with_reducible exact Mem.ev_const _ _) | (with_reducible exact Mem.ev_zero _ _ _) | (with_reducible (apply Eq.trans (Mem.ev_tmp _ _ _)); simp only [List.getD_cons_succ, List.getD_cons_zero] <;> rfl)) (fun wx => (by go_simp : (do eqGuard .eql 3 _ _ (.int .i64 0) (.int .i64 0); Go.binOp .eql 3 (.int .i64 0) (.int .i64 0) : Sem Value).run Try.prog wx = .ok (.bool true) wx)) ?_
        (simp only [Act.put, List.setIfInBounds_toArray, List.set_cons_zero, List.set_cons_succ])
        (first | (refine plan_move _ _ (by rfl) (by rfl) (.inl (by rfl)) (by first | (with_reducible exact Mem.ev_const _ _) | (with_reducible exact Mem.ev_zero _ _ _) | (with_reducible (apply Eq.trans (Mem.ev_tmp _ _ _)); simp only [List.getD_cons_succ, List.getD_cons_zero] <;> rfl)) ?_) | (refine plan_move _ _ (by rfl) (by rfl) (.inr (by rfl)) (by first | (with_reducible exact Mem.ev_const _ _) | (with_reducible exact Mem.ev_zero _ _ _) | (with_reducible (apply Eq.trans (Mem.ev_tmp _ _ _)); simp only [List.getD_cons_succ, List.getD_cons_zero] <;> rfl)) ?_) | (refine plan_pick_t _ _ _ _ (by rfl) (by rfl) (by rfl) (by first | (with_reducible exact Mem.ev_const _ _) | (with_reducible exact Mem.ev_zero _ _ _) | (with_reducible (apply Eq.trans (Mem.ev_tmp _ _ _)); simp only [List.getD_cons_succ, List.getD_cons_zero] <;> rfl)) (by first | (with_reducible exact Mem.ev_const _ _) | (with_reducible exact Mem.ev_zero _ _ _) | (with_reducible (apply Eq.trans (Mem.ev_tmp _ _ _)); simp only [List.getD_cons_succ, List.getD_cons_zero] <;> rfl)) ?_) | (refine plan_pick_f _ _ _ _ (by rfl) (by rfl) (by rfl) (by first | (with_reducible exact Mem.ev_const _ _) | (with_reducible exact Mem.ev_zero _ _ _) | (with_reducible (apply Eq.trans (Mem.ev_tmp _ _ _)); simp only [List.getD_cons_succ, List.getD_cons_zero] <;> rfl)) (by first | (with_reducible exact Mem.ev_const _ _) | (with_reducible exact Mem.ev_zero _ _ _) | (with_reducible (apply Eq.trans (Mem.ev_tmp _ _ _)); simp only [List.getD_cons_succ, List.getD_cons_zero] <;> rfl)) ?_))
        (simp only [Act.put, List.setIfInBounds_toArray, List.set_cons_zero, List.set_cons_succ])
        refine plan_nil ?_
        go_wp2_with fail
        go_ret
        rw [DS.out]
        exact ⟨rfl, ok_write OKM.out n _ NL.out (by rw [List.length_replicate]), rfl, D6.out.fin⟩
      · have ds : doSt s x = s := by unfold doSt; rw [if_neg (by omega : ¬ B8 x.k % 8 = 2), if_neg (by omega : ¬ B8 x.k % 8 = 3), if_neg (by omega : ¬ B8 x.k % 8 = 4), if_neg (by omega : ¬ B8 x.k % 8 = 5), if_neg (by omega : ¬ B8 x.k % 8 = 6), if_neg (by omega : ¬ B8 x.k % 8 = 7), if_pos (by omega : x.q % 16 = 5 ∨ x.n < 0 ∨ (s.n : Int) ≤ x.n)]
        have DS := Lib.hid ds
        clear ds
        have BAD : Hid (x.n < 0 ∨ (s.n : Int) ≤ x.n ∨ (List.replicate 256 x.x).length ≠ 256) := (by show _ ∨ _ ∨ _; omega)
        clear hN
        go_enter Try.func11, Try.ntmps11
        go_upto_region 1 with fail
        generalize w.alloc (.cells (stepC6 x) 39) = wk at *
        have d0 : wk.cell? ⟨w.heap.size, 0, none⟩ = some (.int .u8 (B8 x.k)) := AX.out.cell' 0 rfl
        have d1 : wk.cell? ⟨w.heap.size, 1, none⟩ = some (.int .i64 x.n) := AX.out.cell' 1 rfl
        have d2 : wk.cell? ⟨w.heap.size, 2, none⟩ = some (.int .i64 x.a) := AX.out.cell' 2 rfl
        have d3 : wk.cell? ⟨w.heap.size, 3, none⟩ = some (.int .u8 (B8 x.x)) := AX.out.cell' 3 rfl
        have d4 : wk.cell? ⟨w.heap.size, 4, none⟩ = some (.int .u64 (x.q : Int)) := AX.out.cell' 4 rfl
        go_wp2_with fail
        refine (block_any x.x _).mono ?_
        rintro e w4 ⟨g, rfl, ha, hg, hb⟩
        have D4 := Lib.hid (D.out.add CC.out hb (fun k => k = w.heap.size ∨ k = g) (fun k hk => hk.imp id (fun h => by subst h; exact ⟨hg, ha.lt⟩)))
        have AX4 := Lib.hid (AX.out.below hb AX.out.lt)
        have G4 := Lib.hid ha
        rw [List.length_replicate]
        clear ha hg hb
        clear D AX d0 d1 d2 d3 d4
        have d1 : w4.cell? ⟨w.heap.size, 1, none⟩ = some (.int .i64 x.n) := AX4.out.cell' 1 rfl
        have d2 : w4.cell? ⟨w.heap.size, 2, none⟩ = some (.int .i64 x.a) := AX4.out.cell' 2 rfl
        have d3 : w4.cell? ⟨w.heap.size, 3, none⟩ = some (.int .u8 (B8 x.x)) := AX4.out.cell' 3 rfl
        have d4 : w4.cell? ⟨w.heap.size, 4, none⟩ = some (.int .u64 (x.q : Int)) := AX4.out.cell' 4 rfl
        go_wp2_with fail
        have SX : Hid (SlB (fun k => k = w.heap.size ∨ k = g) w4.drew (.slice (some ⟨g, 0, none⟩) 256 256) (List.replicate 256 x.x)) := block_all G4.out
        have D := Lib.hid (DoI.drew CC.out D4.out)
        have AX := Lib.hid AX4.out.drew
        clear D4 AX4 G4 d1 d2 d3 d4
        refine wp_region_plan_in (fun w' => At w' w.heap.size (stepC6 x) 39) (.take 0 (.take 1 (.take 2 (.take 3 (.take 5 (.take 6 (.take 7 (.take 8 (.sole 4 (.sole 9 (.take 10 (.take 11 .done)))))))))))) (by kernel_rfl) (by kernel_rfl) (by kernel_rfl) AX.out.drew ?_
        (first | (refine plan_move _ _ (by rfl) (by rfl) (.inl (by rfl)) (by first | (with_reducible exact Mem.ev_const _ _) | (with_reducible exact Mem.ev_zero _ _ _) | (with_reducible (apply Eq.trans (Mem.ev_tmp _ _ _)); simp only [List.getD_cons_succ, List.getD_cons_zero] <;> rfl)) ?_) | (refine plan_move _ _ (by rfl) (by rfl) (.inr (by rfl)) (by first | (with_reducible exact Mem.ev_const _ _) | (with_reducible exact Mem.ev_zero _ _ _) | (with_reducible (apply Eq.trans (Mem.ev_tmp _ _ _)); simp only [List.getD_cons_succ, List.getD_cons_zero] <;> rfl)) ?_) | (refine plan_pick_t _ _ _ _ (by rfl) (by rfl) (by rfl) (by first | (with_reducible exact Mem.ev_const _ _) | (with_reducible exact Mem.ev_zero _ _ _) | (with_reducible (apply Eq.trans (Mem.ev_tmp _ _ _)); simp only [List.getD_cons_succ, List.getD_cons_zero] <;> rfl)) (by first | (with_reducible exact Mem.ev_const _ _) | (with_reducible exact Mem.ev_zero _ _ _) | (with_reducible (apply Eq.trans (Mem.ev_tmp _ _ _)); simp only [List.getD_cons_succ, List.getD_cons_zero] <;> rfl)) ?_) | (refine plan_pick_f _ _ _ _ (by rfl) (by rfl) (by rfl) (by first | (with_reducible exact Mem.ev_const _ _) | (with_reducible exact Mem.ev_zero _ _ _) | (with_reducible (apply Eq.trans (Mem.ev_tmp _ _ _)); simp only [List.getD_cons_succ, List.getD_cons_zero] <;> rfl)) (by first | (with_reducible exact Mem.ev_const _ _) | (with_reducible exact Mem.ev_zero _ _ _) | (with_reducible (apply Eq.trans (Mem.ev_tmp _ _ _)); simp only [List.getD_cons_succ, List.getD_cons_zero] <;> rfl)) ?_))
        (simp only [Act.put, List.setIfInBounds_toArray, List.set_cons_zero, List.set_cons_succ])
        refine plan_field 39 _ 1 w.heap.size 0 ⟨w.heap.size, 1, none⟩ (by rfl) (by rfl) (by rfl) (by first | (with_reducible exact Mem.ev_const _ _) | (with_reducible exact Mem.ev_zero _ _ _) | (with_reducible (apply Eq.trans (Mem.ev_tmp _ _ _)); simp only [List.getD_cons_succ, List.getD_cons_zero] <;> rfl)) (fun wx => by go_simp) ?_
        (simp only [Act.put, List.setIfInBounds_toArray, List.set_cons_zero, List.set_cons_succ])
        refine plan_cell 3 _ _ (.int .i64 x.n) _ (by rfl) (by rfl) (by rfl) (by first | (with_reducible exact Mem.ev_const _ _) | (with_reducible exact Mem.ev_zero _ _ _) | (with_reducible (apply Eq.trans (Mem.ev_tmp _ _ _)); simp only [List.getD_cons_succ, List.getD_cons_zero] <;> rfl)) (fun w' hw' => hw'.cell' 1 rfl) Try.underlying3 (by rfl) ?_
        (simp only [Act.put, List.setIfInBounds_toArray, List.set_cons_zero, List.set_cons_succ])
        (first | (refine plan_move _ _ (by rfl) (by rfl) (.inl (by rfl)) (by first | (with_reducible exact Mem.ev_const _ _) | (with_reducible exact Mem.ev_zero _ _ _) | (with_reducible (apply Eq.trans (Mem.ev_tmp _ _ _)); simp only [List.getD_cons_succ, List.getD_cons_zero] <;> rfl)) ?_) | (refine plan_move _ _ (by rfl) (by rfl) (.inr (by rfl)) (by first | (with_reducible exact Mem.ev_const _ _) | (with_reducible exact Mem.ev_zero _ _ _) | (with_reducible (apply Eq.trans (Mem.ev_tmp _ _ _)); simp only [List.getD_cons_succ, List.getD_cons_zero] <;> rfl)) ?_) | (refine plan_pick_t _ _ _ _ (by rfl) (by rfl) (by rfl) (by first | (with_reducible exact Mem.ev_const _ _) | (with_reducible exact Mem.ev_zero _ _ _) | (with_reducible (apply Eq.trans (Mem.ev_tmp _ _ _)); simp only [List.getD_cons_succ, List.getD_cons_zero] <;> rfl)) (by first | (with_reducible exact Mem.ev_const _ _) | (with_reducible exact Mem.ev_zero _ _ _) | (with_reducible (apply Eq.trans (Mem.ev_tmp _ _ _)); simp only [List.getD_cons_succ, List.getD_cons_zero] <;> rfl)) ?_) | (refine plan_pick_f _ _ _ _ (by rfl) (by rfl) (by rfl) (by first | (with_reducible exact Mem.ev_const _ _) | (with_reducible exact Mem.ev_zero _ _ _) | (with_reducible (apply Eq.trans (Mem.ev_tmp _ _ _)); simp only [List.getD_cons_succ, List.getD_cons_zero] <;> rfl)) (by first | (with_reducible exact Mem.ev_const _ _) | (with_reducible exact Mem.ev_zero _ _ _) | (with_reducible (apply Eq.trans (Mem.ev_tmp _ _ _)); simp only [List.getD_cons_succ, List.getD_cons_zero] <;> rfl)) ?_))
        (simp only [Act.put, List.setIfInBounds_toArray, List.set_cons_zero, List.set_cons_succ])
        (first | (refine plan_move _ _ (by rfl) (by rfl) (.inl (by rfl)) (by first | (with_reducible exact Mem.ev_const _ _) | (with_reducible exact Mem.ev_zero _ _ _) | (with_reducible (apply Eq.trans (Mem.ev_tmp _ _ _)); simp only [List.getD_cons_succ, List.getD_cons_zero] <;> rfl)) ?_) | (refine plan_move _ _ (by rfl) (by rfl) (.inr (by rfl)) (by first | (with_reducible exact Mem.ev_const _ _) | (with_reducible exact Mem.ev_zero _ _ _) | (with_reducible (apply Eq.trans (Mem.ev_tmp _ _ _)); simp only [List.getD_cons_succ, List.getD_cons_zero] <;> rfl)) ?_) | (refine plan_pick_t _ _ _ _ (by rfl) (by rfl) (by rfl) (by first | (with_reducible exact Mem.ev_const _ _) | (with_reducible exact Mem.ev_zero _ _ _) | (with_reducible (apply Eq.trans (Mem.ev_tmp _ _ _)); simp only [List.getD_cons_succ, List.getD_cons_zero] <;> rfl)) (by first | (with_reducible exact Mem.ev_const _ _) | (with_reducible exact Mem.ev_zero _ _ _) | (with_reducible (apply Eq.trans (Mem.ev_tmp _ _ _)); simp only [List.getD_cons_succ, List.getD_cons_zero] <;> rfl)) ?_) | (refine plan_pick_f _ _ _ _ (by rfl) (by rfl) (by rfl) (by first | (with_reducible exact Mem.ev_const _ _) | (with_reducible exact Mem.ev_zero _ _ _) | (with_reducible (apply Eq.trans (Mem.ev_tmp _ _ _)); simp only [List.getD_cons_succ, List.getD_cons_zero] <;> rfl)) (by first | (with_reducible exact Mem.ev_const _ _) | (with_reducible exact Mem.ev_zero _ _ _) | (with_reducible (apply Eq.trans (Mem.ev_tmp _ _ _)); simp only [List.getD_cons_succ, List.getD_cons_zero] <;> rfl)) ?_))
        (simp only [Act.put, List.setIfInBounds_toArray, List.set_cons_zero, List.set_cons_succ])
        refine plan_field 39 _ 1 w.heap.size 0 ⟨w.heap.size, 1, none⟩ (by rfl) (by rfl) (by rfl) (by first | (with_reducible exact Mem.ev_const _ _) | (with_reducible exact Mem.ev_zero _ _ _) | (with_reducible (apply Eq.trans (Mem.ev_tmp _ _ _)); simp only [List.getD_cons_succ, List.getD_cons_zero] <;> rfl)) (fun wx => by go_simp) ?_
        (simp only [Act.put, List.setIfInBounds_toArray, List.set_cons_zero, List.set_cons_succ])
        refine plan_cell 3 _ _ (.int .i64 x.n) _ (by rfl) (by rfl) (by rfl) (by first | (with_reducible exact Mem.ev_const _ _) | (with_reducible exact Mem.ev_zero _ _ _) | (with_reducible (apply Eq.trans (Mem.ev_tmp _ _ _)); simp only [List.getD_cons_succ, List.getD_cons_zero] <;> rfl)) (fun w' hw' => hw'.cell' 1 rfl) Try.underlying3 (by rfl) ?_
        (simp only [Act.put, List.setIfInBounds_toArray, List.set_cons_zero, List.set_cons_succ])
        (first | (refine plan_move _ _ (by rfl) (by rfl) (.inl (by rfl)) (by first | (with_reducible exact Mem.ev_const _ _) | (with_reducible exact Mem.ev_zero _ _ _) | (with_reducible (apply Eq.trans (Mem.ev_tmp _ _ _)); simp only [List.getD_cons_succ, List.getD_cons_zero] <;> rfl)) ?_) | (refine plan_move _ _ (by rfl) (by rfl) (.inr (by rfl)) (by first | (with_reducible exact Mem.ev_const _ _) | (with_reducible exact Mem.ev_zero _ _ _) | (with_reducible (apply Eq.trans (Mem.ev_tmp _ _ _)); simp only [List.getD_cons_succ, List.getD_cons_zero] <;> rfl)) ?_) | (refine plan_pick_t _ _ _ _ (by rfl) (by rfl) (by rfl) (by first | (with_reducible exact Mem.ev_const _ _) | (with_reducible exact Mem.ev_zero _ _ _) | (with_reducible (apply Eq.trans (Mem.ev_tmp _ _ _)); simp only [List.getD_cons_succ, List.getD_cons_zero] <;> rfl)) (by first | (with_reducible exact Mem.ev_const _ _) | (with_reducible exact Mem.ev_zero _ _ _) | (with_reducible (apply Eq.trans (Mem.ev_tmp _ _ _)); simp only [List.getD_cons_succ, List.getD_cons_zero] <;> rfl)) ?_) | (refine plan_pick_f _ _ _ _ (by rfl) (by rfl) (by rfl) (by first | (with_reducible exact Mem.ev_const _ _) | (with_reducible exact Mem.ev_zero _ _ _) | (with_reducible (apply Eq.trans (Mem.ev_tmp _ _ _)); simp only [List.getD_cons_succ, List.getD_cons_zero] <;> rfl)) (by first | (with_reducible exact Mem.ev_const _ _) | (with_reducible exact Mem.ev_zero _ _ _) | (with_reducible (apply Eq.trans (Mem.ev_tmp _ _ _)); simp only [List.getD_cons_succ, List.getD_cons_zero] <;> rfl)) ?_))
        (simp only [Act.put, List.setIfInBounds_toArray, List.set_cons_zero, List.set_cons_succ])
        refine plan_call 20 _ _ _ (by kernel_rfl) (by rfl) (by rfl) (by rfl) (by first | exact Mem.ev_none _ | (simp only [List.map_toArray, List.map_cons, List.map_nil, Mem.ev_tmp, List.getD_cons_succ, List.getD_cons_zero] <;> rfl)) ?_
        refine (DoI.first CC.out D.out (fun F h => CC.out.writeBad x.n _ _ _ h OK.out SX.out.sl XN.out.1 XN.out.2 (by rw [List.length_replicate]; decide) BAD.out)).mono ?_
        rintro e w5 ⟨rfl, hd, hk⟩
        have D5 := Lib.hid hd
        have AX5 := Lib.hid (AX.out.kept hk (by first | exact rfl | exact .inl rfl))
        have SX5 := Lib.hid (SX.out.kept hk)
        clear hd hk D
        refine ⟨_, rfl, AX5.out, ?_⟩
        (simp only [Act.put, List.setIfInBounds_toArray, List.set_cons_zero, List.set_cons_succ])
        refine plan_call 33 _ _ _ (by kernel_rfl) (by rfl) (by rfl) (by rfl) (by first | exact Mem.ev_none _ | (simp only [List.map_toArray, List.map_cons, List.map_nil, Mem.ev_tmp, List.getD_cons_succ, List.getD_cons_zero] <;> rfl)) ?_
        refine (DoI.second CC.out D5.out (fun G h => rbad_end (rwrite_bad x.n _ _ _ h SX5.out.sl OK.out.n2 (by rw [List.length_replicate]; decide) BAD.out) h)).mono ?_
        rintro e w6 ⟨rfl, hd, hk⟩
        have D6 := Lib.hid hd
        have AX6 := Lib.hid (AX5.out.kept hk (by first | exact rfl | exact .inl rfl))
        clear hd hk D5
        refine ⟨_, rfl, AX6.out, ?_⟩
        (simp only [Act.put, List.setIfInBounds_toArray, List.set_cons_zero, List.set_cons_succ])
        refine plan_bin _ _ _ _ _ _ _ _ (by rfl) (by rfl) (by rfl) (by first | (with_reducible exact Mem.ev_const _ _) | (with_reducible exact Mem.ev_zero _ _ _) | (with_reducible (apply Eq.trans (Mem.ev_tmp _ _ _)); simp only [List.getD_cons_succ, List.getD_cons_zero] <;> rfl)) (by first | (with_reducible exact Mem.ev_const _ _) | (with_reducible exact Mem.ev_zero _ _ _) | (with_reducible (apply Eq.trans (Mem.ev_tmp _ _ _)); simp only [List.getD_cons_succ, List.getD_cons_zero] <;> rfl)) (fun wx => (by go_simp : (do eqGuard .eql 3 _ _ (.int .i64 1) (.int .i64 1); Go.binOp .eql 3 (.int .i64 1) (.int .i64 1) : Sem Value).run Try.prog wx = .ok (.bool true) wx)) ?_
        (simp only [Act.put, List.setIfInBounds_toArray, List.set_cons_zero, List.set_cons_succ])
        (first | (refine plan_move _ _ (by rfl) (by rfl) (.inl (by rfl)) (by first | (with_reducible exact Mem.ev_const _ _) | (with_reducible exact Mem.ev_zero _ _ _) | (with_reducible (apply Eq.trans (Mem.ev_tmp _ _ _)); simp only [List.getD_cons_succ, List.getD_cons_zero] <;> rfl)) ?_) | (refine plan_move _ _ (by rfl) (by rfl) (.inr (by rfl)) (by first | (with_reducible exact Mem.ev_const _ _) | (with_reducible exact Mem.ev_zero _ _ _) | (with_reducible (apply Eq.trans (Mem.ev_tmp _ _ _)); simp only [List.getD_cons_succ, List.getD_cons_zero] <;> rfl)) ?_) | (refine plan_pick_t _ _ _ _ (by rfl) (by rfl) (by rfl) (by first | (with_reducible exact Mem.ev_const _ _) | (with_reducible exact Mem.ev_zero _ _ _) | (with_reducible (apply Eq.trans (Mem.ev_tmp _ _ _)); simp only [List.getD_cons_succ, List.getD_cons_zero] <;> rfl)) (by first | (with_reducible exact Mem.ev_const _ _) | (with_reducible exact Mem.ev_zero _ _ _) | (with_reducible (apply Eq.trans (Mem.ev_tmp _ _ _)); simp only [List.getD_cons_succ, List.getD_cons_zero] <;> rfl)) ?_) | (refine plan_pick_f _ _ _ _ (by rfl) (by rfl) (by rfl) (by first | (with_reducible exact Mem.ev_const _ _) | (with_reducible exact Mem.ev_zero _ _ _) | (with_reducible (apply Eq.trans (Mem.ev_tmp _ _ _)); simp only [List.getD_cons_succ, List.getD_cons_zero] <;> rfl)) (by first | (with_reducible exact Mem.ev_const _ _) | (with_reducible exact Mem.ev_zero _ _ _) | (with_reducible (apply Eq.trans (Mem.ev_tmp _ _ _)); simp only [List.getD_cons_succ, List.getD_cons_zero] <;> rfl)) ?_))
        (simp only [Act.put, List.setIfInBounds_toArray, List.set_cons_zero, List.set_cons_succ])
        refine plan_nil ?_
        go_wp2_with fail
        go_ret
        rw [DS.out]
        exact ⟨rfl, OK1.out, rfl, D6.out.fin⟩
  · by_cases hq : x.q % 16 = 5
    · have ds : doSt s x = s := by unfold doSt; rw [if_neg (by omega : ¬ B8 x.k % 8 = 2), if_neg (by omega : ¬ B8 x.k % 8 = 3), if_neg (by omega : ¬ B8 x.k % 8 = 4), if_neg (by omega : ¬ B8 x.k % 8 = 5), if_neg (by omega : ¬ B8 x.k % 8 = 6), if_neg (by omega : ¬ B8 x.k % 8 = 7), if_pos (by omega : x.q % 16 = 5 ∨ x.n < 0 ∨ (s.n : Int) ≤ x.n)]
      have DS := Lib.hid ds
      clear ds
      have hq2 : (x.q : Int) % 16 = 5 := by omega
      have BAD : Hid (x.n < 0 ∨ (s.n : Int) ≤ x.n ∨ (List.replicate 255 x.x).length ≠ 256) := .inr (.inr (by rw [List.length_replicate]; decide))
      go_enter Try.func11, Try.ntmps11
      go_upto_region 1 with fail
      generalize w.alloc (.cells (stepC6 x) 39) = wk at *
      have d0 : wk.cell? ⟨w.heap.size, 0, none⟩ = some (.int .u8 (B8 x.k)) := AX.out.cell' 0 rfl
      have d1 : wk.cell? ⟨w.heap.size, 1, none⟩ = some (.int .i64 x.n) := AX.out.cell' 1 rfl
      have d2 : wk.cell? ⟨w.heap.size, 2, none⟩ = some (.int .i64 x.a) := AX.out.cell' 2 rfl
      have d3 : wk.cell? ⟨w.heap.size, 3, none⟩ = some (.int .u8 (B8 x.x)) := AX.out.cell' 3 rfl
      have d4 : wk.cell? ⟨w.heap.size, 4, none⟩ = some (.int .u64 (x.q : Int)) := AX.out.cell' 4 rfl
      go_wp2_with fail
      refine (block_any x.x _).mono ?_
      rintro e w4 ⟨g, rfl, ha, hg, hb⟩
      have D4 := Lib.hid (D.out.add CC.out hb (fun k => k = w.heap.size ∨ k = g) (fun k hk => hk.imp id (fun h => by subst h; exact ⟨hg, ha.lt⟩)))
      have AX4 := Lib.hid (AX.out.below hb AX.out.lt)
      have G4 := Lib.hid ha
      rw [List.length_replicate]
      clear ha hg hb
      clear D AX d0 d1 d2 d3 d4
      have d1 : w4.cell? ⟨w.heap.size, 1, none⟩ = some (.int .i64 x.n) := AX4.out.cell' 1 rfl
      have d2 : w4.cell? ⟨w.heap.size, 2, none⟩ = some (.int .i64 x.a) := AX4.out.cell' 2 rfl
      have d3 : w4.cell? ⟨w.heap.size, 3, none⟩ = some (.int .u8 (B8 x.x)) := AX4.out.cell' 3 rfl
      have d4 : w4.cell? ⟨w.heap.size, 4, none⟩ = some (.int .u64 (x.q : Int)) := AX4.out.cell' 4 rfl
      have SL4 := Lib.hid (at_sl G4.out (List.length_replicate (n := 256)))
      go_wp2_with (refine wpList_piece_from (by rfl) 27 _ _ (by rfl) Try.underlying27 (some ⟨g, 0, none⟩) 256 256 1 (List.replicate 256 x.x) (List.length_replicate (n := 256)) (by rfl) SL4.out (by rfl) (by decide) ?_; intro _)
      have SX : Hid (SlB (fun k => k = w.heap.size ∨ k = g) w4.drew (.slice (pieceA (some ⟨g, 0, none⟩) 256 1) 255 255) (List.replicate 255 x.x)) := block_tail G4.out
      have D := Lib.hid (DoI.drew CC.out D4.out)
      have AX := Lib.hid AX4.out.drew
      clear D4 AX4 G4 d1 d2 d3 d4
      refine wp_region_plan_in (fun w' => At w' w.heap.size (stepC6 x) 39) (.take 0 (.take 1 (.take 2 (.take 3 (.take 5 (.take 6 (.take 7 (.take 8 (.sole 4 (.sole 9 (.take 10 (.take 11 .done)))))))))))) (by kernel_rfl) (by kernel_rfl) (by kernel_rfl) AX.out.drew ?_
      (first | (refine plan_move _ _ (by rfl) (by rfl) (.inl (by rfl)) (by first | (with_reducible exact Mem.ev_const _ _) | (with_reducible exact Mem.ev_zero _ _ _) | (with_reducible (apply Eq.trans (Mem.ev_tmp _ _ _)); simp only [List.getD_cons_succ, List.getD_cons_zero] <;> rfl)) ?_) | (refine plan_move _ _ (by rfl) (by rfl) (.inr (by rfl)) (by first | (with_reducible exact Mem.ev_const _ _) | (with_reducible exact Mem.ev_zero _ _ _) | (with_reducible (apply Eq.trans (Mem.ev_tmp _ _ _)); simp only [List.getD_cons_succ, List.getD_cons_zero] <;> rfl)) ?_) | (refine plan_pick_t _ _ _ _ (by rfl) (by rfl) (by rfl) (by first | (with_reducible exact Mem.ev_const _ _) | (with_reducible exact Mem.ev_zero _ _ _) | (with_reducible (apply Eq.trans (Mem.ev_tmp _ _ _)); simp only [List.getD_cons_succ, List.getD_cons_zero] <;> rfl)) (by first | (with_reducible exact Mem.ev_const _ _) | (with_reducible exact Mem.ev_zero _ _ _) | (with_reducible (apply Eq.trans (Mem.ev_tmp _ _ _)); simp only [List.getD_cons_succ, List.getD_cons_zero] <;> rfl)) ?_) | (refine plan_pick_f _ _ _ _ (by rfl) (by rfl) (by rfl) (by first | (with_reducible exact Mem.ev_const _ _) | (with_reducible exact Mem.ev_zero _ _ _) | (with_reducible (apply Eq.trans (Mem.ev_tmp _ _ _)); simp only [List.getD_cons_succ, List.getD_cons_zero] <;> rfl)) (by first | (with_reducible exact Mem.ev_const _ _) | (with_reducible exact Mem.ev_zero _ _ _) | (with_reducible (apply Eq.trans (Mem.ev_tmp _ _ _)); simp only [List.getD_cons_succ, List.getD_cons_zero] <;> rfl)) ?_))
      (simp only [Act.put, List.setIfInBounds_toArray, List.set_cons_zero, List.set_cons_succ])
      refine plan_field 39 _ 1 w.heap.size 0 ⟨w.heap.size, 1, none⟩ (by rfl) (by rfl) (by rfl) (by first | (with_reducible exact Mem.ev_const _ _) | (with_reducible exact Mem.ev_zero _ _ _) | (with_reducible (apply Eq.trans (Mem.ev_tmp _ _ _)); simp only [List.getD_cons_succ, List.getD_cons_zero] <;> rfl)) (fun wx => by go_simp) ?_
      (simp only [Act.put, List.setIfInBounds_toArray, List.set_cons_zero, List.set_cons_succ])
      refine plan_cell 3 _ _ (.int .i64 x.n) _ (by rfl) (by rfl) (by rfl) (by first | (with_reducible exact Mem.ev_const _ _) | (with_reducible exact Mem.ev_zero _ _ _) | (with_reducible (apply Eq.trans (Mem.ev_tmp _ _ _)); simp only [List.getD_cons_succ, List.getD_cons_zero] <;> rfl)) (fun w' hw' => hw'.cell' 1 rfl) Try.underlying3 (by rfl) ?_
      (simp only [Act.put, List.setIfInBounds_toArray, List.set_cons_zero, List.set_cons_succ])
      (first | (refine plan_move _ _ (by rfl) (by rfl) (.inl (by rfl)) (by first | (with_reducible exact Mem.ev_const _ _) | (with_reducible exact Mem.ev_zero _ _ _) | (with_reducible (apply Eq.trans (Mem.ev_tmp _ _ _)); simp only [List.getD_cons_succ, List.getD_cons_zero] <;> rfl)) ?_) | (refine plan_move _ _ (by rfl) (by rfl) (.inr (by rfl)) (by first | (with_reducible exact Mem.ev_const _ _) | (with_reducible exact Mem.ev_zero _ _ _) | (with_reducible (apply Eq.trans (Mem.ev_tmp _ _ _)); simp only [List.getD_cons_succ, List.getD_cons_zero] <;> rfl)) ?_) | (refine plan_pick_t _ _ _ _ (by rfl) (by rfl) (by rfl) (by first | (with_reducible exact Mem.ev_const _ _) | (with_reducible exact Mem.ev_zero _ _ _) | (with_reducible (apply Eq.trans (Mem.ev_tmp _ _ _)); simp only [List.getD_cons_succ, List.getD_cons_zero] <;> rfl)) (by first | (with_reducible exact Mem.ev_const _ _) | (with_reducible exact Mem.ev_zero _ _ _) | (with_reducible (apply Eq.trans (Mem.ev_tmp _ _ _)); simp only [List.getD_cons_succ, List.getD_cons_zero] <;> rfl)) ?_) | (refine plan_pick_f _ _ _ _ (by rfl) (by rfl) (by rfl) (by first | (with_reducible exact Mem.ev_const _ _) | (with_reducible exact Mem.ev_zero _ _ _) | (with_reducible (apply Eq.trans (Mem.ev_tmp _ _ _)); simp only [List.getD_cons_succ, List.getD_cons_zero] <;> rfl)) (by first | (with_reducible exact Mem.ev_const _ _) | (with_reducible exact Mem.ev_zero _ _ _) | (with_reducible (apply Eq.trans (Mem.ev_tmp _ _ _)); simp only [List.getD_cons_succ, List.getD_cons_zero] <;> rfl)) ?_))
      (simp only [Act.put, List.setIfInBounds_toArray, List.set_cons_zero, List.set_cons_succ])
      (first | (refine plan_move _ _ (by rfl) (by rfl) (.inl (by rfl)) (by first | (with_reducible exact Mem.ev_const _ _) | (with_reducible exact Mem.ev_zero _ _ _) | (with_reducible (apply Eq.trans (Mem.ev_tmp _ _ _)); simp only [List.getD_cons_succ, List.getD_cons_zero] <;> rfl)) ?_) | (refine plan_move _ _ (by rfl) (by rfl) (.inr (by rfl)) (by first | (with_reducible exact Mem.ev_const _ _) | (with_reducible exact Mem.ev_zero _ _ _) | (with_reducible (apply Eq.trans (Mem.ev_tmp _ _ _)); simp only [List.getD_cons_succ, List.getD_cons_zero] <;> rfl)) ?_) | (refine plan_pick_t _ _ _ _ (by rfl) (by rfl) (by rfl) (by first | (with_reducible exact Mem.ev_const _ _) | (with_reducible exact Mem.ev_zero _ _ _) | (with_reducible (apply Eq.trans (Mem.ev_tmp _ _ _)); simp only [List.getD_cons_succ, List.getD_cons_zero] <;> rfl)) (by first | (with_reducible exact Mem.ev_const _ _) | (with_reducible exact Mem.ev_zero _ _ _) | (with_reducible (apply Eq.trans (Mem.ev_tmp _ _ _)); simp only [List.getD_cons_succ, List.getD_cons_zero] <;> rfl)) ?_) | (refine plan_pick_f _ _ _ _ (by rfl) (by rfl) (by rfl) (by first | (with_reducible exact Mem.ev_const _ _) | (with_reducible exact Mem.ev_zero _ _ _) | (with_reducible (apply Eq.trans (Mem.ev_tmp _ _ _)); simp only [List.getD_cons_succ, List.getD_cons_zero] <;> rfl)) (by first | (with_reducible exact Mem.ev_const _ _) | (with_reducible exact Mem.ev_zero _ _ _) | (with_reducible (apply Eq.trans (Mem.ev_tmp _ _ _)); simp only [List.getD_cons_succ, List.getD_cons_zero] <;> rfl)) ?_))
      (simp only [Act.put, List.setIfInBounds_toArray, List.set_cons_zero, List.set_cons_succ])
      refine plan_field 39 _ 1 w.heap.size 0 ⟨w.heap.size, 1, none⟩ (by rfl) (by rfl) (by rfl) (by first | (with_reducible exact Mem.ev_const _ _) | (with_reducible exact Mem.ev_zero _ _ _) | (with_reducible (apply Eq.trans (Mem.ev_tmp _ _ _)); simp only [List.getD_cons_succ, List.getD_cons_zero] <;> rfl)) (fun wx => by go_simp) ?_
      (simp only [Act.put, List.setIfInBounds_toArray, List.set_cons_zero, List.set_cons_succ])
      refine plan_cell 3 _ _ (.int .i64 x.n) _ (by rfl) (by rfl) (by rfl) (by first | (with_reducible exact Mem.ev_const _ _) | (with_reducible exact Mem.ev_zero _ _ _) | (with_reducible (apply Eq.trans (Mem.ev_tmp _ _ _)); simp only [List.getD_cons_succ, List.getD_cons_zero] <;> rfl)) (fun w' hw' => hw'.cell' 1 rfl) Try.underlying3 (by rfl) ?_
      (simp only [Act.put, List.setIfInBounds_toArray, List.set_cons_zero, List.set_cons_succ])
      (first | (refine plan_move _ _ (by rfl) (by rfl) (.inl (by rfl)) (by first | (with_reducible exact Mem.ev_const _ _) | (with_reducible exact Mem.ev_zero _ _ _) | (with_reducible (apply Eq.trans (Mem.ev_tmp _ _ _)); simp only [List.getD_cons_succ, List.getD_cons_zero] <;> rfl)) ?_) | (refine plan_move _ _ (by rfl) (by rfl) (.inr (by rfl)) (by first | (with_reducible exact Mem.ev_const _ _) | (with_reducible exact Mem.ev_zero _ _ _) | (with_reducible (apply Eq.trans (Mem.ev_tmp _ _ _)); simp only [List.getD_cons_succ, List.getD_cons_zero] <;> rfl)) ?_) | (refine plan_pick_t _ _ _ _ (by rfl) (by rfl) (by rfl) (by first | (with_reducible exact Mem.ev_const _ _) | (with_reducible exact Mem.ev_zero _ _ _) | (with_reducible (apply Eq.trans (Mem.ev_tmp _ _ _)); simp only [List.getD_cons_succ, List.getD_cons_zero] <;> rfl)) (by first | (with_reducible exact Mem.ev_const _ _) | (with_reducible exact Mem.ev_zero _ _ _) | (with_reducible (apply Eq.trans (Mem.ev_tmp _ _ _)); simp only [List.getD_cons_succ, List.getD_cons_zero] <;> rfl)) ?_) | (refine plan_pick_f _ _ _ _ (by rfl) (by rfl) (by rfl) (by first | (with_reducible exact Mem.ev_const _ _) | (with_reducible exact Mem.ev_zero _ _ _) | (with_reducible (apply Eq.trans (Mem.ev_tmp _ _ _)); simp only [List.getD_cons_succ, List.getD_cons_zero] <;> rfl)) (by first | (with_reducible exact Mem.ev_const _ _) | (with_reducible exact Mem.ev_zero _ _ _) | (with_reducible (apply Eq.trans (Mem.ev_tmp _ _ _)); simp only [List.getD_cons_succ, List.getD_cons_zero] <;> rfl)) ?_))
      (simp only [Act.put, List.setIfInBounds_toArray, List.set_cons_zero, List.set_cons_succ])
      refine plan_call 20 _ _ _ (by kernel_rfl) (by rfl) (by rfl) (by rfl) (by first | exact Mem.ev_none _ | (simp only [List.map_toArray, List.map_cons, List.map_nil, Mem.ev_tmp, List.getD_cons_succ, List.getD_cons_zero] <;> rfl)) ?_
      refine (DoI.first CC.out D.out (fun F h => CC.out.writeBad x.n _ _ _ h OK.out SX.out.sl XN.out.1 XN.out.2 (by rw [List.length_replicate]; decide) BAD.out)).mono ?_
      rintro e w5 ⟨rfl, hd, hk⟩
      have D5 := Lib.hid hd
      have AX5 := Lib.hid (AX.out.kept hk (by first | exact rfl | exact .inl rfl))
      have SX5 := Lib.hid (SX.out.kept hk)
      clear hd hk D
      refine ⟨_, rfl, AX5.out, ?_⟩
      (simp only [Act.put, List.setIfInBounds_toArray, List.set_cons_zero, List.set_cons_succ])
      refine plan_call 33 _ _ _ (by kernel_rfl) (by rfl) (by rfl) (by rfl) (by first | exact Mem.ev_none _ | (simp only [List.map_toArray, List.map_cons, List.map_nil, Mem.ev_tmp, List.getD_cons_succ, List.getD_cons_zero] <;> rfl)) ?_
      refine (DoI.second CC.out D5.out (fun G h => rbad_end (rwrite_bad x.n _ _ _ h SX5.out.sl OK.out.n2 (by rw [List.length_replicate]; decide) BAD.out) h)).mono ?_
      rintro e w6 ⟨rfl, hd, hk⟩
      have D6 := Lib.hid hd
      have AX6 := Lib.hid (AX5.out.kept hk (by first | exact rfl | exact .inl rfl))
      clear hd hk D5
      refine ⟨_, rfl, AX6.out, ?_⟩
      (simp only [Act.put, List.setIfInBounds_toArray, List.set_cons_zero, List.set_cons_succ])
      refine plan_bin _ _ _ _ _ _ _ _ (by rfl) (by rfl) (by rfl) (by first | (with_reducible exact Mem.ev_const _ _) | (with_reducible exact Mem.ev_zero _ _ _) | (with_reducible (apply Eq.trans (Mem.ev_tmp _ _ _)); simp only [List.getD_cons_succ, List.getD_cons_zero] <;> rfl)) (by first | (with_reducible exact Mem.ev_const _ _) | (with_reducible exact Mem.ev_zero _ _ _) | (with_reducible (apply Eq.trans (Mem.ev_tmp _ _ _)); simp only [List.getD_cons_succ, List.getD_cons_zero] <;> rfl)) (fun wx => (by go_simp : (do eqGuard .eql 3 _ _ (.int .i64 1) (.int .i64 1); Go.binOp .eql 3 (.int .i64 1) (.int .i64 1) : Sem Value).run Try.prog wx = .ok (.bool true) wx)) ?_
      (simp only [Act.put, List.setIfInBounds_toArray, List.set_cons_zero, List.set_cons_succ])
      (first | (refine plan_move _ _ (by rfl) (by rfl) (.inl (by rfl)) (by first | (with_reducible exact Mem.ev_const _ _) | (with_reducible exact Mem.ev_zero _ _ _) | (with_reducible (apply Eq.trans (Mem.ev_tmp _ _ _)); simp only [List.getD_cons_succ, List.getD_cons_zero] <;> rfl)) ?_) | (refine plan_move _ _ (by rfl) (by rfl) (.inr (by rfl)) (by first | (with_reducible exact Mem.ev_const _ _) | (with_reducible exact Mem.ev_zero _ _ _) | (with_reducible (apply Eq.trans (Mem.ev_tmp _ _ _)); simp only [List.getD_cons_succ, List.getD_cons_zero] <;> rfl)) ?_) | (refine plan_pick_t _ _ _ _ (by rfl) (by rfl) (by rfl) (by first | (with_reducible exact Mem.ev_const _ _) | (with_reducible exact Mem.ev_zero _ _ _) | (with_reducible (apply Eq.trans (Mem.ev_tmp _ _ _)); simp only [List.getD_cons_succ, List.getD_cons_zero] <;> rfl)) (by first | (with_reducible exact Mem.ev_const _ _) | (with_reducible exact Mem.ev_zero _ _ _) | (with_reducible (apply Eq.trans (Mem.ev_tmp _ _ _)); simp only [List.getD_cons_succ, List.getD_cons_zero] <;> rfl)) ?_) | (refine plan_pick_f _ _ _ _ (by rfl) (by rfl) (by rfl) (by first | (with_reducible exact Mem.ev_const _ _) | (with_reducible exact Mem.ev_zero _ _ _) | (with_reducible (apply Eq.trans (Mem.ev_tmp _ _ _)); simp only [List.getD_cons_succ, List.getD_cons_zero] <;> rfl)) (by first | (with_reducible exact Mem.ev_const _ _) | (with_reducible exact Mem.ev_zero _ _ _) | (with_reducible (apply Eq.trans (Mem.ev_tmp _ _ _)); simp only [List.getD_cons_succ, List.getD_cons_zero] <;> rfl)) ?_))
      (simp only [Act.put, List.setIfInBounds_toArray, List.set_cons_zero, List.set_cons_succ])
      refine plan_nil ?_
      go_wp2_with fail
      go_ret
      rw [DS.out]
      exact ⟨rfl, OK1.out, rfl, D6.out.fin⟩
    · have hq2 : ¬ (x.q : Int) % 16 = 5 := by omega
      by_cases hN : 0 ≤ x.n ∧ x.n < (s.n : Int)
      · obtain ⟨n, HN'⟩ : ∃ n : Nat, x.n = (n : Int) := ⟨x.n.toNat, by omega⟩
        have NL : Hid (n < s.n) := (by show n < s.n; omega)
        have HN := Lib.hid HN'
        have ds : doSt s x = stWrite s n (List.replicate 256 x.x) := by unfold doSt; rw [if_neg (by omega : ¬ B8 x.k % 8 = 2), if_neg (by omega : ¬ B8 x.k % 8 = 3), if_neg (by omega : ¬ B8 x.k % 8 = 4), if_neg (by omega : ¬ B8 x.k % 8 = 5), if_neg (by omega : ¬ B8 x.k % 8 = 6), if_neg (by omega : ¬ B8 x.k % 8 = 7), if_neg (by omega : ¬ (x.q % 16 = 5 ∨ x.n < 0 ∨ (s.n : Int) ≤ x.n)), show x.n.toNat = n by omega]
        have DS := Lib.hid ds
        clear ds
        clear hN HN'
        go_enter Try.func11, Try.ntmps11
        go_upto_region 1 with fail
        generalize w.alloc (.cells (stepC6 x) 39) = wk at *
        have d0 : wk.cell? ⟨w.heap.size, 0, none⟩ = some (.int .u8 (B8 x.k)) := AX.out.cell' 0 rfl
        have d1 : wk.cell? ⟨w.heap.size, 1, none⟩ = some (.int .i64 (n : Int)) := AX.out.cell' 1 (by rw [← HN.out]; rfl)
        have d2 : wk.cell? ⟨w.heap.size, 2, none⟩ = some (.int .i64 x.a) := AX.out.cell' 2 rfl
        have d3 : wk.cell? ⟨w.heap.size, 3, none⟩ = some (.int .u8 (B8 x.x)) := AX.out.cell' 3 rfl
        have d4 : wk.cell? ⟨w.heap.size, 4, none⟩ = some (.int .u64 (x.q : Int)) := AX.out.cell' 4 rfl
        go_wp2_with fail
        refine (block_any x.x _).mono ?_
        rintro e w4 ⟨g, rfl, ha, hg, hb⟩
        have D4 := Lib.hid (D.out.add CC.out hb (fun k => k = w.heap.size ∨ k = g) (fun k hk => hk.imp id (fun h => by subst h; exact ⟨hg, ha.lt⟩)))
        have AX4 := Lib.hid (AX.out.below hb AX.out.lt)
        have G4 := Lib.hid ha
        rw [List.length_replicate]
        clear ha hg hb
        clear D AX d0 d1 d2 d3 d4
        have d1 : w4.cell? ⟨w.heap.size, 1, none⟩ = some (.int .i64 (n : Int)) := AX4.out.cell' 1 (by rw [← HN.out]; rfl)
        have d2 : w4.cell? ⟨w.heap.size, 2, none⟩ = some (.int .i64 x.a) := AX4.out.cell' 2 rfl
        have d3 : w4.cell? ⟨w.heap.size, 3, none⟩ = some (.int .u8 (B8 x.x)) := AX4.out.cell' 3 rfl
        have d4 : w4.cell? ⟨w.heap.size, 4, none⟩ = some (.int .u64 (x.q : Int)) := AX4.out.cell' 4 rfl
        go_wp2_with fail
        have SX : Hid (SlB (fun k => k = w.heap.size ∨ k = g) w4.drew (.slice (some ⟨g, 0, none⟩) 256 256) (List.replicate 256 x.x)) := block_all G4.out
        have D := Lib.hid (DoI.drew CC.out D4.out)
        have AX := Lib.hid AX4.out.drew
        clear D4 AX4 G4 d1 d2 d3 d4
        refine wp_region_plan_in (fun w' => At w' w.heap.size (stepC6 x) 39) (.take 0 (.take 1 (.take 2 (.take 3 (.take 5 (.take 6 (.take 7 (.take 8 (.sole 4 (.sole 9 (.take 10 (.take 11 .done)))))))))))) (by kernel_rfl) (by kernel_rfl) (by kernel_rfl) AX.out.drew ?_
        (first | (refine plan_move _ _ (by rfl) (by rfl) (.inl (by rfl)) (by first | (with_reducible exact Mem.ev_const _ _) | (with_reducible exact Mem.ev_zero _ _ _) | (with_reducible (apply Eq.trans (Mem.ev_tmp _ _ _)); simp only [List.getD_cons_succ, List.getD_cons_zero] <;> rfl)) ?_) | (refine plan_move _ _ (by rfl) (by rfl) (.inr (by rfl)) (by first | (with_reducible exact Mem.ev_const _ _) | (with_reducible exact Mem.ev_zero _ _ _) | (with_reducible (apply Eq.trans (Mem.ev_tmp _ _ _)); simp only [List.getD_cons_succ, List.getD_cons_zero] <;> rfl)) ?_) | (refine plan_pick_t _ _ _ _ (by rfl) (by rfl) (by rfl) (by first | (with_reducible exact Mem.ev_const _ _) | (with_reducible exact Mem.ev_zero _ _ _) | (with_reducible (apply Eq.trans (Mem.ev_tmp _ _ _)); simp only [List.getD_cons_succ, List.getD_cons_zero] <;> rfl)) (by first | (with_reducible exact Mem.ev_const _ _) | (with_reducible exact Mem.ev_zero _ _ _) | (with_reducible (apply Eq.trans (Mem.ev_tmp _ _ _)); simp only [List.getD_cons_succ, List.getD_cons_zero] <;> rfl)) ?_) | (refine plan_pick_f _ _ _ _ (by rfl) (by rfl) (by rfl) (by first | (with_reducible exact Mem.ev_const _ _) | (with_reducible exact Mem.ev_zero _ _ _) | (with_reducible (apply Eq.trans (Mem.ev_tmp _ _ _)); simp only [List.getD_cons_succ, List.getD_cons_zero] <;> rfl)) (by first | (with_reducible exact Mem.ev_const _ _) | (with_reducible exact Mem.ev_zero _ _ _) | (with_reducible (apply Eq.trans (Mem.ev_tmp _ _ _)); simp only [List.getD_cons_succ, List.getD_cons_zero] <;> rfl)) ?_))
        (simp only [Act.put, List.setIfInBounds_toArray, List.set_cons_zero, List.set_cons_succ])
        refine plan_field 39 _ 1 w.heap.size 0 ⟨w.heap.size, 1, none⟩ (by rfl) (by rfl) (by rfl) (by first | (with_reducible exact Mem.ev_const _ _) | (with_reducible exact Mem.ev_zero _ _ _) | (with_reducible (apply Eq.trans (Mem.ev_tmp _ _ _)); simp only [List.getD_cons_succ, List.getD_cons_zero] <;> rfl)) (fun wx => by go_simp) ?_
        (simp only [Act.put, List.setIfInBounds_toArray, List.set_cons_zero, List.set_cons_succ])
        refine plan_cell 3 _ _ (.int .i64 (n : Int)) _ (by rfl) (by rfl) (by rfl) (by first | (with_reducible exact Mem.ev_const _ _) | (with_reducible exact Mem.ev_zero _ _ _) | (with_reducible (apply Eq.trans (Mem.ev_tmp _ _ _)); simp only [List.getD_cons_succ, List.getD_cons_zero] <;> rfl)) (fun w' hw' => hw'.cell' 1 (by rw [← HN.out]; rfl)) Try.underlying3 (by rfl) ?_
        (simp only [Act.put, List.setIfInBounds_toArray, List.set_cons_zero, List.set_cons_succ])
        (first | (refine plan_move _ _ (by rfl) (by rfl) (.inl (by rfl)) (by first | (with_reducible exact Mem.ev_const _ _) | (with_reducible exact Mem.ev_zero _ _ _) | (with_reducible (apply Eq.trans (Mem.ev_tmp _ _ _)); simp only [List.getD_cons_succ, List.getD_cons_zero] <;> rfl)) ?_) | (refine plan_move _ _ (by rfl) (by rfl) (.inr (by rfl)) (by first | (with_reducible exact Mem.ev_const _ _) | (with_reducible exact Mem.ev_zero _ _ _) | (with_reducible (apply Eq.trans (Mem.ev_tmp _ _ _)); simp only [List.getD_cons_succ, List.getD_cons_zero] <;> rfl)) ?_) | (refine plan_pick_t _ _ _ _ (by rfl) (by rfl) (by rfl) (by first | (with_reducible exact Mem.ev_const _ _) | (with_reducible exact Mem.ev_zero _ _ _) | (with_reducible (apply Eq.trans (Mem.ev_tmp _ _ _)); simp only [List.getD_cons_succ, List.getD_cons_zero] <;> rfl)) (by first | (with_reducible exact Mem.ev_const _ _) | (with_reducible exact Mem.ev_zero _ _ _) | (with_reducible (apply Eq.trans (Mem.ev_tmp _ _ _)); simp only [List.getD_cons_succ, List.getD_cons_zero] <;> rfl)) ?_) | (refine plan_pick_f _ _ _ _ (by rfl) (by rfl) (by rfl) (by first | (with_reducible exact Mem.ev_const _ _) | (with_reducible exact Mem.ev_zero _ _ _) | (with_reducible (apply Eq.trans (Mem.ev_tmp _ _ _)); simp only [List.getD_cons_succ, List.getD_cons_zero] <;> rfl)) (by first | (with_reducible exact Mem.ev_const _ _) | (with_reducible exact Mem.ev_zero _ _ _) | (with_reducible (apply Eq.trans (Mem.ev_tmp _ _ _)); simp only [List.getD_cons_succ, List.getD_cons_zero] <;> rfl)) ?_))
        (simp only [Act.put, List.setIfInBounds_toArray, List.set_cons_zero, List.set_cons_succ])
        (first | (refine plan_move _ _ (by rfl) (by rfl) (.inl (by rfl)) (by first | (with_reducible exact Mem.ev_const _ _) | (with_reducible exact Mem.ev_zero _ _ _) | (with_reducible (apply Eq.trans (Mem.ev_tmp _ _ _)); simp only [List.getD_cons_succ, List.getD_cons_zero] <;> rfl)) ?_) | (refine plan_move _ _ (by rfl) (by rfl) (.inr (by rfl)) (by first | (with_reducible exact Mem.ev_const _ _) | (with_reducible exact Mem.ev_zero _ _ _) | (with_reducible (apply Eq.trans (Mem.ev_tmp _ _ _)); simp only [List.getD_cons_succ, List.getD_cons_zero] <;> rfl)) ?_) | (refine plan_pick_t _ _ _ _ (by rfl) (by rfl) (by rfl) (by first | (with_reducible exact Mem.ev_const _ _) | (with_reducible exact Mem.ev_zero _ _ _) | (with_reducible (apply Eq.trans (Mem.ev_tmp _ _ _)); simp only [List.getD_cons_succ, List.getD_cons_zero] <;> rfl)) (by first | (with_reducible exact Mem.ev_const _ _) | (with_reducible exact Mem.ev_zero _ _ _) | (with_reducible (apply Eq.trans (Mem.ev_tmp _ _ _)); simp only [List.getD_cons_succ, List.getD_cons_zero] <;> rfl)) ?_) | (refine plan_pick_f _ _ _ _ (by rfl) (by rfl) (by rfl) (by first | (with_reducible exact Mem.ev_const _ _) | (with_reducible exact Mem.ev_zero _ _ _) | (with_reducible (apply Eq.trans (Mem.ev_tmp _ _ _)); simp only [List.getD_cons_succ, List.getD_cons_zero] <;> rfl)) (by first | (with_reducible exact Mem.ev_const _ _) | (with_reducible exact Mem.ev_zero _ _ _) | (with_reducible (apply Eq.trans (Mem.ev_tmp _ _ _)); simp only [List.getD_cons_succ, List.getD_cons_zero] <;> rfl)) ?_))
        (simp only [Act.put, List.setIfInBounds_toArray, List.set_cons_zero, List.set_cons_succ])
        refine plan_field 39 _ 1 w.heap.size 0 ⟨w.heap.size, 1, none⟩ (by rfl) (by rfl) (by rfl) (by first | (with_reducible exact Mem.ev_const _ _) | (with_reducible exact Mem.ev_zero _ _ _) | (with_reducible (apply Eq.trans (Mem.ev_tmp _ _ _)); simp only [List.getD_cons_succ, List.getD_cons_zero] <;> rfl)) (fun wx => by go_simp) ?_
        (simp only [Act.put, List.setIfInBounds_toArray, List.set_cons_zero, List.set_cons_succ])
        refine plan_cell 3 _ _ (.int .i64 (n : Int)) _ (by rfl) (by rfl) (by rfl) (by first | (with_reducible exact Mem.ev_const _ _) | (with_reducible exact Mem.ev_zero _ _ _) | (with_reducible (apply Eq.trans (Mem.ev_tmp _ _ _)); simp only [List.getD_cons_succ, List.getD_cons_zero] <;> rfl)) (fun w' hw' => hw'.cell' 1 (by rw [← HN.out]; rfl)) Try.underlying3 (by rfl) ?_
        (simp only [Act.put, List.setIfInBounds_toArray, List.set_cons_zero, List.set_cons_succ])
        (first | (refine plan_move _ _ (by rfl) (by rfl) (.inl (by rfl)) (by first | (with_reducible exact Mem.ev_const _ _) | (with_reducible exact Mem.ev_zero _ _ _) | (with_reducible (apply Eq.trans (Mem.ev_tmp _ _ _)); simp only [List.getD_cons_succ, List.getD_cons_zero] <;> rfl)) ?_) | (refine plan_move _ _ (by rfl) (by rfl) (.inr (by rfl)) (by first | (with_reducible exact Mem.ev_const _ _) | (with_reducible exact Mem.ev_zero _ _ _) | (with_reducible (apply Eq.trans (Mem.ev_tmp _ _ _)); simp only [List.getD_cons_succ, List.getD_cons_zero] <;> rfl)) ?_) | (refine plan_pick_t _ _ _ _ (by rfl) (by rfl) (by rfl) (by first | (with_reducible exact Mem.ev_const _ _) | (with_reducible exact Mem.ev_zero _ _ _) | (with_reducible (apply Eq.trans (Mem.ev_tmp _ _ _)); simp only [List.getD_cons_succ, List.getD_cons_zero] <;> rfl)) (by first | (with_reducible exact Mem.ev_const _ _) | (with_reducible exact Mem.ev_zero _ _ _) | (with_reducible (apply Eq.trans (Mem.ev_tmp _ _ _)); simp only [List.getD_cons_succ, List.getD_cons_zero] <;> rfl)) ?_) | (refine plan_pick_f _ _ _ _ (by rfl) (by rfl) (by rfl) (by first | (with_reducible exact Mem.ev_const _ _) | (with_reducible exact Mem.ev_zero _ _ _) | (with_reducible (apply Eq.trans (Mem.ev_tmp _ _ _)); simp only [List.getD_cons_succ, List.getD_cons_zero] <;> rfl)) (by first | (with_reducible exact Mem.ev_const _ _) | (with_reducible exact Mem.ev_zero _ _ _) | (with_reducible (apply Eq.trans (Mem.ev_tmp _ _ _)); simp only [List.getD_cons_succ, List.getD_cons_zero] <;> rfl)) ?_))
        (simp only [Act.put, List.setIfInBounds_toArray, List.set_cons_zero, List.set_cons_succ])
        refine plan_call 20 _ _ _ (by kernel_rfl) (by rfl) (by rfl) (by rfl) (by first | exact Mem.ev_none _ | (simp only [List.map_toArray, List.map_cons, List.map_nil, Mem.ev_tmp, List.getD_cons_succ, List.getD_cons_zero] <;> rfl)) ?_
        refine (DoI.first CC.out D.out (fun F h => CC.out.write n _ _ _ h OK.out SX.out.sl NL.out (by rw [List.length_replicate]))).mono ?_
        rintro e w5 ⟨rfl, hd, hk⟩
        have D5 := Lib.hid hd
        have AX5 := Lib.hid (AX.out.kept hk (by first | exact rfl | exact .inl rfl))
        have SX5 := Lib.hid (SX.out.kept hk)
        clear hd hk D
        refine ⟨_, rfl, AX5.out, ?_⟩
        (simp only [Act.put, List.setIfInBounds_toArray, List.set_cons_zero, List.set_cons_succ])
        refine plan_call 33 _ _ _ (by kernel_rfl) (by rfl) (by rfl) (by rfl) (by first | exact Mem.ev_none _ | (simp only [List.map_toArray, List.map_cons, List.map_nil, Mem.ev_tmp, List.getD_cons_succ, List.getD_cons_zero] <;> rfl)) ?_
        refine (DoI.second CC.out D5.out (fun G h => rwrite_good n _ _ _ h SX5.out.sl OK.out.n2 NL.out (by rw [List.length_replicate]) (Nat.le_trans OK.out.w (by decide)) (Nat.le_trans OK.out.t (by decide)))).mono ?_
        rintro e w6 ⟨rfl, hd, hk⟩
        have D6 := Lib.hid hd
        have AX6 := Lib.hid (AX5.out.kept hk (by first | exact rfl | exact .inl rfl))
        clear hd hk D5
        refine ⟨_, rfl, AX6.out, ?_⟩
        (simp only [Act.put, List.setIfInBounds_toArray, List.set_cons_zero, List.set_cons_succ])
        refine plan_bin _ _ _ _ _ _ _ _ (by rfl) (by rfl) (by rfl) (by first | (with_reducible exact Mem.ev_const _ _) | (with_reducible exact Mem.ev_zero _ _ _) | (with_reducible (apply Eq.trans (Mem.ev_tmp _ _ _)); simp only [List.getD_cons_succ, List.getD_cons_zero] <;> rfl)) (by first | (with_reducible exact Mem.ev_const _ _) | (with_reducible exact Mem.ev_zero _ _ _) | (with_reducible (apply Eq.trans (Mem.ev_tmp _ _ _)); simp only [List.getD_cons_succ, List.getD_cons_zero] <;> rfl)) (fun wx => (by go_simp : (do eqGuard .eql 3 _ _ (.int .i64 0) (.int .i64 0); Go.binOp .eql 3 (.int .i64 0) (.int .i64 0) : Sem Value).run Try.prog wx = .ok (.bool true) wx)) ?_
        (simp only [Act.put, List.setIfInBounds_toArray, List.set_cons_zero, List.set_cons_succ])
        (first | (refine plan_move _ _ (by rfl) (by rfl) (.inl (by rfl)) (by first | (with_reducible exact Mem.ev_const _ _) | (with_reducible exact Mem.ev_zero _ _ _) | (with_reducible (apply Eq.trans (Mem.ev_tmp _ _ _)); simp only [List.getD_cons_succ, List.getD_cons_zero] <;> rfl)) ?_) | (refine plan_move _ _ (by rfl) (by rfl) (.inr (by rfl)) (by first | (with_reducible exact Mem.ev_const _ _) | (with_reducible exact Mem.ev_zero _ _ _) | (with_reducible (apply Eq.trans (Mem.ev_tmp _ _ _)); simp only [List.getD_cons_succ, List.getD_cons_zero] <;> rfl)) ?_) | (refine plan_pick_t _ _ _ _ (by rfl) (by rfl) (by rfl) (by first | (with_reducible exact Mem.ev_const _ _) | (with_reducible exact Mem.ev_zero _ _ _) | (with_reducible (apply Eq.trans (Mem.ev_tmp _ _ _)); simp only [List.getD_cons_succ, List.getD_cons_zero] <;> rfl)) (by first | (with_reducible exact Mem.ev_const _ _) | (with_reducible exact Mem.ev_zero _ _ _) | (with_reducible (apply Eq.trans (Mem.ev_tmp _ _ _)); simp only [List.getD_cons_succ, List.getD_cons_zero] <;> rfl)) ?_) | (refine plan_pick_f _ _ _ _ (by rfl) (by rfl) (by rfl) (by first | (with_reducible exact Mem.ev_const _ _) | (with_reducible exact Mem.ev_zero _ _ _) | (with_reducible (apply Eq.trans (Mem.ev_tmp _ _ _)); simp only [List.getD_cons_succ, List.getD_cons_zero] <;> rfl)) (by first | (with_reducible exact Mem.ev_const _ _) | (with_reducible exact Mem.ev_zero _ _ _) | (with_reducible (apply Eq.trans (Mem.ev_tmp _ _ _)); simp only [List.getD_cons_succ, List.getD_cons_zero] <;> rfl)) ?_))
        (simp only [Act.put, List.setIfInBounds_toArray, List.set_cons_zero, List.set_cons_succ])
        refine plan_nil ?_
        go_wp2_with fail
        go_ret
        rw [DS.out]
        exact ⟨rfl, ok_write OKM.out n _ NL.out (by rw [List.length_replicate]), rfl, D6.out.fin⟩
      · have ds : doSt s x = s := by unfold doSt; rw [if_neg (by omega : ¬ B8 x.k % 8 = 2), if_neg (by omega : ¬ B8 x.k % 8 = 3), if_neg (by omega : ¬ B8 x.k % 8 = 4), if_neg (by omega : ¬ B8 x.k % 8 = 5), if_neg (by omega : ¬ B8 x.k % 8 = 6), if_neg (by omega : ¬ B8 x.k % 8 = 7), if_pos (by omega : x.q % 16 = 5 ∨ x.n < 0 ∨ (s.n : Int) ≤ x.n)]
        have DS := Lib.hid ds
        clear ds
        have BAD : Hid (x.n < 0 ∨ (s.n : Int) ≤ x.n ∨ (List.replicate 256 x.x).length ≠ 256) := (by show _ ∨ _ ∨ _; omega)
        clear hN
        go_enter Try.func11, Try.ntmps11
        go_upto_region 1 with fail
        generalize w.alloc (.cells (stepC6 x) 39) = wk at *
        have d0 : wk.cell? ⟨w.heap.size, 0, none⟩ = some (.int .u8 (B8 x.k)) := AX.out.cell' 0 rfl
        have d1 : wk.cell? ⟨w.heap.size, 1, none⟩ = some (.int .i64 x.n) := AX.out.cell' 1 rfl
        have d2 : wk.cell? ⟨w.heap.size, 2, none⟩ = some (.int .i64 x.a) := AX.out.cell' 2 rfl
        have d3 : wk.cell? ⟨w.heap.size, 3, none⟩ = some (.int .u8 (B8 x.x)) := AX.out.cell' 3 rfl
        have d4 : wk.cell? ⟨w.heap.size, 4, none⟩ = some (.int .u64 (x.q : Int)) := AX.out.cell' 4 rfl
        go_wp2_with fail
        refine (block_any x.x _).mono ?_
        rintro e w4 ⟨g, rfl, ha, hg, hb⟩
        have D4 := Lib.hid (D.out.add CC.out hb (fun k => k = w.heap.size ∨ k = g) (fun k hk => hk.imp id (fun h => by subst h; exact ⟨hg, ha.lt⟩)))
        have AX4 := Lib.hid (AX.out.below hb AX.out.lt)
        have G4 := Lib.hid ha
        rw [List.length_replicate]
        clear ha hg hb
        clear D AX d0 d1 d2 d3 d4
        have d1 : w4.cell? ⟨w.heap.size, 1, none⟩ = some (.int .i64 x.n) := AX4.out.cell' 1 rfl
        have d2 : w4.cell? ⟨w.heap.size, 2, none⟩ = some (.int .i64 x.a) := AX4.out.cell' 2 rfl
        have d3 : w4.cell? ⟨w.heap.size, 3, none⟩ = some (.int .u8 (B8 x.x)) := AX4.out.cell' 3 rfl
        have d4 : w4.cell? ⟨w.heap.size, 4, none⟩ = some (.int .u64 (x.q : Int)) := AX4.out.cell' 4 rfl
        go_wp2_with fail
        have SX : Hid (SlB (fun k => k = w.heap.size ∨ k = g) w4.drew (.slice (some ⟨g, 0, none⟩) 256 256) (List.replicate 256 x.x)) := block_all G4.out
        have D := Lib.hid (DoI.drew CC.out D4.out)
        have AX := Lib.hid AX4.out.drew
        clear D4 AX4 G4 d1 d2 d3 d4
        refine wp_region_plan_in (fun w' => At w' w.heap.size (stepC6 x) 39) (.take 0 (.take 1 (.take 2 (.take 3 (.take 5 (.take 6 (.take 7 (.take 8 (.sole 4 (.sole 9 (.take 10 (.take 11 .done)))))))))))) (by kernel_rfl) (by kernel_rfl) (by kernel_rfl) AX.out.drew ?_
        (first | (refine plan_move _ _ (by rfl) (by rfl) (.inl (by rfl)) (by first | (with_reducible exact Mem.ev_const _ _) | (with_reducible exact Mem.ev_zero _ _ _) | (with_reducible (apply Eq.trans (Mem.ev_tmp _ _ _)); simp only [List.getD_cons_succ, List.getD_cons_zero] <;> rfl)) ?_) | (refine plan_move _ _ (by rfl) (by rfl) (.inr (by rfl)) (by first | (with_reducible exact Mem.ev_const _ _) | (with_reducible exact Mem.ev_zero _ _ _) | (with_reducible (apply Eq.trans (Mem.ev_tmp _ _ _)); simp only [List.getD_cons_succ, List.getD_cons_zero] <;> rfl)) ?_) | (refine plan_pick_t _ _ _ _ (by rfl) (by rfl) (by rfl) (by first | (with_reducible exact Mem.ev_const _ _) | (with_reducible exact Mem.ev_zero _ _ _) | (with_reducible (apply Eq.trans (Mem.ev_tmp _ _ _)); simp only [List.getD_cons_succ, List.getD_cons_zero] <;> rfl)) (by first | (with_reducible exact Mem.ev_const _ _) | (with_reducible exact Mem.ev_zero _ _ _) | (with_reducible (apply Eq.trans (Mem.ev_tmp _ _ _)); simp only [List.getD_cons_succ, List.getD_cons_zero] <;> rfl)) ?_) | (refine plan_pick_f _ _ _ _ (by rfl) (by rfl) (by rfl) (by first | (with_reducible exact Mem.ev_const _ _) | (with_reducible exact Mem.ev_zero _ _ _) | (with_reducible (apply Eq.trans (Mem.ev_tmp _ _ _)); simp only [List.getD_cons_succ, List.getD_cons_zero] <;> rfl)) (by first | (with_reducible exact Mem.ev_const _ _) | (with_reducible exact Mem.ev_zero _ _ _) | (with_reducible (apply Eq.trans (Mem.ev_tmp _ _ _)); simp only [List.getD_cons_succ, List.getD_cons_zero] <;> rfl)) ?_))
        (simp only [Act.put, List.setIfInBounds_toArray, List.set_cons_zero, List.set_cons_succ])
        refine plan_field 39 _ 1 w.heap.size 0 ⟨w.heap.size, 1, none⟩ (by rfl) (by rfl) (by rfl) (by first | (with_reducible exact Mem.ev_const _ _) | (with_reducible exact Mem.ev_zero _ _ _) | (with_reducible (apply Eq.trans (Mem.ev_tmp _ _ _)); simp only [List.getD_cons_succ, List.getD_cons_zero] <;> rfl)) (fun wx => by go_simp) ?_
        (simp only [Act.put, List.setIfInBounds_toArray, List.set_cons_zero, List.set_cons_succ])
        refine plan_cell 3 _ _ (.int .i64 x.n) _ (by rfl) (by rfl) (by rfl) (by first | (with_reducible exact Mem.ev_const _ _) | (with_reducible exact Mem.ev_zero _ _ _) | (with_reducible (apply Eq.trans (Mem.ev_tmp _ _ _)); simp only [List.getD_cons_succ, List.getD_cons_zero] <;> rfl)) (fun w' hw' => hw'.cell' 1 rfl) Try.underlying3 (by rfl) ?_
        (simp only [Act.put, List.setIfInBounds_toArray, List.set_cons_zero, List.set_cons_succ])
        (first | (refine plan_move _ _ (by rfl) (by rfl) (.inl (by rfl)) (by first | (with_reducible exact Mem.ev_const _ _) | (with_reducible exact Mem.ev_zero _ _ _) | (with_reducible (apply Eq.trans (Mem.ev_tmp _ _ _)); simp only [List.getD_cons_succ, List.getD_cons_zero] <;> rfl)) ?_) | (refine plan_move _ _ (by rfl) (by rfl) (.inr (by rfl)) (by first | (with_reducible exact Mem.ev_const _ _) | (with_reducible exact Mem.ev_zero _ _ _) | (with_reducible (apply Eq.trans (Mem.ev_tmp _ _ _)); simp only [List.getD_cons_succ, List.getD_cons_zero] <;> rfl)) ?_) | (refine plan_pick_t _ _ _ _ (by rfl) (by rfl) (by rfl) (by first | (with_reducible exact Mem.ev_const _ _) | (with_reducible exact Mem.ev_zero _ _ _) | (with_reducible (apply Eq.trans (Mem.ev_tmp _ _ _)); simp only [List.getD_cons_succ, List.getD_cons_zero] <;> rfl)) (by first | (with_reducible exact Mem.ev_const _ _) | (with_reducible exact Mem.ev_zero _ _ _) | (with_reducible (apply Eq.trans (Mem.ev_tmp _ _ _)); simp only [List.getD_cons_succ, List.getD_cons_zero] <;> rfl)) ?_) | (refine plan_pick_f _ _ _ _ (by rfl) (by rfl) (by rfl) (by first | (with_reducible exact Mem.ev_const _ _) | (with_reducible exact Mem.ev_zero _ _ _) | (with_reducible (apply Eq.trans (Mem.ev_tmp _ _ _)); simp only [List.getD_cons_succ, List.getD_cons_zero] <;> rfl)) (by first | (with_reducible exact Mem.ev_const _ _) | (with_reducible exact Mem.ev_zero _ _ _) | (with_reducible (apply Eq.trans (Mem.ev_tmp _ _ _)); simp only [List.getD_cons_succ, List.getD_cons_zero] <;> rfl)) ?_))
        (simp only [Act.put, List.setIfInBounds_toArray, List.set_cons_zero, List.set_cons_succ])
        (first | (refine plan_move _ _ (by rfl) (by rfl) (.inl (by rfl)) (by first | (with_reducible exact Mem.ev_const _ _) | (with_reducible exact Mem.ev_zero _ _ _) | (with_reducible (apply Eq.trans (Mem.ev_tmp _ _ _)); simp only [List.getD_cons_succ, List.getD_cons_zero] <;> rfl)) ?_) | (refine plan_move _ _ (by rfl) (by rfl) (.inr (by rfl)) (by first | (with_reducible exact Mem.ev_const _ _) | (with_reducible exact Mem.ev_zero _ _ _) | (with_reducible (apply Eq.trans (Mem.ev_tmp _ _ _)); simp only [List.getD_cons_succ, List.getD_cons_zero] <;> rfl)) ?_) | (refine plan_pick_t _ _ _ _ (by rfl) (by rfl) (by rfl) (by first | (with_reducible exact Mem.ev_const _ _) | (with_reducible exact Mem.ev_zero _ _ _) | (with_reducible (apply Eq.trans (Mem.ev_tmp _ _ _)); simp only [List.getD_cons_succ, List.getD_cons_zero] <;> rfl)) (by first | (with_reducible exact Mem.ev_const _ _) | (with_reducible exact Mem.ev_zero _ _ _) | (with_reducible (apply Eq.trans (Mem.ev_tmp _ _ _)); simp only [List.getD_cons_succ, List.getD_cons_zero] <;> rfl)) ?_) | (refine plan_pick_f _ _ _ _ (by rfl) (by rfl) (by rfl) (by first | (with_reducible exact Mem.ev_const _ _) | (with_reducible exact Mem.ev_zero _ _ _) | (with_reducible (apply Eq.trans (Mem.ev_tmp _ _ _)); simp only [List.getD_cons_succ, List.getD_cons_zero] <;> rfl)) (by first | (with_reducible exact Mem.ev_const _ _) | (with_reducible exact Mem.ev_zero _ _ _) | (with_reducible (apply Eq.trans (Mem.ev_tmp _ _ _)); simp only [List.getD_cons_succ, List.getD_cons_zero] <;> rfl)) ?_))
        (simp only [Act.put, List.setIfInBounds_toArray, List.set_cons_zero, List.set_cons_succ])
        refine plan_field 39 _ 1 w.heap.size 0 ⟨w.heap.size, 1, none⟩ (by rfl) (by rfl) (by rfl) (by first | (with_reducible exact Mem.ev_const _ _) | (with_reducible exact Mem.ev_zero _ _ _) | (with_reducible (apply Eq.trans (Mem.ev_tmp _ _ _)); simp only [List.getD_cons_succ, List.getD_cons_zero] <;> rfl)) (fun wx => by go_simp) ?_
        (simp only [Act.put, List.setIfInBounds_toArray, List.set_cons_zero, List.set_cons_succ])
        refine plan_cell 3 _ _ (.int .i64 x.n) _ (by rfl) (by rfl) (by rfl) (by first | (with_reducible exact Mem.ev_const _ _) | (with_reducible exact Mem.ev_zero _ _ _) | (with_reducible (apply Eq.trans (Mem.ev_tmp _ _ _)); simp only [List.getD_cons_succ, List.getD_cons_zero] <;> rfl)) (fun w' hw' => hw'.cell' 1 rfl) Try.underlying3 (by rfl) ?_
        (simp only [Act.put, List.setIfInBounds_toArray, List.set_cons_zero, List.set_cons_succ])
        (first | (refine plan_move _ _ (by rfl) (by rfl) (.inl (by rfl)) (by first | (with_reducible exact Mem.ev_const _ _) | (with_reducible exact Mem.ev_zero _ _ _) | (with_reducible (apply Eq.trans (Mem.ev_tmp _ _ _)); simp only [List.getD_cons_succ, List.getD_cons_zero] <;> rfl)) ?_) | (refine plan_move _ _ (by rfl) (by rfl) (.inr (by rfl)) (by first | (with_reducible exact Mem.ev_const _ _) | (with_reducible exact Mem.ev_zero _ _ _) | (with_reducible (apply Eq.trans (Mem.ev_tmp _ _ _)); simp only [List.getD_cons_succ, List.getD_cons_zero] <;> rfl)) ?_) | (refine plan_pick_t _ _ _ _ (by rfl) (by rfl) (by rfl) (by first | (with_reducible exact Mem.ev_const _ _) | (with_reducible exact Mem.ev_zero _ _ _) | (with_reducible (apply Eq.trans (Mem.ev_tmp _ _ _)); simp only [List.getD_cons_succ, List.getD_cons_zero] <;> rfl)) (by first | (with_reducible exact Mem.ev_const _ _) | (with_reducible exact Mem.ev_zero _ _ _) | (with_reducible (apply Eq.trans (Mem.ev_tmp _ _ _)); simp only [List.getD_cons_succ, List.getD_cons_zero] <;> rfl)) ?_) | (refine plan_pick_f _ _ _ _ (by rfl) (by rfl) (by rfl) (by first | (with_reducible exact Mem.ev_const _ _) | (with_reducible exact Mem.ev_zero _ _ _) | (with_reducible (apply Eq.trans (Mem.ev_tmp _ _ _)); simp only [List.getD_cons_succ, List.getD_cons_zero] <;> rfl)) (by first | (with_reducible exact Mem.ev_const _ _) | (with_reducible exact Mem.ev_zero _ _ _) | (with_reducible (apply Eq.trans (Mem.ev_tmp _ _ _)); simp only [List.getD_cons_succ, List.getD_cons_zero] <;> rfl)) ?_))
        (simp only [Act.put, List.setIfInBounds_toArray, List.set_cons_zero, List.set_cons_succ])
        refine plan_call 20 _ _ _ (by kernel_rfl) (by rfl) (by rfl) (by rfl) (by first | exact Mem.ev_none _ | (simp only [List.map_toArray, List.map_cons, List.map_nil, Mem.ev_tmp, List.getD_cons_succ, List.getD_cons_zero] <;> rfl)) ?_
        refine (DoI.first CC.out D.out (fun F h => CC.out.writeBad x.n _ _ _ h OK.out SX.out.sl XN.out.1 XN.out.2 (by rw [List.length_replicate]; decide) BAD.out)).mono ?_
        rintro e w5 ⟨rfl, hd, hk⟩
        have D5 := Lib.hid hd
        have AX5 := Lib.hid (AX.out.kept hk (by first | exact rfl | exact .inl rfl))
        have SX5 := Lib.hid (SX.out.kept hk)
        clear hd hk D
        refine ⟨_, rfl, AX5.out, ?_⟩
        (simp only [Act.put, List.setIfInBounds_toArray, List.set_cons_zero, List.set_cons_succ])
        refine plan_call 33 _ _ _ (by kernel_rfl) (by rfl) (by rfl) (by rfl) (by first | exact Mem.ev_none _ | (simp only [List.map_toArray, List.map_cons, List.map_nil, Mem.ev_tmp, List.getD_cons_succ, List.getD_cons_zero] <;> rfl)) ?_
        refine (DoI.second CC.out D5.out (fun G h => rbad_end (rwrite_bad x.n _ _ _ h SX5.out.sl OK.out.n2 (by rw [List.length_replicate]; decide) BAD.out) h)).mono ?_
        rintro e w6 ⟨rfl, hd, hk⟩
        have D6 := Lib.hid hd
        have AX6 := Lib.hid (AX5.out.kept hk (by first | exact rfl | exact .inl rfl))
        clear hd hk D5
        refine ⟨_, rfl, AX6.out, ?_⟩
        (simp only [Act.put, List.setIfInBounds_toArray, List.set_cons_zero, List.set_cons_succ])
        refine plan_bin _ _ _ _ _ _ _ _ (by rfl) (by rfl) (by rfl) (by first | (with_reducible exact Mem.ev_const _ _) | (with_reducible exact Mem.ev_zero _ _ _) | (with_reducible (apply Eq.trans (Mem.ev_tmp _ _ _)); simp only [List.getD_cons_succ, List.getD_cons_zero] <;> rfl)) (by first | (with_reducible exact Mem.ev_const _ _) | (with_reducible exact Mem.ev_zero _ _ _) | (with_reducible (apply Eq.trans (Mem.ev_tmp _ _ _)); simp only [List.getD_cons_succ, List.getD_cons_zero] <;> rfl)) (fun wx => (by go_simp : (do eqGuard .eql 3 _ _ (.int .i64 1) (.int .i64 1); Go.binOp .eql 3 (.int .i64 1) (.int .i64 1) : Sem Value).run Try.prog wx = .ok (.bool true) wx)) ?_
        (simp only [Act.put, List.setIfInBounds_toArray, List.set_cons_zero, List.set_cons_succ])
        (first | (refine plan_move _ _ (by rfl) (by rfl) (.inl (by rfl)) (by first | (with_reducible exact Mem.ev_const _ _) | (with_reducible exact Mem.ev_zero _ _ _) | (with_reducible (apply Eq.trans (Mem.ev_tmp _ _ _)); simp only [List.getD_cons_succ, List.getD_cons_zero] <;> rfl)) ?_) | (refine plan_move _ _ (by rfl) (by rfl) (.inr (by rfl)) (by first | (with_reducible exact Mem.ev_const _ _) | (with_reducible exact Mem.ev_zero _ _ _) | (with_reducible (apply Eq.trans (Mem.ev_tmp _ _ _)); simp only [List.getD_cons_succ, List.getD_cons_zero] <;> rfl)) ?_) | (refine plan_pick_t _ _ _ _ (by rfl) (by rfl) (by rfl) (by first | (with_reducible exact Mem.ev_const _ _) | (with_reducible exact Mem.ev_zero _ _ _) | (with_reducible (apply Eq.trans (Mem.ev_tmp _ _ _)); simp only [List.getD_cons_succ, List.getD_cons_zero] <;> rfl)) (by first | (with_reducible exact Mem.ev_const _ _) | (with_reducible exact Mem.ev_zero _ _ _) | (with_reducible (apply Eq.trans (Mem.ev_tmp _ _ _)); simp only [List.getD_cons_succ, List.getD_cons_zero] <;> rfl)) ?_) | (refine plan_pick_f _ _ _ _ (by rfl) (by rfl) (by rfl) (by first | (with_reducible exact Mem.ev_const _ _) | (with_reducible exact Mem.ev_zero _ _ _) | (with_reducible (apply Eq.trans (Mem.ev_tmp _ _ _)); simp only [List.getD_cons_succ, List.getD_cons_zero] <;> rfl)) (by first | (with_reducible exact Mem.ev_const _ _) | (with_reducible exact Mem.ev_zero _ _ _) | (with_reducible (apply Eq.trans (Mem.ev_tmp _ _ _)); simp only [List.getD_cons_succ, List.getD_cons_zero] <;> rfl)) ?_))
        (simp only [Act.put, List.setIfInBounds_toArray, List.set_cons_zero, List.set_cons_succ])
        refine plan_nil ?_
        go_wp2_with fail
        go_ret
        rw [DS.out]
        exact ⟨rfl, OK1.out, rfl, D6.out.fin⟩
  · by_cases hN : 0 ≤ x.n ∧ x.n < (s.n : Int)
    · have ds : doSt s x = s := by unfold doSt; rw [if_pos h8]
      have DS := Lib.hid ds
      clear ds
      obtain ⟨n, HN'⟩ : ∃ n : Nat, x.n = (n : Int) := ⟨x.n.toNat, by omega⟩
      have NL : Hid (n < s.n) := (by show n < s.n; omega)
      have HN := Lib.hid HN'
      clear hN HN'
      go_enter Try.func11, Try.ntmps11
      go_upto_region 1 with fail
      generalize w.alloc (.cells (stepC6 x) 39) = wk at *
      have d0 : wk.cell? ⟨w.heap.size, 0, none⟩ = some (.int .u8 (B8 x.k)) := AX.out.cell' 0 rfl
      have d1 : wk.cell? ⟨w.heap.size, 1, none⟩ = some (.int .i64 (n : Int)) := AX.out.cell' 1 (by rw [← HN.out]; rfl)
      have d2 : wk.cell? ⟨w.heap.size, 2, none⟩ = some (.int .i64 x.a) := AX.out.cell' 2 rfl
      have d3 : wk.cell? ⟨w.heap.size, 3, none⟩ = some (.int .u8 (B8 x.x)) := AX.out.cell' 3 rfl
      have d4 : wk.cell? ⟨w.heap.size, 4, none⟩ = some (.int .u64 (x.q : Int)) := AX.out.cell' 4 rfl
      go_wp2_with fail
      obtain ⟨F1, f1⟩ := D.out.prog
      refine (CC.out.read n wk f1 OK.out NL.out).mono ?_
      rintro e w5 ⟨v5, rfl, hs5, hb5⟩
      obtain ⟨a5, c5, rfl⟩ := hs5.hd
      have D6 := Lib.hid (D.out.below CC.out hb5)
      have AX5 := Lib.hid (AX.out.below hb5 AX.out.lt)
      have S5 := Lib.hid hs5.sl
      clear d0 d1 d2 d3 d4 hs5 hb5 f1
      have d1 : w5.cell? ⟨w.heap.size, 1, none⟩ = some (.int .i64 (n : Int)) := AX5.out.cell' 1 (by rw [← HN.out]; rfl)
      have d2 : w5.cell? ⟨w.heap.size, 2, none⟩ = some (.int .i64 x.a) := AX5.out.cell' 2 rfl
      have d3 : w5.cell? ⟨w.heap.size, 3, none⟩ = some (.int .u8 (B8 x.x)) := AX5.out.cell' 3 rfl
      have d4 : w5.cell? ⟨w.heap.size, 4, none⟩ = some (.int .u64 (x.q : Int)) := AX5.out.cell' 4 rfl
      go_wp2_with fail
      obtain ⟨G1, g1⟩ := D6.out.ref
      refine (rread_good n w5 g1 OK.out.n2 NL.out OK.out.b (Nat.le_trans OK.out.w (by decide))).mono ?_
      rintro e w6 ⟨⟨v6, rfl, hs6⟩, rfl⟩
      obtain ⟨a6, c6, rfl, _, _⟩ := id hs6
      have S6 := Lib.hid hs6
      clear hs6 g1
      go_wp2_with fail
      refine (same_any (stRead s n) (stRead s n) _ _ w5 S5.out S6.out (by rw [stRead_len OK.out NL.out]; decide) (by rw [stRead_len OK.out NL.out]; decide)).mono ?_
      rintro e w7 ⟨rfl, hb7⟩
      rw [sameB_self]
      have D7 := Lib.hid (D6.out.below CC.out hb7)
      clear hb7 d1 d2 d3 d4
      go_wp2_with fail
      go_ret
      rw [DS.out]
      exact ⟨rfl, OK1.out, rfl, D7.out.fin⟩
    · have ds : doSt s x = s := by unfold doSt; rw [if_pos h8]
      have DS := Lib.hid ds
      clear ds
      have BAD : Hid (x.n < 0 ∨ (s.n : Int) ≤ x.n) := (by show x.n < 0 ∨ (s.n : Int) ≤ x.n; omega)
      clear hN
      go_enter Try.func11, Try.ntmps11
      go_upto_region 1 with fail
      generalize w.alloc (.cells (stepC6 x) 39) = wk at *
      have d0 : wk.cell? ⟨w.heap.size, 0, none⟩ = some (.int .u8 (B8 x.k)) := AX.out.cell' 0 rfl
      have d1 : wk.cell? ⟨w.heap.size, 1, none⟩ = some (.int .i64 x.n) := AX.out.cell' 1 rfl
      have d2 : wk.cell? ⟨w.heap.size, 2, none⟩ = some (.int .i64 x.a) := AX.out.cell' 2 rfl
      have d3 : wk.cell? ⟨w.heap.size, 3, none⟩ = some (.int .u8 (B8 x.x)) := AX.out.cell' 3 rfl
      have d4 : wk.cell? ⟨w.heap.size, 4, none⟩ = some (.int .u64 (x.q : Int)) := AX.out.cell' 4 rfl
      go_wp2_with fail
      obtain ⟨F1, f1⟩ := D.out.prog
      refine (CC.out.readBad x.n wk f1 OK.out XN.out.1 XN.out.2 BAD.out).mono ?_
      rintro e w5 ⟨v5, rfl, hs5, hb5⟩
      obtain ⟨a5, c5, rfl, _, _⟩ := id hs5
      have D6 := Lib.hid (D.out.below CC.out hb5)
      have AX5 := Lib.hid (AX.out.below hb5 AX.out.lt)
      have S5 := Lib.hid hs5
      clear d0 d1 d2 d3 d4 hs5 hb5 f1
      have d1 : w5.cell? ⟨w.heap.size, 1, none⟩ = some (.int .i64 x.n) := AX5.out.cell' 1 rfl
      have d2 : w5.cell? ⟨w.heap.size, 2, none⟩ = some (.int .i64 x.a) := AX5.out.cell' 2 rfl
      have d3 : w5.cell? ⟨w.heap.size, 3, none⟩ = some (.int .u8 (B8 x.x)) := AX5.out.cell' 3 rfl
      have d4 : w5.cell? ⟨w.heap.size, 4, none⟩ = some (.int .u64 (x.q : Int)) := AX5.out.cell' 4 rfl
      go_wp2_with fail
      obtain ⟨G1, g1⟩ := D6.out.ref
      refine (rread_bad x.n w5 g1 OK.out.n2 BAD.out).mono ?_
      rintro e w6 ⟨rfl, rfl⟩
      clear g1
      go_wp2_with fail
      refine (same_any [] [] _ _ w5 S5.out (sl_none _) (by decide) (by decide)).mono ?_
      rintro e w7 ⟨rfl, hb7⟩
      rw [sameB_self]
      have D7 := Lib.hid (D6.out.below CC.out hb7)
      clear hb7 d1 d2 d3 d4
      go_wp2_with fail
      go_ret
      rw [DS.out]
      exact ⟨rfl, OK1.out, rfl, D7.out.fin⟩
  · have ds : doSt s x = stFlush s := by unfold doSt; rw [if_neg (by omega : ¬ B8 x.k % 8 = 2), if_pos h8]
    have DS := Lib.hid ds
    clear ds
    go_enter Try.func11, Try.ntmps11
    go_upto_region 1 with fail
    generalize w.alloc (.cells (stepC6 x) 39) = wk at *
    have d0 : wk.cell? ⟨w.heap.size, 0, none⟩ = some (.int .u8 (B8 x.k)) := AX.out.cell' 0 rfl
    have d1 : wk.cell? ⟨w.heap.size, 1, none⟩ = some (.int .i64 x.n) := AX.out.cell' 1 rfl
    have d2 : wk.cell? ⟨w.heap.size, 2, none⟩ = some (.int .i64 x.a) := AX.out.cell' 2 rfl
    have d3 : wk.cell? ⟨w.heap.size, 3, none⟩ = some (.int .u8 (B8 x.x)) := AX.out.cell' 3 rfl
    have d4 : wk.cell? ⟨w.heap.size, 4, none⟩ = some (.int .u64 (x.q : Int)) := AX.out.cell' 4 rfl
    go_wp2_with fail
    refine (DoI.first CC.out D.out (fun F h => CC.out.flush _ h OK.out)).mono ?_
    rintro e w5 ⟨rfl, hd, hk⟩
    have D5 := Lib.hid hd
    have AX5 := Lib.hid (AX.out.kept hk (by first | exact rfl | exact .inl rfl))
    clear hd hk D
    go_wp2_with fail
    refine (DoI.second CC.out D5.out (fun G h => rflush_any _ h OK.out.n2 OK.out.b OK.out.wf (Nat.le_trans OK.out.w (by decide)) (Nat.le_trans OK.out.t (by decide)))).mono ?_
    rintro e w6 ⟨rfl, hd, _⟩
    have D6 := Lib.hid hd
    clear hd D5
    go_wp2_with fail
    go_ret
    rw [DS.out]
    exact ⟨rfl, ok_flush OKM.out, rfl, D6.out.fin⟩
  · have ds : doSt s x = stCrash s x.q x.n x.a := by unfold doSt; rw [if_neg (by omega : ¬ B8 x.k % 8 = 2), if_neg (by omega : ¬ B8 x.k % 8 = 3), if_pos h8]
    have DS := Lib.hid ds
    clear ds
    go_enter Try.func11, Try.ntmps11
    go_upto_region 1 with fail
    generalize w.alloc (.cells (stepC6 x) 39) = wk at *
    have d0 : wk.cell? ⟨w.heap.size, 0, none⟩ = some (.int .u8 (B8 x.k)) := AX.out.cell' 0 rfl
    have d1 : wk.cell? ⟨w.heap.size, 1, none⟩ = some (.int .i64 x.n) := AX.out.cell' 1 rfl
    have d2 : wk.cell? ⟨w.heap.size, 2, none⟩ = some (.int .i64 x.a) := AX.out.cell' 2 rfl
    have d3 : wk.cell? ⟨w.heap.size, 3, none⟩ = some (.int .u8 (B8 x.x)) := AX.out.cell' 3 rfl
    have d4 : wk.cell? ⟨w.heap.size, 4, none⟩ = some (.int .u64 (x.q : Int)) := AX.out.cell' 4 rfl
    go_wp2_with fail
    refine (DoI.first CC.out D.out (fun F h => CC.out.crash x.q x.n x.a _ h OK.out XQ.out XN.out.1 XN.out.2 XA.out.1 XA.out.2)).mono ?_
    rintro e w5 ⟨rfl, hd, hk⟩
    have D5 := Lib.hid hd
    have AX5 := Lib.hid (AX.out.kept hk (by first | exact rfl | exact .inl rfl))
    clear hd hk D d0 d1 d2 d3 d4
    have d1 : w5.cell? ⟨w.heap.size, 1, none⟩ = some (.int .i64 x.n) := AX5.out.cell' 1 rfl
    have d2 : w5.cell? ⟨w.heap.size, 2, none⟩ = some (.int .i64 x.a) := AX5.out.cell' 2 rfl
    have d3 : w5.cell? ⟨w.heap.size, 3, none⟩ = some (.int .u8 (B8 x.x)) := AX5.out.cell' 3 rfl
    have d4 : w5.cell? ⟨w.heap.size, 4, none⟩ = some (.int .u64 (x.q : Int)) := AX5.out.cell' 4 rfl
    go_wp2_with fail
    refine (DoI.second CC.out D5.out (fun G h => rcrash_any x.q x.n x.a _ XQ.out h OK.out.n2 OK.out.b OK.out.wf (Nat.le_trans OK.out.w (by decide)))).mono ?_
    rintro e w6 ⟨rfl, hd, _⟩
    have D6 := Lib.hid hd
    clear hd D5
    go_wp2_with fail
    go_ret
    rw [DS.out]
    exact ⟨rfl, (ok_crash OKM.out _ _ _).mono (Nat.le_succ _), rfl, D6.out.fin⟩
  · by_cases hT : 0 ≤ x.n ∧ x.n < (s.n : Int) ∧ 0 ≤ x.a ∧ x.a + (x.x.toNat : Int) ≤ 256
    · obtain ⟨n, HN'⟩ : ∃ n : Nat, x.n = (n : Int) := ⟨x.n.toNat, by omega⟩
      obtain ⟨k, HA'⟩ : ∃ k : Nat, x.a = (k : Int) := ⟨x.a.toNat, by omega⟩
      have NL : Hid (n < s.n) := (by show n < s.n; omega)
      have KL : Hid (k + (List.replicate x.x.toNat x.x).length ≤ 256) := (by show _ ≤ 256; rw [List.length_replicate]; have := x.x.isLt; omega)
      have KL2 : Hid (k + x.x.toNat ≤ 256) := (by show k + x.x.toNat ≤ 256; have := x.x.isLt; omega)
      have ds : doSt s x = stTamper s (n * 256 + k) (List.replicate x.x.toNat x.x) := by unfold doSt; rw [if_neg (by omega : ¬ B8 x.k % 8 = 2), if_neg (by omega : ¬ B8 x.k % 8 = 3), if_neg (by omega : ¬ B8 x.k % 8 = 4), if_pos h8, if_neg (by omega : ¬ (x.n < 0 ∨ (s.n : Int) ≤ x.n ∨ x.a < 0 ∨ 256 < x.a ∨ 256 - x.a < (x.x.toNat : Int))), show x.n.toNat = n by omega, show x.a.toNat = k by omega]
      have DS := Lib.hid ds
      clear ds
      have HN := Lib.hid HN'
      have HA := Lib.hid HA'
      clear hT HN' HA'
      go_enter Try.func11, Try.ntmps11
      go_upto_region 1 with fail
      generalize w.alloc (.cells (stepC6 x) 39) = wk at *
      have d0 : wk.cell? ⟨w.heap.size, 0, none⟩ = some (.int .u8 (B8 x.k)) := AX.out.cell' 0 rfl
      have d1 : wk.cell? ⟨w.heap.size, 1, none⟩ = some (.int .i64 (n : Int)) := AX.out.cell' 1 (by rw [← HN.out]; rfl)
      have d2 : wk.cell? ⟨w.heap.size, 2, none⟩ = some (.int .i64 (k : Int)) := AX.out.cell' 2 (by rw [← HA.out]; rfl)
      have d3 : wk.cell? ⟨w.heap.size, 3, none⟩ = some (.int .u8 (B8 x.x)) := AX.out.cell' 3 rfl
      have d4 : wk.cell? ⟨w.heap.size, 4, none⟩ = some (.int .u64 (x.q : Int)) := AX.out.cell' 4 rfl
      go_wp2_with fail
      replace D := Lib.hid (DoI.drew CC.out D.out)
      replace AX := Lib.hid AX.out.drew
      refine wp_region_plan_in (fun w' => At w' w.heap.size (stepC6 x) 39) (.take 0 (.take 1 (.take 3 (.take 4 (.take 5 (.sole 2 (.take 6 (.take 7 .done)))))))) (by kernel_rfl) (by kernel_rfl) (by kernel_rfl) AX.out ?_
      refine plan_field 39 _ 3 w.heap.size 0 ⟨w.heap.size, 3, none⟩ (by rfl) (by rfl) (by rfl) (by first | (with_reducible exact Mem.ev_const _ _) | (with_reducible exact Mem.ev_zero _ _ _) | (with_reducible (apply Eq.trans (Mem.ev_tmp _ _ _)); simp only [List.getD_cons_succ, List.getD_cons_zero] <;> rfl)) (fun wx => by go_simp) ?_
      (simp only [Act.put, List.setIfInBounds_toArray, List.set_cons_zero, List.set_cons_succ])
      refine plan_cell 5 _ _ (.int .u8 (B8 x.x)) _ (by rfl) (by rfl) (by rfl) (by first | (with_reducible exact Mem.ev_const _ _) | (with_reducible exact Mem.ev_zero _ _ _) | (with_reducible (apply Eq.trans (Mem.ev_tmp _ _ _)); simp only [List.getD_cons_succ, List.getD_cons_zero] <;> rfl)) (fun w' hw' => hw'.cell' 3 rfl) Try.underlying5 (by rfl) ?_
      (simp only [Act.put, List.setIfInBounds_toArray, List.set_cons_zero, List.set_cons_succ])
      refine plan_field 39 _ 3 w.heap.size 0 ⟨w.heap.size, 3, none⟩ (by rfl) (by rfl) (by rfl) (by first | (with_reducible exact Mem.ev_const _ _) | (with_reducible exact Mem.ev_zero _ _ _) | (with_reducible (apply Eq.trans (Mem.ev_tmp _ _ _)); simp only [List.getD_cons_succ, List.getD_cons_zero] <;> rfl)) (fun wx => by go_simp) ?_
      (simp only [Act.put, List.setIfInBounds_toArray, List.set_cons_zero, List.set_cons_succ])
      refine plan_cell 5 _ _ (.int .u8 (B8 x.x)) _ (by rfl) (by rfl) (by rfl) (by first | (with_reducible exact Mem.ev_const _ _) | (with_reducible exact Mem.ev_zero _ _ _) | (with_reducible (apply Eq.trans (Mem.ev_tmp _ _ _)); simp only [List.getD_cons_succ, List.getD_cons_zero] <;> rfl)) (fun w' hw' => hw'.cell' 3 rfl) Try.underlying5 (by rfl) ?_
      (simp only [Act.put, List.setIfInBounds_toArray, List.set_cons_zero, List.set_cons_succ])
      refine plan_conv _ _ _ _ (.int .i64 ((x.x.toNat : Nat) : Int)) (by rfl) (by rfl) (by rfl) (by first | (with_reducible exact Mem.ev_const _ _) | (with_reducible exact Mem.ev_zero _ _ _) | (with_reducible (apply Eq.trans (Mem.ev_tmp _ _ _)); simp only [List.getD_cons_succ, List.getD_cons_zero] <;> rfl)) (fun wx => conv_bi x.x wx) ?_
      (simp only [Act.put, List.setIfInBounds_toArray, List.set_cons_zero, List.set_cons_succ])
      refine plan_call 21 _ _ _ (by kernel_rfl) (by rfl) (by rfl) (by rfl) (by first | exact Mem.ev_none _ | (simp only [List.map_toArray, List.map_cons, List.map_nil, Mem.ev_tmp, List.getD_cons_succ, List.getD_cons_zero] <;> rfl)) ?_
      refine (block_any x.x _).mono ?_
      rintro e w4 ⟨g, rfl, ha, hg, hb⟩
      have D4 := Lib.hid (D.out.add CC.out hb (fun k => k = w.heap.size ∨ k = g) (fun k hk => hk.imp id (fun h => by subst h; exact ⟨hg, ha.lt⟩)))
      have AX4 := Lib.hid (AX.out.below hb AX.out.lt)
      have G4 := Lib.hid ha
      rw [List.length_replicate]
      clear ha hg hb
      clear D
      refine ⟨_, rfl, AX4.out, ?_⟩
      (simp only [Act.put, List.setIfInBounds_toArray, List.set_cons_zero, List.set_cons_succ])
      refine plan_piece_to 27 _ _ (by rfl) (by rfl) (by rfl) Try.underlying27 (some ⟨g, 0, none⟩) 256 256 x.x.toNat (by first | (with_reducible exact Mem.ev_const _ _) | (with_reducible exact Mem.ev_zero _ _ _) | (with_reducible (apply Eq.trans (Mem.ev_tmp _ _ _)); simp only [List.getD_cons_succ, List.getD_cons_zero] <;> rfl)) (by first | (with_reducible exact Mem.ev_const _ _) | (with_reducible exact Mem.ev_zero _ _ _) | (with_reducible (apply Eq.trans (Mem.ev_tmp _ _ _)); simp only [List.getD_cons_succ, List.getD_cons_zero] <;> rfl)) (by have := x.x.isLt; omega) (by decide) ?_
      (simp only [Act.put, List.setIfInBounds_toArray, List.set_cons_zero, List.set_cons_succ])
      (first | (refine plan_move _ _ (by rfl) (by rfl) (.inl (by rfl)) (by first | (with_reducible exact Mem.ev_const _ _) | (with_reducible exact Mem.ev_zero _ _ _) | (with_reducible (apply Eq.trans (Mem.ev_tmp _ _ _)); simp only [List.getD_cons_succ, List.getD_cons_zero] <;> rfl)) ?_) | (refine plan_move _ _ (by rfl) (by rfl) (.inr (by rfl)) (by first | (with_reducible exact Mem.ev_const _ _) | (with_reducible exact Mem.ev_zero _ _ _) | (with_reducible (apply Eq.trans (Mem.ev_tmp _ _ _)); simp only [List.getD_cons_succ, List.getD_cons_zero] <;> rfl)) ?_) | (refine plan_pick_t _ _ _ _ (by rfl) (by rfl) (by rfl) (by first | (with_reducible exact Mem.ev_const _ _) | (with_reducible exact Mem.ev_zero _ _ _) | (with_reducible (apply Eq.trans (Mem.ev_tmp _ _ _)); simp only [List.getD_cons_succ, List.getD_cons_zero] <;> rfl)) (by first | (with_reducible exact Mem.ev_const _ _) | (with_reducible exact Mem.ev_zero _ _ _) | (with_reducible (apply Eq.trans (Mem.ev_tmp _ _ _)); simp only [List.getD_cons_succ, List.getD_cons_zero] <;> rfl)) ?_) | (refine plan_pick_f _ _ _ _ (by rfl) (by rfl) (by rfl) (by first | (with_reducible exact Mem.ev_const _ _) | (with_reducible exact Mem.ev_zero _ _ _) | (with_reducible (apply Eq.trans (Mem.ev_tmp _ _ _)); simp only [List.getD_cons_succ, List.getD_cons_zero] <;> rfl)) (by first | (with_reducible exact Mem.ev_const _ _) | (with_reducible exact Mem.ev_zero _ _ _) | (with_reducible (apply Eq.trans (Mem.ev_tmp _ _ _)); simp only [List.getD_cons_succ, List.getD_cons_zero] <;> rfl)) ?_))
      (simp only [Act.put, List.setIfInBounds_toArray, List.set_cons_zero, List.set_cons_succ])
      refine plan_nil ?_
      have D := Lib.hid (DoI.drew CC.out D4.out)
      have AX := Lib.hid AX4.out.drew
      have SX : Hid (SlB (fun k => k = w.heap.size ∨ k = g) w4.drew (.slice (pieceA (some ⟨g, 0, none⟩) 256 0) x.x.toNat 256) (List.replicate x.x.toNat x.x)) := block_part G4.out x.x.toNat (by have := x.x.isLt; omega)
      clear D4 AX4 G4 d0 d1 d2 d3 d4
      go_wp2_with fail
      refine wp_region_plan_in (fun w' => At w' w.heap.size (stepC6 x) 39) (.take 0 (.take 1 (.take 2 (.take 3 (.take 4 (.take 5 (.take 7 (.take 8 (.take 9 (.take 10 (.take 11 (.take 12 (.sole 6 (.sole 13 (.take 14 (.take 15 .done)))))))))))))))) (by kernel_rfl) (by kernel_rfl) (by kernel_rfl) AX.out.drew ?_
      (first | (refine plan_move _ _ (by rfl) (by rfl) (.inl (by rfl)) (by first | (with_reducible exact Mem.ev_const _ _) | (with_reducible exact Mem.ev_zero _ _ _) | (with_reducible (apply Eq.trans (Mem.ev_tmp _ _ _)); simp only [List.getD_cons_succ, List.getD_cons_zero] <;> rfl)) ?_) | (refine plan_move _ _ (by rfl) (by rfl) (.inr (by rfl)) (by first | (with_reducible exact Mem.ev_const _ _) | (with_reducible exact Mem.ev_zero _ _ _) | (with_reducible (apply Eq.trans (Mem.ev_tmp _ _ _)); simp only [List.getD_cons_succ, List.getD_cons_zero] <;> rfl)) ?_) | (refine plan_pick_t _ _ _ _ (by rfl) (by rfl) (by rfl) (by first | (with_reducible exact Mem.ev_const _ _) | (with_reducible exact Mem.ev_zero _ _ _) | (with_reducible (apply Eq.trans (Mem.ev_tmp _ _ _)); simp only [List.getD_cons_succ, List.getD_cons_zero] <;> rfl)) (by first | (with_reducible exact Mem.ev_const _ _) | (with_reducible exact Mem.ev_zero _ _ _) | (with_reducible (apply Eq.trans (Mem.ev_tmp _ _ _)); simp only [List.getD_cons_succ, List.getD_cons_zero] <;> rfl)) ?_) | (refine plan_pick_f _ _ _ _ (by rfl) (by rfl) (by rfl) (by first | (with_reducible exact Mem.ev_const _ _) | (with_reducible exact Mem.ev_zero _ _ _) | (with_reducible (apply Eq.trans (Mem.ev_tmp _ _ _)); simp only [List.getD_cons_succ, List.getD_cons_zero] <;> rfl)) (by first | (with_reducible exact Mem.ev_const _ _) | (with_reducible exact Mem.ev_zero _ _ _) | (with_reducible (apply Eq.trans (Mem.ev_tmp _ _ _)); simp only [List.getD_cons_succ, List.getD_cons_zero] <;> rfl)) ?_))
      (simp only [Act.put, List.setIfInBounds_toArray, List.set_cons_zero, List.set_cons_succ])
      refine plan_field 39 _ 1 w.heap.size 0 ⟨w.heap.size, 1, none⟩ (by rfl) (by rfl) (by rfl) (by first | (with_reducible exact Mem.ev_const _ _) | (with_reducible exact Mem.ev_zero _ _ _) | (with_reducible (apply Eq.trans (Mem.ev_tmp _ _ _)); simp only [List.getD_cons_succ, List.getD_cons_zero] <;> rfl)) (fun wx => by go_simp) ?_
      (simp only [Act.put, List.setIfInBounds_toArray, List.set_cons_zero, List.set_cons_succ])
      refine plan_cell 3 _ _ (.int .i64 (n : Int)) _ (by rfl) (by rfl) (by rfl) (by first | (with_reducible exact Mem.ev_const _ _) | (with_reducible exact Mem.ev_zero _ _ _) | (with_reducible (apply Eq.trans (Mem.ev_tmp _ _ _)); simp only [List.getD_cons_succ, List.getD_cons_zero] <;> rfl)) (fun w' hw' => hw'.cell' 1 (by rw [← HN.out]; rfl)) Try.underlying3 (by rfl) ?_
      (simp only [Act.put, List.setIfInBounds_toArray, List.set_cons_zero, List.set_cons_succ])
      refine plan_field 39 _ 2 w.heap.size 0 ⟨w.heap.size, 2, none⟩ (by rfl) (by rfl) (by rfl) (by first | (with_reducible exact Mem.ev_const _ _) | (with_reducible exact Mem.ev_zero _ _ _) | (with_reducible (apply Eq.trans (Mem.ev_tmp _ _ _)); simp only [List.getD_cons_succ, List.getD_cons_zero] <;> rfl)) (fun wx => by go_simp) ?_
      (simp only [Act.put, List.setIfInBounds_toArray, List.set_cons_zero, List.set_cons_succ])
      refine plan_cell 3 _ _ (.int .i64 (k : Int)) _ (by rfl) (by rfl) (by rfl) (by first | (with_reducible exact Mem.ev_const _ _) | (with_reducible exact Mem.ev_zero _ _ _) | (with_reducible (apply Eq.trans (Mem.ev_tmp _ _ _)); simp only [List.getD_cons_succ, List.getD_cons_zero] <;> rfl)) (fun w' hw' => hw'.cell' 2 (by rw [← HA.out]; rfl)) Try.underlying3 (by rfl) ?_
      (simp only [Act.put, List.setIfInBounds_toArray, List.set_cons_zero, List.set_cons_succ])
      (first | (refine plan_move _ _ (by rfl) (by rfl) (.inl (by rfl)) (by first | (with_reducible exact Mem.ev_const _ _) | (with_reducible exact Mem.ev_zero _ _ _) | (with_reducible (apply Eq.trans (Mem.ev_tmp _ _ _)); simp only [List.getD_cons_succ, List.getD_cons_zero] <;> rfl)) ?_) | (refine plan_move _ _ (by rfl) (by rfl) (.inr (by rfl)) (by first | (with_reducible exact Mem.ev_const _ _) | (with_reducible exact Mem.ev_zero _ _ _) | (with_reducible (apply Eq.trans (Mem.ev_tmp _ _ _)); simp only [List.getD_cons_succ, List.getD_cons_zero] <;> rfl)) ?_) | (refine plan_pick_t _ _ _ _ (by rfl) (by rfl) (by rfl) (by first | (with_reducible exact Mem.ev_const _ _) | (with_reducible exact Mem.ev_zero _ _ _) | (with_reducible (apply Eq.trans (Mem.ev_tmp _ _ _)); simp only [List.getD_cons_succ, List.getD_cons_zero] <;> rfl)) (by first | (with_reducible exact Mem.ev_const _ _) | (with_reducible exact Mem.ev_zero _ _ _) | (with_reducible (apply Eq.trans (Mem.ev_tmp _ _ _)); simp only [List.getD_cons_succ, List.getD_cons_zero] <;> rfl)) ?_) | (refine plan_pick_f _ _ _ _ (by rfl) (by rfl) (by rfl) (by first | (with_reducible exact Mem.ev_const _ _) | (with_reducible exact Mem.ev_zero _ _ _) | (with_reducible (apply Eq.trans (Mem.ev_tmp _ _ _)); simp only [List.getD_cons_succ, List.getD_cons_zero] <;> rfl)) (by first | (with_reducible exact Mem.ev_const _ _) | (with_reducible exact Mem.ev_zero _ _ _) | (with_reducible (apply Eq.trans (Mem.ev_tmp _ _ _)); simp only [List.getD_cons_succ, List.getD_cons_zero] <;> rfl)) ?_))
      (simp only [Act.put, List.setIfInBounds_toArray, List.set_cons_zero, List.set_cons_succ])
      (first | (refine plan_move _ _ (by rfl) (by rfl) (.inl (by rfl)) (by first | (with_reducible exact Mem.ev_const _ _) | (with_reducible exact Mem.ev_zero _ _ _) | (with_reducible (apply Eq.trans (Mem.ev_tmp _ _ _)); simp only [List.getD_cons_succ, List.getD_cons_zero] <;> rfl)) ?_) | (refine plan_move _ _ (by rfl) (by rfl) (.inr (by rfl)) (by first | (with_reducible exact Mem.ev_const _ _) | (with_reducible exact Mem.ev_zero _ _ _) | (with_reducible (apply Eq.trans (Mem.ev_tmp _ _ _)); simp only [List.getD_cons_succ, List.getD_cons_zero] <;> rfl)) ?_) | (refine plan_pick_t _ _ _ _ (by rfl) (by rfl) (by rfl) (by first | (with_reducible exact Mem.ev_const _ _) | (with_reducible exact Mem.ev_zero _ _ _) | (with_reducible (apply Eq.trans (Mem.ev_tmp _ _ _)); simp only [List.getD_cons_succ, List.getD_cons_zero] <;> rfl)) (by first | (with_reducible exact Mem.ev_const _ _) | (with_reducible exact Mem.ev_zero _ _ _) | (with_reducible (apply Eq.trans (Mem.ev_tmp _ _ _)); simp only [List.getD_cons_succ, List.getD_cons_zero] <;> rfl)) ?_) | (refine plan_pick_f _ _ _ _ (by rfl) (by rfl) (by rfl) (by first | (with_reducible exact Mem.ev_const _ _) | (with_reducible exact Mem.ev_zero _ _ _) | (with_reducible (apply Eq.trans (Mem.ev_tmp _ _ _)); simp only [List.getD_cons_succ, List.getD_cons_zero] <;> rfl)) (by first | (with_reducible exact Mem.ev_const _ _) | (with_reducible exact Mem.ev_zero _ _ _) | (with_reducible (apply Eq.trans (Mem.ev_tmp _ _ _)); simp only [List.getD_cons_succ, List.getD_cons_zero] <;> rfl)) ?_))
      (simp only [Act.put, List.setIfInBounds_toArray, List.set_cons_zero, List.set_cons_succ])
      refine plan_field 39 _ 1 w.heap.size 0 ⟨w.heap.size, 1, none⟩ (by rfl) (by rfl) (by rfl) (by first | (with_reducible exact Mem.ev_const _ _) | (with_reducible exact Mem.ev_zero _ _ _) | (with_reducible (apply Eq.trans (Mem.ev_tmp _ _ _)); simp only [List.getD_cons_succ, List.getD_cons_zero] <;> rfl)) (fun wx => by go_simp) ?_
      (simp only [Act.put, List.setIfInBounds_toArray, List.set_cons_zero, List.set_cons_succ])
      refine plan_cell 3 _ _ (.int .i64 (n : Int)) _ (by rfl) (by rfl) (by rfl) (by first | (with_reducible exact Mem.ev_const _ _) | (with_reducible exact Mem.ev_zero _ _ _) | (with_reducible (apply Eq.trans (Mem.ev_tmp _ _ _)); simp only [List.getD_cons_succ, List.getD_cons_zero] <;> rfl)) (fun w' hw' => hw'.cell' 1 (by rw [← HN.out]; rfl)) Try.underlying3 (by rfl) ?_
      (simp only [Act.put, List.setIfInBounds_toArray, List.set_cons_zero, List.set_cons_succ])
      refine plan_field 39 _ 2 w.heap.size 0 ⟨w.heap.size, 2, none⟩ (by rfl) (by rfl) (by rfl) (by first | (with_reducible exact Mem.ev_const _ _) | (with_reducible exact Mem.ev_zero _ _ _) | (with_reducible (apply Eq.trans (Mem.ev_tmp _ _ _)); simp only [List.getD_cons_succ, List.getD_cons_zero] <;> rfl)) (fun wx => by go_simp) ?_
      (simp only [Act.put, List.setIfInBounds_toArray, List.set_cons_zero, List.set_cons_succ])
      refine plan_cell 3 _ _ (.int .i64 (k : Int)) _ (by rfl) (by rfl) (by rfl) (by first | (with_reducible exact Mem.ev_const _ _) | (with_reducible exact Mem.ev_zero _ _ _) | (with_reducible (apply Eq.trans (Mem.ev_tmp _ _ _)); simp only [List.getD_cons_succ, List.getD_cons_zero] <;> rfl)) (fun w' hw' => hw'.cell' 2 (by rw [← HA.out]; rfl)) Try.underlying3 (by rfl) ?_
      (simp only [Act.put, List.setIfInBounds_toArray, List.set_cons_zero, List.set_cons_succ])
      (first | (refine plan_move _ _ (by rfl) (by rfl) (.inl (by rfl)) (by first | (with_reducible exact Mem.ev_const _ _) | (with_reducible exact Mem.ev_zero _ _ _) | (with_reducible (apply Eq.trans (Mem.ev_tmp _ _ _)); simp only [List.getD_cons_succ, List.getD_cons_zero] <;> rfl)) ?_) | (refine plan_move _ _ (by rfl) (by rfl) (.inr (by rfl)) (by first | (with_reducible exact Mem.ev_const _ _) | (with_reducible exact Mem.ev_zero _ _ _) | (with_reducible (apply Eq.trans (Mem.ev_tmp _ _ _)); simp only [List.getD_cons_succ, List.getD_cons_zero] <;> rfl)) ?_) | (refine plan_pick_t _ _ _ _ (by rfl) (by rfl) (by rfl) (by first | (with_reducible exact Mem.ev_const _ _) | (with_reducible exact Mem.ev_zero _ _ _) | (with_reducible (apply Eq.trans (Mem.ev_tmp _ _ _)); simp only [List.getD_cons_succ, List.getD_cons_zero] <;> rfl)) (by first | (with_reducible exact Mem.ev_const _ _) | (with_reducible exact Mem.ev_zero _ _ _) | (with_reducible (apply Eq.trans (Mem.ev_tmp _ _ _)); simp only [List.getD_cons_succ, List.getD_cons_zero] <;> rfl)) ?_) | (refine plan_pick_f _ _ _ _ (by rfl) (by rfl) (by rfl) (by first | (with_reducible exact Mem.ev_const _ _) | (with_reducible exact Mem.ev_zero _ _ _) | (with_reducible (apply Eq.trans (Mem.ev_tmp _ _ _)); simp only [List.getD_cons_succ, List.getD_cons_zero] <;> rfl)) (by first | (with_reducible exact Mem.ev_const _ _) | (with_reducible exact Mem.ev_zero _ _ _) | (with_reducible (apply Eq.trans (Mem.ev_tmp _ _ _)); simp only [List.getD_cons_succ, List.getD_cons_zero] <;> rfl)) ?_))
      (simp only [Act.put, List.setIfInBounds_toArray, List.set_cons_zero, List.set_cons_succ])
      refine plan_call 24 _ _ _ (by kernel_rfl) (by rfl) (by rfl) (by rfl) (by first | exact Mem.ev_none _ | (simp only [List.map_toArray, List.map_cons, List.map_nil, Mem.ev_tmp, List.getD_cons_succ, List.getD_cons_zero] <;> rfl)) ?_
      refine (DoI.first CC.out D.out (fun F h => CC.out.tamper n k _ _ _ h OK.out SX.out.sl NL.out KL.out)).mono ?_
      rintro e w5 ⟨rfl, hd, hk⟩
      have D5 := Lib.hid hd
      have AX5 := Lib.hid (AX.out.kept hk (by first | exact rfl | exact .inl rfl))
      have SX5 := Lib.hid (SX.out.kept hk)
      clear hd hk D
      refine ⟨_, rfl, AX5.out, ?_⟩
      (simp only [Act.put, List.setIfInBounds_toArray, List.set_cons_zero, List.set_cons_succ])
      refine plan_call 30 _ _ _ (by kernel_rfl) (by rfl) (by rfl) (by rfl) (by first | exact Mem.ev_none _ | (simp only [List.map_toArray, List.map_cons, List.map_nil, Mem.ev_tmp, List.getD_cons_succ, List.getD_cons_zero] <;> rfl)) ?_
      refine (DoI.second CC.out D5.out (fun G h => rtamper_good n k _ _ _ h SX5.out.sl OK.out.n2 NL.out OK.out.b KL.out)).mono ?_
      rintro e w6 ⟨rfl, hd, hk⟩
      have D6 := Lib.hid hd
      have AX6 := Lib.hid (AX5.out.kept hk (by first | exact rfl | exact .inl rfl))
      clear hd hk D5
      refine ⟨_, rfl, AX6.out, ?_⟩
      (simp only [Act.put, List.setIfInBounds_toArray, List.set_cons_zero, List.set_cons_succ])
      refine plan_bin _ _ _ _ _ _ _ _ (by rfl) (by rfl) (by rfl) (by first | (with_reducible exact Mem.ev_const _ _) | (with_reducible exact Mem.ev_zero _ _ _) | (with_reducible (apply Eq.trans (Mem.ev_tmp _ _ _)); simp only [List.getD_cons_succ, List.getD_cons_zero] <;> rfl)) (by first | (with_reducible exact Mem.ev_const _ _) | (with_reducible exact Mem.ev_zero _ _ _) | (with_reducible (apply Eq.trans (Mem.ev_tmp _ _ _)); simp only [List.getD_cons_succ, List.getD_cons_zero] <;> rfl)) (fun wx => (by go_simp : (do eqGuard .eql 3 _ _ (.int .i64 0) (.int .i64 0); Go.binOp .eql 3 (.int .i64 0) (.int .i64 0) : Sem Value).run Try.prog wx = .ok (.bool true) wx)) ?_
      (simp only [Act.put, List.setIfInBounds_toArray, List.set_cons_zero, List.set_cons_succ])
      (first | (refine plan_move _ _ (by rfl) (by rfl) (.inl (by rfl)) (by first | (with_reducible exact Mem.ev_const _ _) | (with_reducible exact Mem.ev_zero _ _ _) | (with_reducible (apply Eq.trans (Mem.ev_tmp _ _ _)); simp only [List.getD_cons_succ, List.getD_cons_zero] <;> rfl)) ?_) | (refine plan_move _ _ (by rfl) (by rfl) (.inr (by rfl)) (by first | (with_reducible exact Mem.ev_const _ _) | (with_reducible exact Mem.ev_zero _ _ _) | (with_reducible (apply Eq.trans (Mem.ev_tmp _ _ _)); simp only [List.getD_cons_succ, List.getD_cons_zero] <;> rfl)) ?_) | (refine plan_pick_t _ _ _ _ (by rfl) (by rfl) (by rfl) (by first | (with_reducible exact Mem.ev_const _ _) | (with_reducible exact Mem.ev_zero _ _ _) | (with_reducible (apply Eq.trans (Mem.ev_tmp _ _ _)); simp only [List.getD_cons_succ, List.getD_cons_zero] <;> rfl)) (by first | (with_reducible exact Mem.ev_const _ _) | (with_reducible exact Mem.ev_zero _ _ _) | (with_reducible (apply Eq.trans (Mem.ev_tmp _ _ _)); simp only [List.getD_cons_succ, List.getD_cons_zero] <;> rfl)) ?_) | (refine plan_pick_f _ _ _ _ (by rfl) (by rfl) (by rfl) (by first | (with_reducible exact Mem.ev_const _ _) | (with_reducible exact Mem.ev_zero _ _ _) | (with_reducible (apply Eq.trans (Mem.ev_tmp _ _ _)); simp only [List.getD_cons_succ, List.getD_cons_zero] <;> rfl)) (by first | (with_reducible exact Mem.ev_const _ _) | (with_reducible exact Mem.ev_zero _ _ _) | (with_reducible (apply Eq.trans (Mem.ev_tmp _ _ _)); simp only [List.getD_cons_succ, List.getD_cons_zero] <;> rfl)) ?_))
      (simp only [Act.put, List.setIfInBounds_toArray, List.set_cons_zero, List.set_cons_succ])
      refine plan_nil ?_
      go_wp2_with fail
      go_ret
      rw [DS.out]
      exact ⟨rfl, (ok_tamper OKM.out n k _ NL.out KL.out).mono (Nat.le_succ _), rfl, D6.out.fin⟩
    · have ds : doSt s x = s := by unfold doSt; rw [if_neg (by omega : ¬ B8 x.k % 8 = 2), if_neg (by omega : ¬ B8 x.k % 8 = 3), if_neg (by omega : ¬ B8 x.k % 8 = 4), if_pos h8, if_pos (by omega : x.n < 0 ∨ (s.n : Int) ≤ x.n ∨ x.a < 0 ∨ 256 < x.a ∨ 256 - x.a < (x.x.toNat : Int))]
      have DS := Lib.hid ds
      clear ds
      have BAD : Hid (x.n < 0 ∨ (s.n : Int) ≤ x.n ∨ x.a < 0 ∨ 256 < x.a ∨ 256 - x.a < ((List.replicate x.x.toNat x.x).length : Int)) := (by show _ ∨ _ ∨ _ ∨ _ ∨ _; rw [List.length_replicate]; omega)
      clear hT
      go_enter Try.func11, Try.ntmps11
      go_upto_region 1 with fail
      generalize w.alloc (.cells (stepC6 x) 39) = wk at *
      have d0 : wk.cell? ⟨w.heap.size, 0, none⟩ = some (.int .u8 (B8 x.k)) := AX.out.cell' 0 rfl
      have d1 : wk.cell? ⟨w.heap.size, 1, none⟩ = some (.int .i64 x.n) := AX.out.cell' 1 rfl
      have d2 : wk.cell? ⟨w.heap.size, 2, none⟩ = some (.int .i64 x.a) := AX.out.cell' 2 rfl
      have d3 : wk.cell? ⟨w.heap.size, 3, none⟩ = some (.int .u8 (B8 x.x)) := AX.out.cell' 3 rfl
      have d4 : wk.cell? ⟨w.heap.size, 4, none⟩ = some (.int .u64 (x.q : Int)) := AX.out.cell' 4 rfl
      go_wp2_with fail
      replace D := Lib.hid (DoI.drew CC.out D.out)
      replace AX := Lib.hid AX.out.drew
      refine wp_region_plan_in (fun w' => At w' w.heap.size (stepC6 x) 39) (.take 0 (.take 1 (.take 3 (.take 4 (.take 5 (.sole 2 (.take 6 (.take 7 .done)))))))) (by kernel_rfl) (by kernel_rfl) (by kernel_rfl) AX.out ?_
      refine plan_field 39 _ 3 w.heap.size 0 ⟨w.heap.size, 3, none⟩ (by rfl) (by rfl) (by rfl) (by first | (with_reducible exact Mem.ev_const _ _) | (with_reducible exact Mem.ev_zero _ _ _) | (with_reducible (apply Eq.trans (Mem.ev_tmp _ _ _)); simp only [List.getD_cons_succ, List.getD_cons_zero] <;> rfl)) (fun wx => by go_simp) ?_
      (simp only [Act.put, List.setIfInBounds_toArray, List.set_cons_zero, List.set_cons_succ])
      refine plan_cell 5 _ _ (.int .u8 (B8 x.x)) _ (by rfl) (by rfl) (by rfl) (by first | (with_reducible exact Mem.ev_const _ _) | (with_reducible exact Mem.ev_zero _ _ _) | (with_reducible (apply Eq.trans (Mem.ev_tmp _ _ _)); simp only [List.getD_cons_succ, List.getD_cons_zero] <;> rfl)) (fun w' hw' => hw'.cell' 3 rfl) Try.underlying5 (by rfl) ?_
      (simp only [Act.put, List.setIfInBounds_toArray, List.set_cons_zero, List.set_cons_succ])
      refine plan_field 39 _ 3 w.heap.size 0 ⟨w.heap.size, 3, none⟩ (by rfl) (by rfl) (by rfl) (by first | (with_reducible exact Mem.ev_const _ _) | (with_reducible exact Mem.ev_zero _ _ _) | (with_reducible (apply Eq.trans (Mem.ev_tmp _ _ _)); simp only [List.getD_cons_succ, List.getD_cons_zero] <;> rfl)) (fun wx => by go_simp) ?_
      (simp only [Act.put, List.setIfInBounds_toArray, List.set_cons_zero, List.set_cons_succ])
      refine plan_cell 5 _ _ (.int .u8 (B8 x.x)) _ (by rfl) (by rfl) (by rfl) (by first | (with_reducible exact Mem.ev_const _ _) | (with_reducible exact Mem.ev_zero _ _ _) | (with_reducible (apply Eq.trans (Mem.ev_tmp _ _ _)); simp only [List.getD_cons_succ, List.getD_cons_zero] <;> rfl)) (fun w' hw' => hw'.cell' 3 rfl) Try.underlying5 (by rfl) ?_
      (simp only [Act.put, List.setIfInBounds_toArray, List.set_cons_zero, List.set_cons_succ])
      refine plan_conv _ _ _ _ (.int .i64 ((x.x.toNat : Nat) : Int)) (by rfl) (by rfl) (by rfl) (by first | (with_reducible exact Mem.ev_const _ _) | (with_reducible exact Mem.ev_zero _ _ _) | (with_reducible (apply Eq.trans (Mem.ev_tmp _ _ _)); simp only [List.getD_cons_succ, List.getD_cons_zero] <;> rfl)) (fun wx => conv_bi x.x wx) ?_
      (simp only [Act.put, List.setIfInBounds_toArray, List.set_cons_zero, List.set_cons_succ])
      refine plan_call 21 _ _ _ (by kernel_rfl) (by rfl) (by rfl) (by rfl) (by first | exact Mem.ev_none _ | (simp only [List.map_toArray, List.map_cons, List.map_nil, Mem.ev_tmp, List.getD_cons_succ, List.getD_cons_zero] <;> rfl)) ?_
      refine (block_any x.x _).mono ?_
      rintro e w4 ⟨g, rfl, ha, hg, hb⟩
      have D4 := Lib.hid (D.out.add CC.out hb (fun k => k = w.heap.size ∨ k = g) (fun k hk => hk.imp id (fun h => by subst h; exact ⟨hg, ha.lt⟩)))
      have AX4 := Lib.hid (AX.out.below hb AX.out.lt)
      have G4 := Lib.hid ha
      rw [List.length_replicate]
      clear ha hg hb
      clear D
      refine ⟨_, rfl, AX4.out, ?_⟩
      (simp only [Act.put, List.setIfInBounds_toArray, List.set_cons_zero, List.set_cons_succ])
      refine plan_piece_to 27 _ _ (by rfl) (by rfl) (by rfl) Try.underlying27 (some ⟨g, 0, none⟩) 256 256 x.x.toNat (by first | (with_reducible exact Mem.ev_const _ _) | (with_reducible exact Mem.ev_zero _ _ _) | (with_reducible (apply Eq.trans (Mem.ev_tmp _ _ _)); simp only [List.getD_cons_succ, List.getD_cons_zero] <;> rfl)) (by first | (with_reducible exact Mem.ev_const _ _) | (with_reducible exact Mem.ev_zero _ _ _) | (with_reducible (apply Eq.trans (Mem.ev_tmp _ _ _)); simp only [List.getD_cons_succ, List.getD_cons_zero] <;> rfl)) (by have := x.x.isLt; omega) (by decide) ?_
      (simp only [Act.put, List.setIfInBounds_toArray, List.set_cons_zero, List.set_cons_succ])
      (first | (refine plan_move _ _ (by rfl) (by rfl) (.inl (by rfl)) (by first | (with_reducible exact Mem.ev_const _ _) | (with_reducible exact Mem.ev_zero _ _ _) | (with_reducible (apply Eq.trans (Mem.ev_tmp _ _ _)); simp only [List.getD_cons_succ, List.getD_cons_zero] <;> rfl)) ?_) | (refine plan_move _ _ (by rfl) (by rfl) (.inr (by rfl)) (by first | (with_reducible exact Mem.ev_const _ _) | (with_reducible exact Mem.ev_zero _ _ _) | (with_reducible (apply Eq.trans (Mem.ev_tmp _ _ _)); simp only [List.getD_cons_succ, List.getD_cons_zero] <;> rfl)) ?_) | (refine plan_pick_t _ _ _ _ (by rfl) (by rfl) (by rfl) (by first | (with_reducible exact Mem.ev_const _ _) | (with_reducible exact Mem.ev_zero _ _ _) | (with_reducible (apply Eq.trans (Mem.ev_tmp _ _ _)); simp only [List.getD_cons_succ, List.getD_cons_zero] <;> rfl)) (by first | (with_reducible exact Mem.ev_const _ _) | (with_reducible exact Mem.ev_zero _ _ _) | (with_reducible (apply Eq.trans (Mem.ev_tmp _ _ _)); simp only [List.getD_cons_succ, List.getD_cons_zero] <;> rfl)) ?_) | (refine plan_pick_f _ _ _ _ (by rfl) (by rfl) (by rfl) (by first | (with_reducible exact Mem.ev_const _ _) | (with_reducible exact Mem.ev_zero _ _ _) | (with_reducible (apply Eq.trans (Mem.ev_tmp _ _ _)); simp only [List.getD_cons_succ, List.getD_cons_zero] <;> rfl)) (by first | (with_reducible exact Mem.ev_const _ _) | (with_reducible exact Mem.ev_zero _ _ _) | (with_reducible (apply Eq.trans (Mem.ev_tmp _ _ _)); simp only [List.getD_cons_succ, List.getD_cons_zero] <;> rfl)) ?_))
      (simp only [Act.put, List.setIfInBounds_toArray, List.set_cons_zero, List.set_cons_succ])
      refine plan_nil ?_
      have D := Lib.hid (DoI.drew CC.out D4.out)
      have AX := Lib.hid AX4.out.drew
      have SX : Hid (SlB (fun k => k = w.heap.size ∨ k = g) w4.drew (.slice (pieceA (some ⟨g, 0, none⟩) 256 0) x.x.toNat 256) (List.replicate x.x.toNat x.x)) := block_part G4.out x.x.toNat (by have := x.x.isLt; omega)
      clear D4 AX4 G4 d0 d1 d2 d3 d4
      go_wp2_with fail
      refine wp_region_plan_in (fun w' => At w' w.heap.size (stepC6 x) 39) (.take 0 (.take 1 (.take 2 (.take 3 (.take 4 (.take 5 (.take 7 (.take 8 (.take 9 (.take 10 (.take 11 (.take 12 (.sole 6 (.sole 13 (.take 14 (.take 15 .done)))))))))))))))) (by kernel_rfl) (by kernel_rfl) (by kernel_rfl) AX.out.drew ?_
      (first | (refine plan_move _ _ (by rfl) (by rfl) (.inl (by rfl)) (by first | (with_reducible exact Mem.ev_const _ _) | (with_reducible exact Mem.ev_zero _ _ _) | (with_reducible (apply Eq.trans (Mem.ev_tmp _ _ _)); simp only [List.getD_cons_succ, List.getD_cons_zero] <;> rfl)) ?_) | (refine plan_move _ _ (by rfl) (by rfl) (.inr (by rfl)) (by first | (with_reducible exact Mem.ev_const _ _) | (with_reducible exact Mem.ev_zero _ _ _) | (with_reducible (apply Eq.trans (Mem.ev_tmp _ _ _)); simp only [List.getD_cons_succ, List.getD_cons_zero] <;> rfl)) ?_) | (refine plan_pick_t _ _ _ _ (by rfl) (by rfl) (by rfl) (by first | (with_reducible exact Mem.ev_const _ _) | (with_reducible exact Mem.ev_zero _ _ _) | (with_reducible (apply Eq.trans (Mem.ev_tmp _ _ _)); simp only [List.getD_cons_succ, List.getD_cons_zero] <;> rfl)) (by first | (with_reducible exact Mem.ev_const _ _) | (with_reducible exact Mem.ev_zero _ _ _) | (with_reducible (apply Eq.trans (Mem.ev_tmp _ _ _)); simp only [List.getD_cons_succ, List.getD_cons_zero] <;> rfl)) ?_) | (refine plan_pick_f _ _ _ _ (by rfl) (by rfl) (by rfl) (by first | (with_reducible exact Mem.ev_const _ _) | (with_reducible exact Mem.ev_zero _ _ _) | (with_reducible (apply Eq.trans (Mem.ev_tmp _ _ _)); simp only [List.getD_cons_succ, List.getD_cons_zero] <;> rfl)) (by first | (with_reducible exact Mem.ev_const _ _) | (with_reducible exact Mem.ev_zero _ _ _) | (with_reducible (apply Eq.trans (Mem.ev_tmp _ _ _)); simp only [List.getD_cons_succ, List.getD_cons_zero] <;> rfl)) ?_))
      (simp only [Act.put, List.setIfInBounds_toArray, List.set_cons_zero, List.set_cons_succ])
      refine plan_field 39 _ 1 w.heap.size 0 ⟨w.heap.size, 1, none⟩ (by rfl) (by rfl) (by rfl) (by first | (with_reducible exact Mem.ev_const _ _) | (with_reducible exact Mem.ev_zero _ _ _) | (with_reducible (apply Eq.trans (Mem.ev_tmp _ _ _)); simp only [List.getD_cons_succ, List.getD_cons_zero] <;> rfl)) (fun wx => by go_simp) ?_
      (simp only [Act.put, List.setIfInBounds_toArray, List.set_cons_zero, List.set_cons_succ])
      refine plan_cell 3 _ _ (.int .i64 x.n) _ (by rfl) (by rfl) (by rfl) (by first | (with_reducible exact Mem.ev_const _ _) | (with_reducible exact Mem.ev_zero _ _ _) | (with_reducible (apply Eq.trans (Mem.ev_tmp _ _ _)); simp only [List.getD_cons_succ, List.getD_cons_zero] <;> rfl)) (fun w' hw' => hw'.cell' 1 rfl) Try.underlying3 (by rfl) ?_
      (simp only [Act.put, List.setIfInBounds_toArray, List.set_cons_zero, List.set_cons_succ])
      refine plan_field 39 _ 2 w.heap.size 0 ⟨w.heap.size, 2, none⟩ (by rfl) (by rfl) (by rfl) (by first | (with_reducible exact Mem.ev_const _ _) | (with_reducible exact Mem.ev_zero _ _ _) | (with_reducible (apply Eq.trans (Mem.ev_tmp _ _ _)); simp only [List.getD_cons_succ, List.getD_cons_zero] <;> rfl)) (fun wx => by go_simp) ?_
      (simp only [Act.put, List.setIfInBounds_toArray, List.set_cons_zero, List.set_cons_succ])
      refine plan_cell 3 _ _ (.int .i64 x.a) _ (by rfl) (by rfl) (by rfl) (by first | (with_reducible exact Mem.ev_const _ _) | (with_reducible exact Mem.ev_zero _ _ _) | (with_reducible (apply Eq.trans (Mem.ev_tmp _ _ _)); simp only [List.getD_cons_succ, List.getD_cons_zero] <;> rfl)) (fun w' hw' => hw'.cell' 2 rfl) Try.underlying3 (by rfl) ?_
      (simp only [Act.put, List.setIfInBounds_toArray, List.set_cons_zero, List.set_cons_succ])
      (first | (refine plan_move _ _ (by rfl) (by rfl) (.inl (by rfl)) (by first | (with_reducible exact Mem.ev_const _ _) | (with_reducible exact Mem.ev_zero _ _ _) | (with_reducible (apply Eq.trans (Mem.ev_tmp _ _ _)); simp only [List.getD_cons_succ, List.getD_cons_zero] <;> rfl)) ?_) | (refine plan_move _ _ (by rfl) (by rfl) (.inr (by rfl)) (by first | (with_reducible exact Mem.ev_const _ _) | (with_reducible exact Mem.ev_zero _ _ _) | (with_reducible (apply Eq.trans (Mem.ev_tmp _ _ _)); simp only [List.getD_cons_succ, List.getD_cons_zero] <;> rfl)) ?_) | (refine plan_pick_t _ _ _ _ (by rfl) (by rfl) (by rfl) (by first | (with_reducible exact Mem.ev_const _ _) | (with_reducible exact Mem.ev_zero _ _ _) | (with_reducible (apply Eq.trans (Mem.ev_tmp _ _ _)); simp only [List.getD_cons_succ, List.getD_cons_zero] <;> rfl)) (by first | (with_reducible exact Mem.ev_const _ _) | (with_reducible exact Mem.ev_zero _ _ _) | (with_reducible (apply Eq.trans (Mem.ev_tmp _ _ _)); simp only [List.getD_cons_succ, List.getD_cons_zero] <;> rfl)) ?_) | (refine plan_pick_f _ _ _ _ (by rfl) (by rfl) (by rfl) (by first | (with_reducible exact Mem.ev_const _ _) | (with_reducible exact Mem.ev_zero _ _ _) | (with_reducible (apply Eq.trans (Mem.ev_tmp _ _ _)); simp only [List.getD_cons_succ, List.getD_cons_zero] <;> rfl)) (by first | (with_reducible exact Mem.ev_const _ _) | (with_reducible exact Mem.ev_zero _ _ _) | (with_reducible (apply Eq.trans (Mem.ev_tmp _ _ _)); simp only [List.getD_cons_succ, List.getD_cons_zero] <;> rfl)) ?_))
      (simp only [Act.put, List.setIfInBounds_toArray, List.set_cons_zero, List.set_cons_succ])
      (first | (refine plan_move _ _ (by rfl) (by rfl) (.inl (by rfl)) (by first | (with_reducible exact Mem.ev_const _ _) | (with_reducible exact Mem.ev_zero _ _ _) | (with_reducible (apply Eq.trans (Mem.ev_tmp _ _ _)); simp only [List.getD_cons_succ, List.getD_cons_zero] <;> rfl)) ?_) | (refine plan_move _ _ (by rfl) (by rfl) (.inr (by rfl)) (by first | (with_reducible exact Mem.ev_const _ _) | (with_reducible exact Mem.ev_zero _ _ _) | (with_reducible (apply Eq.trans (Mem.ev_tmp _ _ _)); simp only [List.getD_cons_succ, List.getD_cons_zero] <;> rfl)) ?_) | (refine plan_pick_t _ _ _ _ (by rfl) (by rfl) (by rfl) (by first | (with_reducible exact Mem.ev_const _ _) | (with_reducible exact Mem.ev_zero _ _ _) | (with_reducible (apply Eq.trans (Mem.ev_tmp _ _ _)); simp only [List.getD_cons_succ, List.getD_cons_zero] <;> rfl)) (by first | (with_reducible exact Mem.ev_const _ _) | (with_reducible exact Mem.ev_zero _ _ _) | (with_reducible (apply Eq.trans (Mem.ev_tmp _ _ _)); simp only [List.getD_cons_succ, List.getD_cons_zero] <;> rfl)) ?_) | (refine plan_pick_f _ _ _ _ (by rfl) (by rfl) (by rfl) (by first | (with_reducible exact Mem.ev_const _ _) | (with_reducible exact Mem.ev_zero _ _ _) | (with_reducible (apply Eq.trans (Mem.ev_tmp _ _ _)); simp only [List.getD_cons_succ, List.getD_cons_zero] <;> rfl)) (by first | (with_reducible exact Mem.ev_const _ _) | (with_reducible exact Mem.ev_zero _ _ _) | (with_reducible (apply Eq.trans (Mem.ev_tmp _ _ _)); simp only [List.getD_cons_succ, List.getD_cons_zero] <;> rfl)) ?_))
      (simp only [Act.put, List.setIfInBounds_toArray, List.set_cons_zero, List.set_cons_succ])
      refine plan_field 39 _ 1 w.heap.size 0 ⟨w.heap.size, 1, none⟩ (by rfl) (by rfl) (by rfl) (by first | (with_reducible exact Mem.ev_const _ _) | (with_reducible exact Mem.ev_zero _ _ _) | (with_reducible (apply Eq.trans (Mem.ev_tmp _ _ _)); simp only [List.getD_cons_succ, List.getD_cons_zero] <;> rfl)) (fun wx => by go_simp) ?_
      (simp only [Act.put, List.setIfInBounds_toArray, List.set_cons_zero, List.set_cons_succ])
      refine plan_cell 3 _ _ (.int .i64 x.n) _ (by rfl) (by rfl) (by rfl) (by first | (with_reducible exact Mem.ev_const _ _) | (with_reducible exact Mem.ev_zero _ _ _) | (with_reducible (apply Eq.trans (Mem.ev_tmp _ _ _)); simp only [List.getD_cons_succ, List.getD_cons_zero] <;> rfl)) (fun w' hw' => hw'.cell' 1 rfl) Try.underlying3 (by rfl) ?_
      (simp only [Act.put, List.setIfInBounds_toArray, List.set_cons_zero, List.set_cons_succ])
      refine plan_field 39 _ 2 w.heap.size 0 ⟨w.heap.size, 2, none⟩ (by rfl) (by rfl) (by rfl) (by first | (with_reducible exact Mem.ev_const _ _) | (with_reducible exact Mem.ev_zero _ _ _) | (with_reducible (apply Eq.trans (Mem.ev_tmp _ _ _)); simp only [List.getD_cons_succ, List.getD_cons_zero] <;> rfl)) (fun wx => by go_simp) ?_
      (simp only [Act.put, List.setIfInBounds_toArray, List.set_cons_zero, List.set_cons_succ])
      refine plan_cell 3 _ _ (.int .i64 x.a) _ (by rfl) (by rfl) (by rfl) (by first | (with_reducible exact Mem.ev_const _ _) | (with_reducible exact Mem.ev_zero _ _ _) | (with_reducible (apply Eq.trans (Mem.ev_tmp _ _ _)); simp only [List.getD_cons_succ, List.getD_cons_zero] <;> rfl)) (fun w' hw' => hw'.cell' 2 rfl) Try.underlying3 (by rfl) ?_
      (simp only [Act.put, List.setIfInBounds_toArray, List.set_cons_zero, List.set_cons_succ])
      (first | (refine plan_move _ _ (by rfl) (by rfl) (.inl (by rfl)) (by first | (with_reducible exact Mem.ev_const _ _) | (with_reducible exact Mem.ev_zero _ _ _) | (with_reducible (apply Eq.trans (Mem.ev_tmp _ _ _)); simp only [List.getD_cons_succ, List.getD_cons_zero] <;> rfl)) ?_) | (refine plan_move _ _ (by rfl) (by rfl) (.inr (by rfl)) (by first | (with_reducible exact Mem.ev_const _ _) | (with_reducible exact Mem.ev_zero _ _ _) | (with_reducible (apply Eq.trans (Mem.ev_tmp _ _ _)); simp only [List.getD_cons_succ, List.getD_cons_zero] <;> rfl)) ?_) | (refine plan_pick_t _ _ _ _ (by rfl) (by rfl) (by rfl) (by first | (with_reducible exact Mem.ev_const _ _) | (with_reducible exact Mem.ev_zero _ _ _) | (with_reducible (apply Eq.trans (Mem.ev_tmp _ _ _)); simp only [List.getD_cons_succ, List.getD_cons_zero] <;> rfl)) (by first | (with_reducible exact Mem.ev_const _ _) | (with_reducible exact Mem.ev_zero _ _ _) | (with_reducible (apply Eq.trans (Mem.ev_tmp _ _ _)); simp only [List.getD_cons_succ, List.getD_cons_zero] <;> rfl)) ?_) | (refine plan_pick_f _ _ _ _ (by rfl) (by rfl) (by rfl) (by first | (with_reducible exact Mem.ev_const _ _) | (with_reducible exact Mem.ev_zero _ _ _) | (with_reducible (apply Eq.trans (Mem.ev_tmp _ _ _)); simp only [List.getD_cons_succ, List.getD_cons_zero] <;> rfl)) (by first | (with_reducible exact Mem.ev_const _ _) | (with_reducible exact Mem.ev_zero _ _ _) | (with_reducible (apply Eq.trans (Mem.ev_tmp _ _ _)); simp only [List.getD_cons_succ, List.getD_cons_zero] <;> rfl)) ?_))
      (simp only [Act.put, List.setIfInBounds_toArray, List.set_cons_zero, List.set_cons_succ])
      refine plan_call 24 _ _ _ (by kernel_rfl) (by rfl) (by rfl) (by rfl) (by first | exact Mem.ev_none _ | (simp only [List.map_toArray, List.map_cons, List.map_nil, Mem.ev_tmp, List.getD_cons_succ, List.getD_cons_zero] <;> rfl)) ?_
      refine (DoI.first CC.out D.out (fun F h => CC.out.tamperBad x.n x.a _ _ _ h OK.out SX.out.sl (by rw [List.length_replicate]; have := x.x.isLt; omega) XN.out.1 XN.out.2 XA.out.1 XA.out.2 BAD.out)).mono ?_
      rintro e w5 ⟨rfl, hd, hk⟩
      have D5 := Lib.hid hd
      have AX5 := Lib.hid (AX.out.kept hk (by first | exact rfl | exact .inl rfl))
      have SX5 := Lib.hid (SX.out.kept hk)
      clear hd hk D
      refine ⟨_, rfl, AX5.out, ?_⟩
      (simp only [Act.put, List.setIfInBounds_toArray, List.set_cons_zero, List.set_cons_succ])
      refine plan_call 30 _ _ _ (by kernel_rfl) (by rfl) (by rfl) (by rfl) (by first | exact Mem.ev_none _ | (simp only [List.map_toArray, List.map_cons, List.map_nil, Mem.ev_tmp, List.getD_cons_succ, List.getD_cons_zero] <;> rfl)) ?_
      refine (DoI.second CC.out D5.out (fun G h => rbad_end (rtamper_bad x.n x.a _ _ _ h SX5.out.sl OK.out.n2 (by rw [List.length_replicate]; have := x.x.isLt; omega) BAD.out) h)).mono ?_
      rintro e w6 ⟨rfl, hd, hk⟩
      have D6 := Lib.hid hd
      have AX6 := Lib.hid (AX5.out.kept hk (by first | exact rfl | exact .inl rfl))
      clear hd hk D5
      refine ⟨_, rfl, AX6.out, ?_⟩
      (simp only [Act.put, List.setIfInBounds_toArray, List.set_cons_zero, List.set_cons_succ])
      refine plan_bin _ _ _ _ _ _ _ _ (by rfl) (by rfl) (by rfl) (by first | (with_reducible exact Mem.ev_const _ _) | (with_reducible exact Mem.ev_zero _ _ _) | (with_reducible (apply Eq.trans (Mem.ev_tmp _ _ _)); simp only [List.getD_cons_succ, List.getD_cons_zero] <;> rfl)) (by first | (with_reducible exact Mem.ev_const _ _) | (with_reducible exact Mem.ev_zero _ _ _) | (with_reducible (apply Eq.trans (Mem.ev_tmp _ _ _)); simp only [List.getD_cons_succ, List.getD_cons_zero] <;> rfl)) (fun wx => (by go_simp : (do eqGuard .eql 3 _ _ (.int .i64 1) (.int .i64 1); Go.binOp .eql 3 (.int .i64 1) (.int .i64 1) : Sem Value).run Try.prog wx = .ok (.bool true) wx)) ?_
      (simp only [Act.put, List.setIfInBounds_toArray, List.set_cons_zero, List.set_cons_succ])
      (first | (refine plan_move _ _ (by rfl) (by rfl) (.inl (by rfl)) (by first | (with_reducible exact Mem.ev_const _ _) | (with_reducible exact Mem.ev_zero _ _ _) | (with_reducible (apply Eq.trans (Mem.ev_tmp _ _ _)); simp only [List.getD_cons_succ, List.getD_cons_zero] <;> rfl)) ?_) | (refine plan_move _ _ (by rfl) (by rfl) (.inr (by rfl)) (by first | (with_reducible exact Mem.ev_const _ _) | (with_reducible exact Mem.ev_zero _ _ _) | (with_reducible (apply Eq.trans (Mem.ev_tmp _ _ _)); simp only [List.getD_cons_succ, List.getD_cons_zero] <;> rfl)) ?_) | (refine plan_pick_t _ _ _ _ (by rfl) (by rfl) (by rfl) (by first | (with_reducible exact Mem.ev_const _ _) | (with_reducible exact Mem.ev_zero _ _ _) | (with_reducible (apply Eq.trans (Mem.ev_tmp _ _ _)); simp only [List.getD_cons_succ, List.getD_cons_zero] <;> rfl)) (by first | (with_reducible exact Mem.ev_const _ _) | (with_reducible exact Mem.ev_zero _ _ _) | (with_reducible (apply Eq.trans (Mem.ev_tmp _ _ _)); simp only [List.getD_cons_succ, List.getD_cons_zero] <;> rfl)) ?_) | (refine plan_pick_f _ _ _ _ (by rfl) (by rfl) (by rfl) (by first | (with_reducible exact Mem.ev_const _ _) | (with_reducible exact Mem.ev_zero _ _ _) | (with_reducible (apply Eq.trans (Mem.ev_tmp _ _ _)); simp only [List.getD_cons_succ, List.getD_cons_zero] <;> rfl)) (by first | (with_reducible exact Mem.ev_const _ _) | (with_reducible exact Mem.ev_zero _ _ _) | (with_reducible (apply Eq.trans (Mem.ev_tmp _ _ _)); simp only [List.getD_cons_succ, List.getD_cons_zero] <;> rfl)) ?_))
      (simp only [Act.put, List.setIfInBounds_toArray, List.set_cons_zero, List.set_cons_succ])
      refine plan_nil ?_
      go_wp2_with fail
      go_ret
      rw [DS.out]
      exact ⟨rfl, OK1.out, rfl, D6.out.fin⟩
  · by_cases hS : s.sh.length < 16
    · have ds : doSt s x = stPut s := by unfold doSt; rw [if_neg (by omega : ¬ B8 x.k % 8 = 2), if_neg (by omega : ¬ B8 x.k % 8 = 3), if_neg (by omega : ¬ B8 x.k % 8 = 4), if_neg (by omega : ¬ B8 x.k % 8 = 5), if_pos h8, if_pos hS]
      have DS := Lib.hid ds
      clear ds
      have SL : Hid (s.sh.length < 16) := hS
      go_enter Try.func11, Try.ntmps11
      go_upto_region 1 with fail
      generalize w.alloc (.cells (stepC6 x) 39) = wk at *
      have d0 : wk.cell? ⟨w.heap.size, 0, none⟩ = some (.int .u8 (B8 x.k)) := AX.out.cell' 0 rfl
      have d1 : wk.cell? ⟨w.heap.size, 1, none⟩ = some (.int .i64 x.n) := AX.out.cell' 1 rfl
      have d2 : wk.cell? ⟨w.heap.size, 2, none⟩ = some (.int .i64 x.a) := AX.out.cell' 2 rfl
      have d3 : wk.cell? ⟨w.heap.size, 3, none⟩ = some (.int .u8 (B8 x.x)) := AX.out.cell' 3 rfl
      have d4 : wk.cell? ⟨w.heap.size, 4, none⟩ = some (.int .u64 (x.q : Int)) := AX.out.cell' 4 rfl
      go_wp2_with fail
      refine (DoI.first CC.out D.out (fun F h => CC.out.put _ h OK.out SL.out)).mono ?_
      rintro e w5 ⟨rfl, hd, hk⟩
      have D5 := Lib.hid hd
      have AX5 := Lib.hid (AX.out.kept hk (by first | exact rfl | exact .inl rfl))
      clear hd hk D
      go_wp2_with fail
      refine (DoI.second CC.out D5.out (fun G h => rput_good _ h (by rw [OK.out.b]; have := OK.out.n2; omega) SL.out)).mono ?_
      rintro e w6 ⟨rfl, hd, _⟩
      have D6 := Lib.hid hd
      clear hd D5
      go_wp2_with fail
      go_ret
      rw [DS.out]
      exact ⟨rfl, (ok_put OKM.out SL.out).mono (Nat.le_succ _), rfl, D6.out.fin⟩
    · have ds : doSt s x = s := by unfold doSt; rw [if_neg (by omega : ¬ B8 x.k % 8 = 2), if_neg (by omega : ¬ B8 x.k % 8 = 3), if_neg (by omega : ¬ B8 x.k % 8 = 4), if_neg (by omega : ¬ B8 x.k % 8 = 5), if_pos h8, if_neg hS]
      have DS := Lib.hid ds
      clear ds
      have SL : Hid (16 ≤ s.sh.length) := Nat.le_of_not_lt hS
      go_enter Try.func11, Try.ntmps11
      go_upto_region 1 with fail
      generalize w.alloc (.cells (stepC6 x) 39) = wk at *
      have d0 : wk.cell? ⟨w.heap.size, 0, none⟩ = some (.int .u8 (B8 x.k)) := AX.out.cell' 0 rfl
      have d1 : wk.cell? ⟨w.heap.size, 1, none⟩ = some (.int .i64 x.n) := AX.out.cell' 1 rfl
      have d2 : wk.cell? ⟨w.heap.size, 2, none⟩ = some (.int .i64 x.a) := AX.out.cell' 2 rfl
      have d3 : wk.cell? ⟨w.heap.size, 3, none⟩ = some (.int .u8 (B8 x.x)) := AX.out.cell' 3 rfl
      have d4 : wk.cell? ⟨w.heap.size, 4, none⟩ = some (.int .u64 (x.q : Int)) := AX.out.cell' 4 rfl
      go_wp2_with fail
      refine (DoI.first CC.out D.out (fun F h => CC.out.putFull _ h OK.out SL.out)).mono ?_
      rintro e w5 ⟨rfl, hd, hk⟩
      have D5 := Lib.hid hd
      have AX5 := Lib.hid (AX.out.kept hk (by first | exact rfl | exact .inl rfl))
      clear hd hk D
      go_wp2_with fail
      refine (DoI.second CC.out D5.out (fun G h => rbad_end (rput_full _ h (by have := OK.out.s16; omega) SL.out) h)).mono ?_
      rintro e w6 ⟨rfl, hd, _⟩
      have D6 := Lib.hid hd
      clear hd D5
      go_wp2_with fail
      go_ret
      rw [DS.out]
      exact ⟨rfl, OK1.out, rfl, D6.out.fin⟩
  · by_cases hA : 0 ≤ x.a ∧ x.a < (s.sh.length : Int)
    · obtain ⟨k, HA'⟩ : ∃ k : Nat, x.a = (k : Int) := ⟨x.a.toNat, by omega⟩
      have KL : Hid (k < s.sh.length) := (by show k < s.sh.length; omega)
      have ds : doSt s x = stRestore s k := by unfold doSt; rw [if_neg (by omega : ¬ B8 x.k % 8 = 2), if_neg (by omega : ¬ B8 x.k % 8 = 3), if_neg (by omega : ¬ B8 x.k % 8 = 4), if_neg (by omega : ¬ B8 x.k % 8 = 5), if_neg (by omega : ¬ B8 x.k % 8 = 6), if_pos h8, if_neg (by omega : ¬ (x.a < 0 ∨ (s.sh.length : Int) ≤ x.a)), show x.a.toNat = k by omega]
      have DS := Lib.hid ds
      clear ds
      have HA := Lib.hid HA'
      clear hA HA'
      go_enter Try.func11, Try.ntmps11
      go_upto_region 1 with fail
      generalize w.alloc (.cells (stepC6 x) 39) = wk at *
      have d0 : wk.cell? ⟨w.heap.size, 0, none⟩ = some (.int .u8 (B8 x.k)) := AX.out.cell' 0 rfl
      have d1 : wk.cell? ⟨w.heap.size, 1, none⟩ = some (.int .i64 x.n) := AX.out.cell' 1 rfl
      have d2 : wk.cell? ⟨w.heap.size, 2, none⟩ = some (.int .i64 (k : Int)) := AX.out.cell' 2 (by rw [← HA.out]; rfl)
      have d3 : wk.cell? ⟨w.heap.size, 3, none⟩ = some (.int .u8 (B8 x.x)) := AX.out.cell' 3 rfl
      have d4 : wk.cell? ⟨w.heap.size, 4, none⟩ = some (.int .u64 (x.q : Int)) := AX.out.cell' 4 rfl
      go_wp2_with fail
      replace D := Lib.hid (DoI.drew CC.out D.out)
      replace AX := Lib.hid AX.out.drew
      refine wp_region_plan_in (fun w' => At w' w.heap.size (stepC6 x) 39) (.take 0 (.take 1 (.take 2 (.take 4 (.take 5 (.take 6 (.sole 3 (.sole 7 (.take 8 (.take 9 .done)))))))))) (by kernel_rfl) (by kernel_rfl) (by kernel_rfl) AX.out.drew ?_
      (first | (refine plan_move _ _ (by rfl) (by rfl) (.inl (by rfl)) (by first | (with_reducible exact Mem.ev_const _ _) | (with_reducible exact Mem.ev_zero _ _ _) | (with_reducible (apply Eq.trans (Mem.ev_tmp _ _ _)); simp only [List.getD_cons_succ, List.getD_cons_zero] <;> rfl)) ?_) | (refine plan_move _ _ (by rfl) (by rfl) (.inr (by rfl)) (by first | (with_reducible exact Mem.ev_const _ _) | (with_reducible exact Mem.ev_zero _ _ _) | (with_reducible (apply Eq.trans (Mem.ev_tmp _ _ _)); simp only [List.getD_cons_succ, List.getD_cons_zero] <;> rfl)) ?_) | (refine plan_pick_t _ _ _ _ (by rfl) (by rfl) (by rfl) (by first | (with_reducible exact Mem.ev_const _ _) | (with_reducible exact Mem.ev_zero _ _ _) | (with_reducible (apply Eq.trans (Mem.ev_tmp _ _ _)); simp only [List.getD_cons_succ, List.getD_cons_zero] <;> rfl)) (by first | (with_reducible exact Mem.ev_const _ _) | (with_reducible exact Mem.ev_zero _ _ _) | (with_reducible (apply Eq.trans (Mem.ev_tmp _ _ _)); simp only [List.getD_cons_succ, List.getD_cons_zero] <;> rfl)) ?_) | (refine plan_pick_f _ _ _ _ (by rfl) (by rfl) (by rfl) (by first | (with_reducible exact Mem.ev_const _ _) | (with_reducible exact Mem.ev_zero _ _ _) | (with_reducible (apply Eq.trans (Mem.ev_tmp _ _ _)); simp only [List.getD_cons_succ, List.getD_cons_zero] <;> rfl)) (by first | (with_reducible exact Mem.ev_const _ _) | (with_reducible exact Mem.ev_zero _ _ _) | (with_reducible (apply Eq.trans (Mem.ev_tmp _ _ _)); simp only [List.getD_cons_succ, List.getD_cons_zero] <;> rfl)) ?_))
      (simp only [Act.put, List.setIfInBounds_toArray, List.set_cons_zero, List.set_cons_succ])
      refine plan_field 39 _ 2 w.heap.size 0 ⟨w.heap.size, 2, none⟩ (by rfl) (by rfl) (by rfl) (by first | (with_reducible exact Mem.ev_const _ _) | (with_reducible exact Mem.ev_zero _ _ _) | (with_reducible (apply Eq.trans (Mem.ev_tmp _ _ _)); simp only [List.getD_cons_succ, List.getD_cons_zero] <;> rfl)) (fun wx => by go_simp) ?_
      (simp only [Act.put, List.setIfInBounds_toArray, List.set_cons_zero, List.set_cons_succ])
      refine plan_cell 3 _ _ (.int .i64 (k : Int)) _ (by rfl) (by rfl) (by rfl) (by first | (with_reducible exact Mem.ev_const _ _) | (with_reducible exact Mem.ev_zero _ _ _) | (with_reducible (apply Eq.trans (Mem.ev_tmp _ _ _)); simp only [List.getD_cons_succ, List.getD_cons_zero] <;> rfl)) (fun w' hw' => hw'.cell' 2 (by rw [← HA.out]; rfl)) Try.underlying3 (by rfl) ?_
      (simp only [Act.put, List.setIfInBounds_toArray, List.set_cons_zero, List.set_cons_succ])
      (first | (refine plan_move _ _ (by rfl) (by rfl) (.inl (by rfl)) (by first | (with_reducible exact Mem.ev_const _ _) | (with_reducible exact Mem.ev_zero _ _ _) | (with_reducible (apply Eq.trans (Mem.ev_tmp _ _ _)); simp only [List.getD_cons_succ, List.getD_cons_zero] <;> rfl)) ?_) | (refine plan_move _ _ (by rfl) (by rfl) (.inr (by rfl)) (by first | (with_reducible exact Mem.ev_const _ _) | (with_reducible exact Mem.ev_zero _ _ _) | (with_reducible (apply Eq.trans (Mem.ev_tmp _ _ _)); simp only [List.getD_cons_succ, List.getD_cons_zero] <;> rfl)) ?_) | (refine plan_pick_t _ _ _ _ (by rfl) (by rfl) (by rfl) (by first | (with_reducible exact Mem.ev_const _ _) | (with_reducible exact Mem.ev_zero _ _ _) | (with_reducible (apply Eq.trans (Mem.ev_tmp _ _ _)); simp only [List.getD_cons_succ, List.getD_cons_zero] <;> rfl)) (by first | (with_reducible exact Mem.ev_const _ _) | (with_reducible exact Mem.ev_zero _ _ _) | (with_reducible (apply Eq.trans (Mem.ev_tmp _ _ _)); simp only [List.getD_cons_succ, List.getD_cons_zero] <;> rfl)) ?_) | (refine plan_pick_f _ _ _ _ (by rfl) (by rfl) (by rfl) (by first | (with_reducible exact Mem.ev_const _ _) | (with_reducible exact Mem.ev_zero _ _ _) | (with_reducible (apply Eq.trans (Mem.ev_tmp _ _ _)); simp only [List.getD_cons_succ, List.getD_cons_zero] <;> rfl)) (by first | (with_reducible exact Mem.ev_const _ _) | (with_reducible exact Mem.ev_zero _ _ _) | (with_reducible (apply Eq.trans (Mem.ev_tmp _ _ _)); simp only [List.getD_cons_succ, List.getD_cons_zero] <;> rfl)) ?_))
      (simp only [Act.put, List.setIfInBounds_toArray, List.set_cons_zero, List.set_cons_succ])
      refine plan_field 39 _ 2 w.heap.size 0 ⟨w.heap.size, 2, none⟩ (by rfl) (by rfl) (by rfl) (by first | (with_reducible exact Mem.ev_const _ _) | (with_reducible exact Mem.ev_zero _ _ _) | (with_reducible (apply Eq.trans (Mem.ev_tmp _ _ _)); simp only [List.getD_cons_succ, List.getD_cons_zero] <;> rfl)) (fun wx => by go_simp) ?_
      (simp only [Act.put, List.setIfInBounds_toArray, List.set_cons_zero, List.set_cons_succ])
      refine plan_cell 3 _ _ (.int .i64 (k : Int)) _ (by rfl) (by rfl) (by rfl) (by first | (with_reducible exact Mem.ev_const _ _) | (with_reducible exact Mem.ev_zero _ _ _) | (with_reducible (apply Eq.trans (Mem.ev_tmp _ _ _)); simp only [List.getD_cons_succ, List.getD_cons_zero] <;> rfl)) (fun w' hw' => hw'.cell' 2 (by rw [← HA.out]; rfl)) Try.underlying3 (by rfl) ?_
      (simp only [Act.put, List.setIfInBounds_toArray, List.set_cons_zero, List.set_cons_succ])
      refine plan_call 25 _ _ _ (by kernel_rfl) (by rfl) (by rfl) (by rfl) (by first | exact Mem.ev_none _ | (simp only [List.map_toArray, List.map_cons, List.map_nil, Mem.ev_tmp, List.getD_cons_succ, List.getD_cons_zero] <;> rfl)) ?_
      refine (DoI.first CC.out D.out (fun F h => CC.out.restore k _ h OK.out KL.out)).mono ?_
      rintro e w5 ⟨rfl, hd, hk⟩
      have D5 := Lib.hid hd
      have AX5 := Lib.hid (AX.out.kept hk (by first | exact rfl | exact .inl rfl))
      clear hd hk D
      refine ⟨_, rfl, AX5.out, ?_⟩
      (simp only [Act.put, List.setIfInBounds_toArray, List.set_cons_zero, List.set_cons_succ])
      refine plan_call 32 _ _ _ (by kernel_rfl) (by rfl) (by rfl) (by rfl) (by first | exact Mem.ev_none _ | (simp only [List.map_toArray, List.map_cons, List.map_nil, Mem.ev_tmp, List.getD_cons_succ, List.getD_cons_zero] <;> rfl)) ?_
      refine (DoI.second CC.out D5.out (fun G h => rrestore_good k _ h (by have := OK.out.s16; omega) KL.out)).mono ?_
      rintro e w6 ⟨rfl, hd, hk⟩
      have D6 := Lib.hid hd
      have AX6 := Lib.hid (AX5.out.kept hk (by first | exact rfl | exact .inl rfl))
      clear hd hk D5
      refine ⟨_, rfl, AX6.out, ?_⟩
      (simp only [Act.put, List.setIfInBounds_toArray, List.set_cons_zero, List.set_cons_succ])
      refine plan_bin _ _ _ _ _ _ _ _ (by rfl) (by rfl) (by rfl) (by first | (with_reducible exact Mem.ev_const _ _) | (with_reducible exact Mem.ev_zero _ _ _) | (with_reducible (apply Eq.trans (Mem.ev_tmp _ _ _)); simp only [List.getD_cons_succ, List.getD_cons_zero] <;> rfl)) (by first | (with_reducible exact Mem.ev_const _ _) | (with_reducible exact Mem.ev_zero _ _ _) | (with_reducible (apply Eq.trans (Mem.ev_tmp _ _ _)); simp only [List.getD_cons_succ, List.getD_cons_zero] <;> rfl)) (fun wx => (by go_simp : (do eqGuard .eql 3 _ _ (.int .i64 0) (.int .i64 0); Go.binOp .eql 3 (.int .i64 0) (.int .i64 0) : Sem Value).run Try.prog wx = .ok (.bool true) wx)) ?_
      (simp only [Act.put, List.setIfInBounds_toArray, List.set_cons_zero, List.set_cons_succ])
      (first | (refine plan_move _ _ (by rfl) (by rfl) (.inl (by rfl)) (by first | (with_reducible exact Mem.ev_const _ _) | (with_reducible exact Mem.ev_zero _ _ _) | (with_reducible (apply Eq.trans (Mem.ev_tmp _ _ _)); simp only [List.getD_cons_succ, List.getD_cons_zero] <;> rfl)) ?_) | (refine plan_move _ _ (by rfl) (by rfl) (.inr (by rfl)) (by first | (with_reducible exact Mem.ev_const _ _) | (with_reducible exact Mem.ev_zero _ _ _) | (with_reducible (apply Eq.trans (Mem.ev_tmp _ _ _)); simp only [List.getD_cons_succ, List.getD_cons_zero] <;> rfl)) ?_) | (refine plan_pick_t _ _ _ _ (by rfl) (by rfl) (by rfl) (by first | (with_reducible exact Mem.ev_const _ _) | (with_reducible exact Mem.ev_zero _ _ _) | (with_reducible (apply Eq.trans (Mem.ev_tmp _ _ _)); simp only [List.getD_cons_succ, List.getD_cons_zero] <;> rfl)) (by first | (with_reducible exact Mem.ev_const _ _) | (with_reducible exact Mem.ev_zero _ _ _) | (with_reducible (apply Eq.trans (Mem.ev_tmp _ _ _)); simp only [List.getD_cons_succ, List.getD_cons_zero] <;> rfl)) ?_) | (refine plan_pick_f _ _ _ _ (by rfl) (by rfl) (by rfl) (by first | (with_reducible exact Mem.ev_const _ _) | (with_reducible exact Mem.ev_zero _ _ _) | (with_reducible (apply Eq.trans (Mem.ev_tmp _ _ _)); simp only [List.getD_cons_succ, List.getD_cons_zero] <;> rfl)) (by first | (with_reducible exact Mem.ev_const _ _) | (with_reducible exact Mem.ev_zero _ _ _) | (with_reducible (apply Eq.trans (Mem.ev_tmp _ _ _)); simp only [List.getD_cons_succ, List.getD_cons_zero] <;> rfl)) ?_))
      (simp only [Act.put, List.setIfInBounds_toArray, List.set_cons_zero, List.set_cons_succ])
      refine plan_nil ?_
      go_wp2_with fail
      go_ret
      rw [DS.out]
      exact ⟨rfl, (ok_restore OKM.out k KL.out).mono (Nat.le_succ _), rfl, D6.out.fin⟩
    · have ds : doSt s x = s := by unfold doSt; rw [if_neg (by omega : ¬ B8 x.k % 8 = 2), if_neg (by omega : ¬ B8 x.k % 8 = 3), if_neg (by omega : ¬ B8 x.k % 8 = 4), if_neg (by omega : ¬ B8 x.k % 8 = 5), if_neg (by omega : ¬ B8 x.k % 8 = 6), if_pos h8, if_pos (by omega : x.a < 0 ∨ (s.sh.length : Int) ≤ x.a)]
      have DS := Lib.hid ds
      clear ds
      have BAD : Hid (x.a < 0 ∨ (s.sh.length : Int) ≤ x.a) := (by show x.a < 0 ∨ (s.sh.length : Int) ≤ x.a; omega)
      clear hA
      go_enter Try.func11, Try.ntmps11
      go_upto_region 1 with fail
      generalize w.alloc (.cells (stepC6 x) 39) = wk at *
      have d0 : wk.cell? ⟨w.heap.size, 0, none⟩ = some (.int .u8 (B8 x.k)) := AX.out.cell' 0 rfl
      have d1 : wk.cell? ⟨w.heap.size, 1, none⟩ = some (.int .i64 x.n) := AX.out.cell' 1 rfl
      have d2 : wk.cell? ⟨w.heap.size, 2, none⟩ = some (.int .i64 x.a) := AX.out.cell' 2 rfl
      have d3 : wk.cell? ⟨w.heap.size, 3, none⟩ = some (.int .u8 (B8 x.x)) := AX.out.cell' 3 rfl
      have d4 : wk.cell? ⟨w.heap.size, 4, none⟩ = some (.int .u64 (x.q : Int)) := AX.out.cell' 4 rfl
      go_wp2_with fail
      replace D := Lib.hid (DoI.drew CC.out D.out)
      replace AX := Lib.hid AX.out.drew
      refine wp_region_plan_in (fun w' => At w' w.heap.size (stepC6 x) 39) (.take 0 (.take 1 (.take 2 (.take 4 (.take 5 (.take 6 (.sole 3 (.sole 7 (.take 8 (.take 9 .done)))))))))) (by kernel_rfl) (by kernel_rfl) (by kernel_rfl) AX.out.drew ?_
      (first | (refine plan_move _ _ (by rfl) (by rfl) (.inl (by rfl)) (by first | (with_reducible exact Mem.ev_const _ _) | (with_reducible exact Mem.ev_zero _ _ _) | (with_reducible (apply Eq.trans (Mem.ev_tmp _ _ _)); simp only [List.getD_cons_succ, List.getD_cons_zero] <;> rfl)) ?_) | (refine plan_move _ _ (by rfl) (by rfl) (.inr (by rfl)) (by first | (with_reducible exact Mem.ev_const _ _) | (with_reducible exact Mem.ev_zero _ _ _) | (with_reducible (apply Eq.trans (Mem.ev_tmp _ _ _)); simp only [List.getD_cons_succ, List.getD_cons_zero] <;> rfl)) ?_) | (refine plan_pick_t _ _ _ _ (by rfl) (by rfl) (by rfl) (by first | (with_reducible exact Mem.ev_const _ _) | (with_reducible exact Mem.ev_zero _ _ _) | (with_reducible (apply Eq.trans (Mem.ev_tmp _ _ _)); simp only [List.getD_cons_succ, List.getD_cons_zero] <;> rfl)) (by first | (with_reducible exact Mem.ev_const _ _) | (with_reducible exact Mem.ev_zero _ _ _) | (with_reducible (apply Eq.trans (Mem.ev_tmp _ _ _)); simp only [List.getD_cons_succ, List.getD_cons_zero] <;> rfl)) ?_) | (refine plan_pick_f _ _ _ _ (by rfl) (by rfl) (by rfl) (by first | (with_reducible exact Mem.ev_const _ _) | (with_reducible exact Mem.ev_zero _ _ _) | (with_reducible (apply Eq.trans (Mem.ev_tmp _ _ _)); simp only [List.getD_cons_succ, List.getD_cons_zero] <;> rfl)) (by first | (with_reducible exact Mem.ev_const _ _) | (with_reducible exact Mem.ev_zero _ _ _) | (with_reducible (apply Eq.trans (Mem.ev_tmp _ _ _)); simp only [List.getD_cons_succ, List.getD_cons_zero] <;> rfl)) ?_))
      (simp only [Act.put, List.setIfInBounds_toArray, List.set_cons_zero, List.set_cons_succ])
      refine plan_field 39 _ 2 w.heap.size 0 ⟨w.heap.size, 2, none⟩ (by rfl) (by rfl) (by rfl) (by first | (with_reducible exact Mem.ev_const _ _) | (with_reducible exact Mem.ev_zero _ _ _) | (with_reducible (apply Eq.trans (Mem.ev_tmp _ _ _)); simp only [List.getD_cons_succ, List.getD_cons_zero] <;> rfl)) (fun wx => by go_simp) ?_
      (simp only [Act.put, List.setIfInBounds_toArray, List.set_cons_zero, List.set_cons_succ])
      refine plan_cell 3 _ _ (.int .i64 x.a) _ (by rfl) (by rfl) (by rfl) (by first | (with_reducible exact Mem.ev_const _ _) | (with_reducible exact Mem.ev_zero _ _ _) | (with_reducible (apply Eq.trans (Mem.ev_tmp _ _ _)); simp only [List.getD_cons_succ, List.getD_cons_zero] <;> rfl)) (fun w' hw' => hw'.cell' 2 rfl) Try.underlying3 (by rfl) ?_
      (simp only [Act.put, List.setIfInBounds_toArray, List.set_cons_zero, List.set_cons_succ])
      (first | (refine plan_move _ _ (by rfl) (by rfl) (.inl (by rfl)) (by first | (with_reducible exact Mem.ev_const _ _) | (with_reducible exact Mem.ev_zero _ _ _) | (with_reducible (apply Eq.trans (Mem.ev_tmp _ _ _)); simp only [List.getD_cons_succ, List.getD_cons_zero] <;> rfl)) ?_) | (refine plan_move _ _ (by rfl) (by rfl) (.inr (by rfl)) (by first | (with_reducible exact Mem.ev_const _ _) | (with_reducible exact Mem.ev_zero _ _ _) | (with_reducible (apply Eq.trans (Mem.ev_tmp _ _ _)); simp only [List.getD_cons_succ, List.getD_cons_zero] <;> rfl)) ?_) | (refine plan_pick_t _ _ _ _ (by rfl) (by rfl) (by rfl) (by first | (with_reducible exact Mem.ev_const _ _) | (with_reducible exact Mem.ev_zero _ _ _) | (with_reducible (apply Eq.trans (Mem.ev_tmp _ _ _)); simp only [List.getD_cons_succ, List.getD_cons_zero] <;> rfl)) (by first | (with_reducible exact Mem.ev_const _ _) | (with_reducible exact Mem.ev_zero _ _ _) | (with_reducible (apply Eq.trans (Mem.ev_tmp _ _ _)); simp only [List.getD_cons_succ, List.getD_cons_zero] <;> rfl)) ?_) | (refine plan_pick_f _ _ _ _ (by rfl) (by rfl) (by rfl) (by first | (with_reducible exact Mem.ev_const _ _) | (with_reducible exact Mem.ev_zero _ _ _) | (with_reducible (apply Eq.trans (Mem.ev_tmp _ _ _)); simp only [List.getD_cons_succ, List.getD_cons_zero] <;> rfl)) (by first | (with_reducible exact Mem.ev_const _ _) | (with_reducible exact Mem.ev_zero _ _ _) | (with_reducible (apply Eq.trans (Mem.ev_tmp _ _ _)); simp only [List.getD_cons_succ, List.getD_cons_zero] <;> rfl)) ?_))
      (simp only [Act.put, List.setIfInBounds_toArray, List.set_cons_zero, List.set_cons_succ])
      refine plan_field 39 _ 2 w.heap.size 0 ⟨w.heap.size, 2, none⟩ (by rfl) (by rfl) (by rfl) (by first | (with_reducible exact Mem.ev_const _ _) | (with_reducible exact Mem.ev_zero _ _ _) | (with_reducible (apply Eq.trans (Mem.ev_tmp _ _ _)); simp only [List.getD_cons_succ, List.getD_cons_zero] <;> rfl)) (fun wx => by go_simp) ?_
      (simp only [Act.put, List.setIfInBounds_toArray, List.set_cons_zero, List.set_cons_succ])
      refine plan_cell 3 _ _ (.int .i64 x.a) _ (by rfl) (by rfl) (by rfl) (by first | (with_reducible exact Mem.ev_const _ _) | (with_reducible exact Mem.ev_zero _ _ _) | (with_reducible (apply Eq.trans (Mem.ev_tmp _ _ _)); simp only [List.getD_cons_succ, List.getD_cons_zero] <;> rfl)) (fun w' hw' => hw'.cell' 2 rfl) Try.underlying3 (by rfl) ?_
      (simp only [Act.put, List.setIfInBounds_toArray, List.set_cons_zero, List.set_cons_succ])
      refine plan_call 25 _ _ _ (by kernel_rfl) (by rfl) (by rfl) (by rfl) (by first | exact Mem.ev_none _ | (simp only [List.map_toArray, List.map_cons, List.map_nil, Mem.ev_tmp, List.getD_cons_succ, List.getD_cons_zero] <;> rfl)) ?_
      refine (DoI.first CC.out D.out (fun F h => CC.out.restoreBad x.a _ h OK.out XA.out.1 XA.out.2 BAD.out)).mono ?_
      rintro e w5 ⟨rfl, hd, hk⟩
      have D5 := Lib.hid hd
      have AX5 := Lib.hid (AX.out.kept hk (by first | exact rfl | exact .inl rfl))
      clear hd hk D
      refine ⟨_, rfl, AX5.out, ?_⟩
      (simp only [Act.put, List.setIfInBounds_toArray, List.set_cons_zero, List.set_cons_succ])
      refine plan_call 32 _ _ _ (by kernel_rfl) (by rfl) (by rfl) (by rfl) (by first | exact Mem.ev_none _ | (simp only [List.map_toArray, List.map_cons, List.map_nil, Mem.ev_tmp, List.getD_cons_succ, List.getD_cons_zero] <;> rfl)) ?_
      refine (DoI.second CC.out D5.out (fun G h => rbad_end (rrestore_bad x.a _ h (by have := OK.out.s16; omega) BAD.out) h)).mono ?_
      rintro e w6 ⟨rfl, hd, hk⟩
      have D6 := Lib.hid hd
      have AX6 := Lib.hid (AX5.out.kept hk (by first | exact rfl | exact .inl rfl))
      clear hd hk D5
      refine ⟨_, rfl, AX6.out, ?_⟩
      (simp only [Act.put, List.setIfInBounds_toArray, List.set_cons_zero, List.set_cons_succ])
      refine plan_bin _ _ _ _ _ _ _ _ (by rfl) (by rfl) (by rfl) (by first | (with_reducible exact Mem.ev_const _ _) | (with_reducible exact Mem.ev_zero _ _ _) | (with_reducible (apply Eq.trans (Mem.ev_tmp _ _ _)); simp only [List.getD_cons_succ, List.getD_cons_zero] <;> rfl)) (by first | (with_reducible exact Mem.ev_const _ _) | (with_reducible exact Mem.ev_zero _ _ _) | (with_reducible (apply Eq.trans (Mem.ev_tmp _ _ _)); simp only [List.getD_cons_succ, List.getD_cons_zero] <;> rfl)) (fun wx => (by go_simp : (do eqGuard .eql 3 _ _ (.int .i64 6) (.int .i64 6); Go.binOp .eql 3 (.int .i64 6) (.int .i64 6) : Sem Value).run Try.prog wx = .ok (.bool true) wx)) ?_
      (simp only [Act.put, List.setIfInBounds_toArray, List.set_cons_zero, List.set_cons_succ])
      (first | (refine plan_move _ _ (by rfl) (by rfl) (.inl (by rfl)) (by first | (with_reducible exact Mem.ev_const _ _) | (with_reducible exact Mem.ev_zero _ _ _) | (with_reducible (apply Eq.trans (Mem.ev_tmp _ _ _)); simp only [List.getD_cons_succ, List.getD_cons_zero] <;> rfl)) ?_) | (refine plan_move _ _ (by rfl) (by rfl) (.inr (by rfl)) (by first | (with_reducible exact Mem.ev_const _ _) | (with_reducible exact Mem.ev_zero _ _ _) | (with_reducible (apply Eq.trans (Mem.ev_tmp _ _ _)); simp only [List.getD_cons_succ, List.getD_cons_zero] <;> rfl)) ?_) | (refine plan_pick_t _ _ _ _ (by rfl) (by rfl) (by rfl) (by first | (with_reducible exact Mem.ev_const _ _) | (with_reducible exact Mem.ev_zero _ _ _) | (with_reducible (apply Eq.trans (Mem.ev_tmp _ _ _)); simp only [List.getD_cons_succ, List.getD_cons_zero] <;> rfl)) (by first | (with_reducible exact Mem.ev_const _ _) | (with_reducible exact Mem.ev_zero _ _ _) | (with_reducible (apply Eq.trans (Mem.ev_tmp _ _ _)); simp only [List.getD_cons_succ, List.getD_cons_zero] <;> rfl)) ?_) | (refine plan_pick_f _ _ _ _ (by rfl) (by rfl) (by rfl) (by first | (with_reducible exact Mem.ev_const _ _) | (with_reducible exact Mem.ev_zero _ _ _) | (with_reducible (apply Eq.trans (Mem.ev_tmp _ _ _)); simp only [List.getD_cons_succ, List.getD_cons_zero] <;> rfl)) (by first | (with_reducible exact Mem.ev_const _ _) | (with_reducible exact Mem.ev_zero _ _ _) | (with_reducible (apply Eq.trans (Mem.ev_tmp _ _ _)); simp only [List.getD_cons_succ, List.getD_cons_zero] <;> rfl)) ?_))
      (simp only [Act.put, List.setIfInBounds_toArray, List.set_cons_zero, List.set_cons_succ])
      refine plan_nil ?_
      go_wp2_with fail
      go_ret
      rw [DS.out]
      exact ⟨rfl, OK1.out, rfl, D6.out.fin⟩
theorem do_any {R : StAcc} (C : DevC R) {bs br m : Nat} {F G : Foot} {s : St6} (x : Step6) (w : World) (hp : Pair R bs br F G s w) (hok : Ok6 m s) (hm : m ≤ 900) (hx : goodS6 x) :
    Calls Try.prog 11 #[rq bs, rq br, .agg (stepC6 x)] w fun e w' => e = .returned (.bool true) ∧ ∃ s', Ok6 (m + 1) s' ∧ s'.n = s.n ∧ DoEnd R bs br F G w s' w' :=
  (do_all C x w hp hok hm hx).mono fun _ _ h => ⟨h.1, _, h.2⟩
end Sha
end Go.Proofs.Ytkgpcgkikenljaa
