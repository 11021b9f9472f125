/- The program's register: Set. -/
import Derived.Test.YtknaimpnkflfnaaRegAcc
namespace Go.Proofs.Ytknaimpnkflfnaa
namespace Sha
open Go.RowKit Mem
/-- How a call that changes a register ends. -/
def RgEnd (F : Foot) (br : Nat) (w : World) (o : Option Anc) (es : List Nat) (w' : World) : Prop := (∃ F', PReg F' br w' o es ∧ ∀ k, F' k → F k ∨ w.heap.size ≤ k) ∧ Chg F w w'
theorem infoRSl : (Try.prog.info? 27).map (·.size) = some 1 := by kernel_rfl
theorem infoRU : (Try.prog.info? 52).map (·.size) = some 1 := by kernel_rfl
/-- Another anchor: the box with other bytes, one more epoch. -/
theorem rg_done {F : Foot} {br g : Nat} {w w3 w4 w5 w6 : World} {o : Option Anc} {es : List Nat} {a : Anc} {ve v' vr : Value} (h : PReg F br w o es) (ha : a.Wf) (hm : mayA a = true) (h3 : Chg F w w3) (hvr : vr = .slice (some ⟨g, 0, none⟩) 128 128) (hg : At w3 g (u8s (layA a)).toArray 5) (hgw : w.heap.size ≤ g)
    (hve : ∀ k, ve.ownBlock = some k → F k ∧ k ≠ br ∧ k < w.heap.size) (h4 : Below w3.heap.size w3 w4) (happ : App w4 w5 ve v') (hb5 : Below 0 w4 w5) (hown : w5.ownsRow 0 22 1 v' (es.length + 1) (u32n es ++ [.int .u32 (a.epoch : Int)]))
    (hA : At w6 br (rgRow vr v') 56) (ho : ∀ k, k ≠ br → w6.heap[k]? = w5.heap[k]?) (hk : ∀ B x, Below B x w5 → B ≤ br → Below B x w6) : RgEnd F br w (some a) (es ++ [a.epoch]) w6 := by
  have hbr := h.lt br h.box
  have s4 := h4.size
  have s3 := h3.size
  have s5 := happ.size
  have h56 := hk br w5 (Below.refl _ _) (Nat.le_refl _)
  have hgl := hg.lt
  have g4 : At w4 g (u8s (layA a)).toArray 5 := hg.below h4 hgl
  have gne : ve.ownBlock ≠ some g := fun e => by have := (hve g e).2.2; omega
  have g6 : At w6 g (u8s (layA a)).toArray 5 := by
    have g5 := at_appd g4 happ gne
    unfold At at *
    rw [ho g (by omega)]; exact g5
  have c46 : Chg F w w6 := by
    have c4 : Chg F w w4 := h3.trans (Chg.of_below (F := F) h4) fun x hx => .inl hx
    have c5 : Chg F w w5 := c4.trans (happ.chg hb5 (F := F) fun k e => (hve k e).1) fun x hx => .inl hx
    exact ⟨h56.os.trans c5.os, h56.tape.trans c5.tape, h56.output.trans c5.output, Nat.le_trans c5.size h56.size, fun k hk2 hn => (ho k (fun e => hn (e ▸ h.box))).trans (c5.block k hk2 hn)⟩
  have vb : ∀ k, v'.ownBlock = some k → (F k ∨ w.heap.size ≤ k) ∧ k ≠ br ∧ k < w5.heap.size := fun k e => by
    have hl := (World.ownsRow.lt hown k e).2
    rcases happ.b with h1 | ⟨q, h1, h2⟩
    · rw [h1] at e
      exact ⟨.inl (hve k e).1, (hve k e).2.1, hl⟩
    · rw [h1] at e
      have : q = k := by simpa using e
      exact ⟨.inr (by omega), by omega, hl⟩
  refine ⟨⟨grow F w w6, ⟨⟨.inl h.box, Nat.lt_of_lt_of_le hbr c46.size⟩, grow_lt, fun b hb => by injection hb with hb; subst hb; exact ⟨ha, hm⟩, vr, v', hA, ?_, ?_, fun k e => ⟨⟨(vb k e).1, Nat.lt_of_lt_of_le (vb k e).2.2 h56.size⟩, (vb k e).2.1⟩⟩, grow_ext⟩, c46⟩
  · have hl128 : (layA a).length = 128 := layA_length ha
    subst hvr
    unfold SlB rawOf
    refine ⟨by simp [u8s_length], some ⟨g, 0, none⟩, 128, by rw [hl128], by rw [hl128]; exact Nat.le_refl _, fun _ => ⟨g, 0, rfl, ⟨⟨.inr hgw, g6.lt⟩, by omega⟩, g6.lt, fun j u hu => ?_⟩⟩
    rw [Nat.zero_add, g6.cell, List.getElem?_toArray]; exact hu
  · rw [List.length_append, List.length_singleton, ← u32n_snoc]
    exact ownsRow_keep hown fun k e => ho k (vb k e).2.1
set_option maxRecDepth 100000 in
set_option maxHeartbeats 4000000 in
theorem pset_good {F : Foot} {br : Nat} {w : World} {o : Option Anc} {es : List Nat} (h : PReg F br w o es) (a : Anc) (ha : a.Wf) (hm : mayA a = true) (hl : es.length ≤ 1000) : Calls Try.prog 18 #[rr br, .agg (ancC a)] w fun e w' => e = .returned (.int .i64 0) ∧ RgEnd F br w (some a) (es ++ [a.epoch]) w' := by
  have hbr := h.lt br h.box
  obtain ⟨vr, ve, h1, _, h3, h4⟩ := h.h
  have hlay := fun wx => play_good a ha hm wx
  have hvb : ∀ k, ve.ownBlock = some k → F k ∧ k ≠ br ∧ k < w.heap.size := fun k e => ⟨(h4 k e).1, (h4 k e).2, h.lt k (h4 k e).1⟩
  obtain ⟨av, cv, e4⟩ := rows_hd h3
  subst e4
  have ll := layA_length ha
  have ms := ancC_size ha
  have c2 := anc2 a
  obtain ⟨M, hM⟩ : ∃ M, M = ancC a := ⟨_, rfl⟩
  rw [← hM] at hlay ms c2 ⊢
  have ax := at_new w M 31
  have bx : Below w.heap.size w (w.alloc (.cells M 31)) := (Below.refl _ w).alloc (Nat.le_refl _) _
  have H := Lib.hid h; have HA := Lib.hid ha; have HM := Lib.hid hm; have R1 := Lib.hid h1; have O1 := Lib.hid h3; have LAY := Lib.hid hlay; have VB := Lib.hid hvb; have LL := Lib.hid ll; have MS := Lib.hid ms; have C2 := Lib.hid c2; have AX := Lib.hid ax; have BX := Lib.hid bx; have BR := Lib.hid hbr
  obtain ⟨n, hn⟩ : ∃ n, n = es.length := ⟨_, rfl⟩
  obtain ⟨ep, hep⟩ : ∃ n, n = a.epoch := ⟨_, rfl⟩
  rw [← hn] at R1 O1 VB hl
  rw [← hep] at C2
  have HN := Lib.hid hn; have HEP := Lib.hid hep
  clear h ha hm h1 h3 h4 hlay hvb ll ms c2 ax bx hM hbr hn hep
  go_enter Try.func18, Try.ntmps18
  go_upto_region 1 with fail
  generalize w.alloc (.cells M 31) = w1 at *
  go_wp2_with (refine wpList_load_all (by rfl) 31 _ (by rfl) w.heap.size (by rfl) _ Try.underlying31 (by rfl) M _ AX.out (by rw [MS.out]; exact infoAncP) ?_)
  refine (LAY.out w1).mono ?_
  rintro e w2 ⟨g, rfl, hg2, hgw, hb2⟩
  rw [LL.out]
  have b2 : Below w.heap.size w w2 := BX.out.trans (hb2.mono BX.out.size)
  have B2 := Lib.hid b2; have G2 := Lib.hid hg2; have GW := Lib.hid (Nat.le_trans BX.out.size hgw); have R2 := Lib.hid (R1.out.below b2 BR.out); have X2 := Lib.hid (AX.out.below hb2 AX.out.lt); have O2 := Lib.hid (ownsRow_below O1.out b2)
  clear b2 hg2 hgw hb2 R1 AX O1
  go_wp2_with (refine Mem.wpList_store_one (by rfl) 27 _ _ (by rfl) (by rfl) br 0 (.slice (some ⟨g, 0, none⟩) 128 128) (by rfl) (by rfl) (by rfl) infoRSl _ 56 R2.out (by simp [rgRow]) ?_; intro w3 ha3 ho3 hk3; have R3 : Hid (At w3 br (rgRow (.slice (some ⟨g, 0, none⟩) 128 128) (.slice av n cv)) 56) := ha3; have HO3 := Lib.hid ho3; have HK3 := Lib.hid hk3; clear ha3 ho3 hk3)
  have gbr : g ≠ br := by have := GW.out; have := BR.out; omega
  have hgB : At w3 g (u8s (layA a)).toArray 5 := at_keep G2.out HO3.out gbr
  have x3 : At w3 w.heap.size M 31 := at_keep X2.out HO3.out (by have := BR.out; omega)
  have o3 : w3.ownsRow 0 22 1 (.slice av n cv) n (u32n es) := ownsRow_keep O2.out fun k e => HO3.out k (VB.out k e).2.1
  have k3 := HK3.out br w2 (Below.refl _ _) (Nat.le_refl _)
  have c3 : Chg F w w3 := ⟨k3.os.trans B2.out.os, k3.tape.trans B2.out.tape, k3.output.trans B2.out.output, Nat.le_trans B2.out.size k3.size, fun k hk hne => (HO3.out k (fun e => hne (e ▸ H.out.box))).trans (B2.out.block k hk)⟩
  have ce : w3.cell? ⟨w.heap.size, 2, none⟩ = some (.int .u32 (ep : Int)) := (x3.cell 2).trans C2.out
  have XL := Lib.hid x3.lt; have G3 := Lib.hid hgB; have O3 := Lib.hid o3; have C3 := Lib.hid c3; have CE := Lib.hid ce
  clear gbr hgB x3 o3 k3 c3 ce R2 G2 X2 O2 B2
  have c1 : w3.drew.cell? ⟨br, 1, none⟩ = some (.slice av n cv) := by rw [(R3.out.below (Below.refl _ _).drew R3.out.lt).cell]; rfl
  have al : Below w3.heap.size w3 (w3.drew.alloc (.cells #[.int .u32 (ep : Int)] 22)) := (Below.refl _ _).drew.alloc (Nat.le_refl _) _
  have c1' : (w3.drew.alloc (.cells #[.int .u32 (ep : Int)] 22)).cell? ⟨br, 1, none⟩ = some (.slice av n cv) := by rw [(R3.out.below al R3.out.lt).cell]; rfl
  have ce4 : (w3.drew.alloc (.cells #[.int .u32 (ep : Int)] 22)).cell? ⟨w.heap.size, 2, none⟩ = some (.int .u32 (ep : Int)) := (al.cell (p := ⟨w.heap.size, 2, none⟩) XL.out).trans CE.out
  have o4 := ownsRow_below O3.out al
  have r4 := R3.out.below al R3.out.lt
  have hrd : RdR (w3.drew.alloc (.cells #[.int .u32 (ep : Int)] 22)) 1 (.slice (some ⟨w3.drew.heap.size, 0, none⟩) 1 1) 1 [.int .u32 (ep : Int)] := rdR_new (w := w3.drew) (e := 22) (C := #[.int .u32 (ep : Int)])
  have A4 := Lib.hid al; have K1 := Lib.hid c1; have K1' := Lib.hid c1'; have CE4 := Lib.hid ce4; have O4 := Lib.hid o4; have R4 := Lib.hid r4; have RD := Lib.hid hrd; have CED : Hid (w3.drew.cell? ⟨w.heap.size, 2, none⟩ = some (.int .u32 (ep : Int))) := CE.out
  clear al c1 c1' ce4 o4 r4 hrd
  refine wp_region_plan_in (fun x => x.cell? ⟨w.heap.size, 2, none⟩ = some (.int .u32 (ep : Int))) (.take 0 (.take 1 (.take 2 (.take 3 (.take 5 (.take 6 (.two 4 7 (.sole 7 (.sole 8 (.take 9 (.take 10 (.sole 11 .done))))) (.sole 4 (.sole 8 (.take 9 (.take 10 (.sole 11 .done))))))))))))   (by kernel_rfl) (by kernel_rfl) (by kernel_rfl) CED.out ?_
  (first | (refine plan_move _ _ (by rfl) (by rfl) (.inl (by rfl)) (by first | (with_reducible exact Mem.ev_const _ _) | (with_reducible exact Mem.ev_zero _ _ _) | (with_reducible (apply Eq.trans (Mem.ev_tmp _ _ _)); simp only [List.getD_cons_succ, List.getD_cons_zero] <;> rfl)) ?_) | (refine plan_move _ _ (by rfl) (by rfl) (.inr (by rfl)) (by first | (with_reducible exact Mem.ev_const _ _) | (with_reducible exact Mem.ev_zero _ _ _) | (with_reducible (apply Eq.trans (Mem.ev_tmp _ _ _)); simp only [List.getD_cons_succ, List.getD_cons_zero] <;> rfl)) ?_) | (refine plan_pick_t _ _ _ _ (by rfl) (by rfl) (by rfl) (by first | (with_reducible exact Mem.ev_const _ _) | (with_reducible exact Mem.ev_zero _ _ _) | (with_reducible (apply Eq.trans (Mem.ev_tmp _ _ _)); simp only [List.getD_cons_succ, List.getD_cons_zero] <;> rfl)) (by first | (with_reducible exact Mem.ev_const _ _) | (with_reducible exact Mem.ev_zero _ _ _) | (with_reducible (apply Eq.trans (Mem.ev_tmp _ _ _)); simp only [List.getD_cons_succ, List.getD_cons_zero] <;> rfl)) ?_) | (refine plan_pick_f _ _ _ _ (by rfl) (by rfl) (by rfl) (by first | (with_reducible exact Mem.ev_const _ _) | (with_reducible exact Mem.ev_zero _ _ _) | (with_reducible (apply Eq.trans (Mem.ev_tmp _ _ _)); simp only [List.getD_cons_succ, List.getD_cons_zero] <;> rfl)) (by first | (with_reducible exact Mem.ev_const _ _) | (with_reducible exact Mem.ev_zero _ _ _) | (with_reducible (apply Eq.trans (Mem.ev_tmp _ _ _)); simp only [List.getD_cons_succ, List.getD_cons_zero] <;> rfl)) ?_))
  (simp only [Act.put, List.setIfInBounds_toArray, List.set_cons_zero, List.set_cons_succ])
  (first | (refine plan_move _ _ (by rfl) (by rfl) (.inl (by rfl)) (by first | (with_reducible exact Mem.ev_const _ _) | (with_reducible exact Mem.ev_zero _ _ _) | (with_reducible (apply Eq.trans (Mem.ev_tmp _ _ _)); simp only [List.getD_cons_succ, List.getD_cons_zero] <;> rfl)) ?_) | (refine plan_move _ _ (by rfl) (by rfl) (.inr (by rfl)) (by first | (with_reducible exact Mem.ev_const _ _) | (with_reducible exact Mem.ev_zero _ _ _) | (with_reducible (apply Eq.trans (Mem.ev_tmp _ _ _)); simp only [List.getD_cons_succ, List.getD_cons_zero] <;> rfl)) ?_) | (refine plan_pick_t _ _ _ _ (by rfl) (by rfl) (by rfl) (by first | (with_reducible exact Mem.ev_const _ _) | (with_reducible exact Mem.ev_zero _ _ _) | (with_reducible (apply Eq.trans (Mem.ev_tmp _ _ _)); simp only [List.getD_cons_succ, List.getD_cons_zero] <;> rfl)) (by first | (with_reducible exact Mem.ev_const _ _) | (with_reducible exact Mem.ev_zero _ _ _) | (with_reducible (apply Eq.trans (Mem.ev_tmp _ _ _)); simp only [List.getD_cons_succ, List.getD_cons_zero] <;> rfl)) ?_) | (refine plan_pick_f _ _ _ _ (by rfl) (by rfl) (by rfl) (by first | (with_reducible exact Mem.ev_const _ _) | (with_reducible exact Mem.ev_zero _ _ _) | (with_reducible (apply Eq.trans (Mem.ev_tmp _ _ _)); simp only [List.getD_cons_succ, List.getD_cons_zero] <;> rfl)) (by first | (with_reducible exact Mem.ev_const _ _) | (with_reducible exact Mem.ev_zero _ _ _) | (with_reducible (apply Eq.trans (Mem.ev_tmp _ _ _)); simp only [List.getD_cons_succ, List.getD_cons_zero] <;> rfl)) ?_))
  (simp only [Act.put, List.setIfInBounds_toArray, List.set_cons_zero, List.set_cons_succ])
  refine plan_nilcheck _ ⟨br, 0, none⟩ (by rfl) (by rfl) (by rfl) (by first | (with_reducible exact Mem.ev_const _ _) | (with_reducible exact Mem.ev_zero _ _ _) | (with_reducible (apply Eq.trans (Mem.ev_tmp _ _ _)); simp only [List.getD_cons_succ, List.getD_cons_zero] <;> rfl)) ?_
  (simp only [Act.put, List.setIfInBounds_toArray, List.set_cons_zero, List.set_cons_succ])
  refine plan_field 56 _ 1 br 0 ⟨br, 1, none⟩ (by rfl) (by rfl) (by rfl) (by first | (with_reducible exact Mem.ev_const _ _) | (with_reducible exact Mem.ev_zero _ _ _) | (with_reducible (apply Eq.trans (Mem.ev_tmp _ _ _)); simp only [List.getD_cons_succ, List.getD_cons_zero] <;> rfl)) (fun wx => by go_simp) ?_
  (simp only [Act.put, List.setIfInBounds_toArray, List.set_cons_zero, List.set_cons_succ])
  refine plan_field 31 _ 2 w.heap.size 0 ⟨w.heap.size, 2, none⟩ (by rfl) (by rfl) (by rfl) (by first | (with_reducible exact Mem.ev_const _ _) | (with_reducible exact Mem.ev_zero _ _ _) | (with_reducible (apply Eq.trans (Mem.ev_tmp _ _ _)); simp only [List.getD_cons_succ, List.getD_cons_zero] <;> rfl)) (fun wx => by go_simp) ?_
  (simp only [Act.put, List.setIfInBounds_toArray, List.set_cons_zero, List.set_cons_succ])
  refine plan_cell 22 _ _ (.int .u32 (ep : Int)) _ (by rfl) (by rfl) (by rfl) (by first | (with_reducible exact Mem.ev_const _ _) | (with_reducible exact Mem.ev_zero _ _ _) | (with_reducible (apply Eq.trans (Mem.ev_tmp _ _ _)); simp only [List.getD_cons_succ, List.getD_cons_zero] <;> rfl)) (fun w' hw' => hw') Try.underlying22 (by rfl) ?_
  (simp only [Act.put, List.setIfInBounds_toArray, List.set_cons_zero, List.set_cons_succ])
  refine plan_two ?_ ?_
  · refine plan_sole_cell 52 _ _ (.slice av n cv) _ (by rfl) (by rfl) (by rfl) (by first | (with_reducible exact Mem.ev_const _ _) | (with_reducible exact Mem.ev_zero _ _ _) | (with_reducible (apply Eq.trans (Mem.ev_tmp _ _ _)); simp only [List.getD_cons_succ, List.getD_cons_zero] <;> rfl)) K1.out Try.underlying52 (by rfl) CED.out ?_
    (simp only [Act.put, List.setIfInBounds_toArray, List.set_cons_zero, List.set_cons_succ])
    refine plan_slice 52 22 1 _ #[.int .u32 (ep : Int)] (by rfl) (by rfl) (by rfl) Try.underlying52 (by kernel_rfl) CE4.out ?_
    (simp only [Act.put, List.setIfInBounds_toArray, List.set_cons_zero, List.set_cons_succ])
    refine plan_append_app _ _ 52 (by rfl) (by rfl) (by rfl) (.slice (some ⟨w3.drew.heap.size, 0, none⟩) 1 1) n 1 1 [.int .u32 (ep : Int)] (.int .u32 0) 4 elemU32 (by rfl) (by decide) (by first | (with_reducible exact Mem.ev_const _ _) | (with_reducible exact Mem.ev_zero _ _ _) | (with_reducible (apply Eq.trans (Mem.ev_tmp _ _ _)); simp only [List.getD_cons_succ, List.getD_cons_zero] <;> rfl)) O4.out (by first | (with_reducible exact Mem.ev_const _ _) | (with_reducible exact Mem.ev_zero _ _ _) | (with_reducible (apply Eq.trans (Mem.ev_tmp _ _ _)); simp only [List.getD_cons_succ, List.getD_cons_zero] <;> rfl)) RD.out (by simp [Value.oneCell']) (by omega) (by omega) (Nat.zero_le _) ?_
    intro v5 w5 ho5 hap5 hb5
    have x5 : w5.cell? ⟨w.heap.size, 2, none⟩ = some (.int .u32 (ep : Int)) := by
      have hlt : w.heap.size < (w3.drew.alloc (.cells #[.int .u32 (ep : Int)] 22)).heap.size := Nat.lt_of_lt_of_le XL.out A4.out.size
      rw [World.cell?_of_block (w := w3.drew.alloc (.cells #[.int .u32 (ep : Int)] 22)) (w' := w5) (a := ⟨w.heap.size, 2, none⟩) (hap5.k w.heap.size hlt (fun e => by have := (VB.out _ e).2.2; omega))]
      exact CE4.out
    have r5 := at_appd R4.out hap5 (fun e => (VB.out _ e).2.1 rfl)
    refine ⟨x5, ?_⟩
    (simp only [Act.put, List.setIfInBounds_toArray, List.set_cons_zero, List.set_cons_succ])
    obtain ⟨a5, c5, e5⟩ := rows_hd ho5
    subst e5
    refine plan_nilcheck _ ⟨br, 0, none⟩ (by rfl) (by rfl) (by rfl) (by first | (with_reducible exact Mem.ev_const _ _) | (with_reducible exact Mem.ev_zero _ _ _) | (with_reducible (apply Eq.trans (Mem.ev_tmp _ _ _)); simp only [List.getD_cons_succ, List.getD_cons_zero] <;> rfl)) ?_
    (simp only [Act.put, List.setIfInBounds_toArray, List.set_cons_zero, List.set_cons_succ])
    refine plan_field 56 _ 1 br 0 ⟨br, 1, none⟩ (by rfl) (by rfl) (by rfl) (by first | (with_reducible exact Mem.ev_const _ _) | (with_reducible exact Mem.ev_zero _ _ _) | (with_reducible (apply Eq.trans (Mem.ev_tmp _ _ _)); simp only [List.getD_cons_succ, List.getD_cons_zero] <;> rfl)) (fun wx => by go_simp) ?_
    (simp only [Act.put, List.setIfInBounds_toArray, List.set_cons_zero, List.set_cons_succ])
    refine plan_store_one 52 _ _ br 1 (.slice a5 (n + 1) c5) _ 56 (by rfl) (by rfl) (by rfl) (by rfl) (by first | (with_reducible exact Mem.ev_const _ _) | (with_reducible exact Mem.ev_zero _ _ _) | (with_reducible (apply Eq.trans (Mem.ev_tmp _ _ _)); simp only [List.getD_cons_succ, List.getD_cons_zero] <;> rfl)) (by first | (with_reducible exact Mem.ev_const _ _) | (with_reducible exact Mem.ev_zero _ _ _) | (with_reducible (apply Eq.trans (Mem.ev_tmp _ _ _)); simp only [List.getD_cons_succ, List.getD_cons_zero] <;> rfl)) (by rfl) infoRU r5 (by simp [rgRow]) ?_ ?_
    · rw [World.cell?_of_block (w := w5) (a := ⟨w.heap.size, 2, none⟩) (heap_setCell_other w5 ⟨br, 1, none⟩ w.heap.size _ (show w.heap.size ≠ br by have := BR.out; omega))]; exact x5
    refine plan_nil ?_
    have fin : RgEnd F br w (some a) (es ++ [a.epoch]) (w5.setCell ⟨br, 1, none⟩ (.slice a5 (n + 1) c5)) :=
      rg_done H.out HA.out HM.out C3.out rfl G3.out GW.out VB.out A4.out hap5 hb5 (by rw [← HN.out, ← HEP.out]; exact ho5) (r5.set 1 _) (fun k hk => heap_setCell_other w5 _ k _ hk) (fun B x hb hB => hb.setCell hB _)
    have FIN := Lib.hid fin
    clear fin x5 r5 ho5 hap5 hb5
    go_wp2_with fail
    go_ret
    exact ⟨rfl, FIN.out⟩
  · refine plan_slice 52 22 1 _ #[.int .u32 (ep : Int)] (by rfl) (by rfl) (by rfl) Try.underlying52 (by kernel_rfl) CE4.out ?_
    (simp only [Act.put, List.setIfInBounds_toArray, List.set_cons_zero, List.set_cons_succ])
    refine plan_sole_cell 52 _ _ (.slice av n cv) _ (by rfl) (by rfl) (by rfl) (by first | (with_reducible exact Mem.ev_const _ _) | (with_reducible exact Mem.ev_zero _ _ _) | (with_reducible (apply Eq.trans (Mem.ev_tmp _ _ _)); simp only [List.getD_cons_succ, List.getD_cons_zero] <;> rfl)) K1'.out Try.underlying52 (by rfl) CE4.out ?_
    (simp only [Act.put, List.setIfInBounds_toArray, List.set_cons_zero, List.set_cons_succ])
    refine plan_append_app _ _ 52 (by rfl) (by rfl) (by rfl) (.slice (some ⟨w3.drew.heap.size, 0, none⟩) 1 1) n 1 1 [.int .u32 (ep : Int)] (.int .u32 0) 4 elemU32 (by rfl) (by decide) (by first | (with_reducible exact Mem.ev_const _ _) | (with_reducible exact Mem.ev_zero _ _ _) | (with_reducible (apply Eq.trans (Mem.ev_tmp _ _ _)); simp only [List.getD_cons_succ, List.getD_cons_zero] <;> rfl)) O4.out (by first | (with_reducible exact Mem.ev_const _ _) | (with_reducible exact Mem.ev_zero _ _ _) | (with_reducible (apply Eq.trans (Mem.ev_tmp _ _ _)); simp only [List.getD_cons_succ, List.getD_cons_zero] <;> rfl)) RD.out (by simp [Value.oneCell']) (by omega) (by omega) (Nat.zero_le _) ?_
    intro v5 w5 ho5 hap5 hb5
    have x5 : w5.cell? ⟨w.heap.size, 2, none⟩ = some (.int .u32 (ep : Int)) := by
      have hlt : w.heap.size < (w3.drew.alloc (.cells #[.int .u32 (ep : Int)] 22)).heap.size := Nat.lt_of_lt_of_le XL.out A4.out.size
      rw [World.cell?_of_block (w := w3.drew.alloc (.cells #[.int .u32 (ep : Int)] 22)) (w' := w5) (a := ⟨w.heap.size, 2, none⟩) (hap5.k w.heap.size hlt (fun e => by have := (VB.out _ e).2.2; omega))]
      exact CE4.out
    have r5 := at_appd R4.out hap5 (fun e => (VB.out _ e).2.1 rfl)
    refine ⟨x5, ?_⟩
    (simp only [Act.put, List.setIfInBounds_toArray, List.set_cons_zero, List.set_cons_succ])
    obtain ⟨a5, c5, e5⟩ := rows_hd ho5
    subst e5
    refine plan_nilcheck _ ⟨br, 0, none⟩ (by rfl) (by rfl) (by rfl) (by first | (with_reducible exact Mem.ev_const _ _) | (with_reducible exact Mem.ev_zero _ _ _) | (with_reducible (apply Eq.trans (Mem.ev_tmp _ _ _)); simp only [List.getD_cons_succ, List.getD_cons_zero] <;> rfl)) ?_
    (simp only [Act.put, List.setIfInBounds_toArray, List.set_cons_zero, List.set_cons_succ])
    refine plan_field 56 _ 1 br 0 ⟨br, 1, none⟩ (by rfl) (by rfl) (by rfl) (by first | (with_reducible exact Mem.ev_const _ _) | (with_reducible exact Mem.ev_zero _ _ _) | (with_reducible (apply Eq.trans (Mem.ev_tmp _ _ _)); simp only [List.getD_cons_succ, List.getD_cons_zero] <;> rfl)) (fun wx => by go_simp) ?_
    (simp only [Act.put, List.setIfInBounds_toArray, List.set_cons_zero, List.set_cons_succ])
    refine plan_store_one 52 _ _ br 1 (.slice a5 (n + 1) c5) _ 56 (by rfl) (by rfl) (by rfl) (by rfl) (by first | (with_reducible exact Mem.ev_const _ _) | (with_reducible exact Mem.ev_zero _ _ _) | (with_reducible (apply Eq.trans (Mem.ev_tmp _ _ _)); simp only [List.getD_cons_succ, List.getD_cons_zero] <;> rfl)) (by first | (with_reducible exact Mem.ev_const _ _) | (with_reducible exact Mem.ev_zero _ _ _) | (with_reducible (apply Eq.trans (Mem.ev_tmp _ _ _)); simp only [List.getD_cons_succ, List.getD_cons_zero] <;> rfl)) (by rfl) infoRU r5 (by simp [rgRow]) ?_ ?_
    · rw [World.cell?_of_block (w := w5) (a := ⟨w.heap.size, 2, none⟩) (heap_setCell_other w5 ⟨br, 1, none⟩ w.heap.size _ (show w.heap.size ≠ br by have := BR.out; omega))]; exact x5
    refine plan_nil ?_
    have fin : RgEnd F br w (some a) (es ++ [a.epoch]) (w5.setCell ⟨br, 1, none⟩ (.slice a5 (n + 1) c5)) :=
      rg_done H.out HA.out HM.out C3.out rfl G3.out GW.out VB.out A4.out hap5 hb5 (by rw [← HN.out, ← HEP.out]; exact ho5) (r5.set 1 _) (fun k hk => heap_setCell_other w5 _ k _ hk) (fun B x hb hB => hb.setCell hB _)
    have FIN := Lib.hid fin
    clear fin x5 r5 ho5 hap5 hb5
    go_wp2_with fail
    go_ret
    exact ⟨rfl, FIN.out⟩
set_option maxHeartbeats 1000000 in
theorem pset_bad {F : Foot} {br : Nat} {w : World} {o : Option Anc} {es : List Nat} (h : PReg F br w o es) (a : Anc) (ha : a.Wf) (hm : mayA a = false) : Calls Try.prog 18 #[rr br, .agg (ancC a)] w fun e w' => e = .returned (.int .i64 1) ∧ RgEnd F br w o es w' := by
  have hlay := fun wx => play_bad a ha hm wx
  have ms := ancC_size ha
  obtain ⟨M, hM⟩ : ∃ M, M = ancC a := ⟨_, rfl⟩
  rw [← hM] at hlay ms ⊢
  have H := Lib.hid h; have LAY := Lib.hid hlay; have MS := Lib.hid ms; have AX := Lib.hid (at_new w M 31); have BX : Hid (Below w.heap.size w (w.alloc (.cells M 31))) := (Below.refl _ w).alloc (Nat.le_refl _) _
  clear h ha hm hlay ms hM
  go_enter Try.func18, Try.ntmps18
  go_upto_region 1 with fail
  generalize w.alloc (.cells M 31) = w1 at *
  go_wp2_with (refine wpList_load_all (by rfl) 31 _ (by rfl) w.heap.size (by rfl) _ Try.underlying31 (by rfl) M _ AX.out (by rw [MS.out]; exact infoAncP) ?_)
  refine (LAY.out w1).mono ?_
  rintro e w2 ⟨rfl, hb2⟩
  have B2 := Lib.hid (BX.out.trans (hb2.mono BX.out.size))
  clear hb2
  go_wp2_with fail
  go_ret
  exact ⟨rfl, ⟨F, H.out.below B2.out, fun k hk => .inl hk⟩, Chg.of_below B2.out⟩
end Sha
end Go.Proofs.Ytknaimpnkflfnaa
