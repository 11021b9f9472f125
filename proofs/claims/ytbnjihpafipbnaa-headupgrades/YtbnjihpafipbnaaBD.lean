/- The document's Lay of a head: its walk (written by headlay.py). The document's Parse of a head (written by headparse.py). -/
import Derived.Test.YtbnjihpafipbnaaBC
import Derived.Test.YtbnjihpafipbnaaBB
import Derived.Test.YtbnjihpafipbnaaBA
import Derived.Deep.DeepCutAuto
namespace Go.Proofs.Ytbnjihpafipbnaa
namespace Sha
open Go.RowKit Mem
theorem sl_part {w : World} {b o n : Nat} {C : Array Value} {t : TypeId} {l : List (BitVec 8)} (h : At w b C t) (he : C.extract o (o + n) = (u8s l).toArray) (hl : l.length = n) (hs : o + n ≤ C.size) : Sl w (.slice (some ⟨b, o, none⟩) n n) l :=
  ⟨_, _, by rw [hl], by rw [hl]; exact Nat.le_refl _, fun _ => ⟨b, o, rfl, h.lt, fun i hi => (h.cell _).trans (by
    have e : (C.extract o (o + n))[i]? = (u8s l).toArray[i]? := by rw [he]
    rw [Array.getElem?_extract, if_pos (by rw [hl] at hi; omega)] at e
    rw [e, List.getElem?_toArray, u8s_get _ _ hi])⟩⟩
theorem two_fill {w : World} {L L2 : List (BitVec 8)} {n : Int} {e : Ending} {w' : World} (h : TwoEnd w L n e w') (hL : L = L2) : TwoEnd w L2 n e w' := by subst hL; exact h
set_option maxRecDepth 100000 in
set_option maxHeartbeats 4000000 in
theorem rlay11_two (h : HdV) (hw : h.Wf) (hm : mayH h = true) (hver : h.ver = 2) (w : World) : Calls Try.prog 10 #[.agg (hdC h)] w (TwoEnd w (layH h) 0) := by
  have hmay := fun wx => rmay11_any h hw wx
  rw [hm] at hmay
  obtain ⟨hv0, hv1, hp0, hp1, hr0, hr1, hl⟩ := (mayH_iff h).1 hm
  obtain ⟨M, hM⟩ : ∃ M, M = hdC h := ⟨_, rfl⟩
  have ms : M.size = 84 := by rw [hM]; exact hdC_size hw
  have eS := hd_salt hw; have eK := hd_key hw; have eC := hd_ck hw; have cv := hd_ver h; have cp := hd_pages h; have cr := hd_r hw; have cl := hd_lab hw
  have wS := hw.wr.salt; have wK := hw.wr.key; have wC := hw.wr.ck
  obtain ⟨S, hS⟩ : ∃ S, S = strOfNums (i8s h.lab) := ⟨_, rfl⟩
  rw [← hM] at hmay eS eK eC cv cp cr cl ⊢
  rw [← hS] at cl
  have hA := at_new w M 27
  have hb : Below w.heap.size w (w.alloc (.cells M 27)) := (Below.refl _ _).alloc (Nat.le_refl _) _
  obtain ⟨w1, hw1⟩ : ∃ w1, w1 = w.alloc (.cells M 27) := ⟨_, rfl⟩
  rw [← hw1] at hA hb
  obtain ⟨nv, hnv⟩ : ∃ n, n = h.ver.toNat := ⟨_, rfl⟩
  have cvv := fun wx => conv_iu h.ver (by omega) (by omega) wx
  rw [← hnv] at cvv
  obtain ⟨np, hnp⟩ : ∃ n, n = h.pages.toNat := ⟨_, rfl⟩
  have cvp := fun wx => conv_iu h.pages (by omega) (by omega) wx
  rw [← hnp] at cvp
  obtain ⟨nr, hnr⟩ : ∃ n, n = h.wr.r.toNat := ⟨_, rfl⟩
  have cvr := fun wx => conv_iu h.wr.r (by omega) (by omega) wx
  rw [← hnr] at cvr
  obtain ⟨L1, hL1⟩ : ∃ L, L = carl ++ nbytes nv 1 := ⟨_, rfl⟩
  have ln1 : L1.length = 5 := by rw [hL1, List.length_append, nbytes_length]; rfl
  obtain ⟨L2, hL2⟩ : ∃ L, L = L1 ++ nbytes np 2 := ⟨_, rfl⟩
  have ln2 : L2.length = 7 := by rw [hL2, List.length_append, nbytes_length, ln1]
  obtain ⟨L3, hL3⟩ : ∃ L, L = L2 ++ h.wr.salt := ⟨_, rfl⟩
  have ln3 : L3.length = 23 := by rw [hL3, List.length_append, wS, ln2]
  obtain ⟨L4, hL4⟩ : ∃ L, L = L3 ++ nbytes nr 4 := ⟨_, rfl⟩
  have ln4 : L4.length = 27 := by rw [hL4, List.length_append, nbytes_length, ln3]
  obtain ⟨L5, hL5⟩ : ∃ L, L = L4 ++ h.wr.key := ⟨_, rfl⟩
  have ln5 : L5.length = 59 := by rw [hL5, List.length_append, wK, ln4]
  obtain ⟨L6, hL6⟩ : ∃ L, L = L5 ++ h.wr.ck := ⟨_, rfl⟩
  have ln6 : L6.length = 91 := by rw [hL6, List.length_append, wC, ln5]
  obtain ⟨L7, hL7⟩ : ∃ L, L = L6 ++ textB h.lab 24 := ⟨_, rfl⟩
  have ln7 : L7.length = 116 := by rw [hL7, List.length_append, textB_length _ _ hl, ln6]
  have e7 : L7 = hdB1 h := by rw [hL7, hL6, hL5, hL4, hL3, hL2, hL1, hnv, hnp, hnr]; simp only [hdB1, List.append_assoc]
  obtain ⟨L8, hL8⟩ : ∃ L, L = L7 ++ nbytes (sumN L7) 4 := ⟨_, rfl⟩
  have ln8 : L8.length = 120 := by rw [hL8, List.length_append, nbytes_length, ln7]
  have hlay : fillB L8 256 = layH h := by
    unfold fillB layH hdB2
    rw [if_pos hver, hL8, e7]
  have nu1 : ∀ v wx, Sl wx v carl → Calls Try.prog 23 #[v, .int .u64 (nv : Int), .int .i64 1] wx (PadEnd wx L1) := fun v wx hs => by rw [hL1]; exact rnumput_own _ nv 1 v wx (by omega) (by decide) hs
  have nu2 : ∀ v wx, Sl wx v L1 → Calls Try.prog 23 #[v, .int .u64 (np : Int), .int .i64 2] wx (PadEnd wx L2) := fun v wx hs => by rw [hL2]; exact rnumput_own _ np 2 v wx (by omega) (by rw [ln1]; decide) hs
  have nu4 : ∀ v wx, Sl wx v L3 → Calls Try.prog 23 #[v, .int .u64 (nr : Int), .int .i64 4] wx (PadEnd wx L4) := fun v wx hs => by rw [hL4]; exact rnumput_own _ nr 4 v wx (by omega) (by rw [ln3]; decide) hs
  have tx : ∀ v u wx, Sl wx v L6 → Sl wx u h.lab → Calls Try.prog 24 #[v, u, .int .i64 24] wx (TwoEnd wx L7 0) := fun v u wx hs hu => by rw [hL7]; exact rtextput_good L6 h.lab 24 v u wx hs hu (by rw [ln6]; decide) (by decide) (by decide) hl
  have su : ∀ v wx, Sl wx v L7 → Calls Try.prog 18 #[v] wx fun e w' => e = .returned (.int .u32 ((sumN L7 : Nat) : Int)) ∧ wx = w' := fun v wx hs => rsum11_any L7 v wx (by rw [ln7]; decide) hs
  have nu8 : ∀ v wx, Sl wx v L7 → Calls Try.prog 23 #[v, .int .u64 ((sumN L7 : Nat) : Int), .int .i64 4] wx (PadEnd wx L8) := fun v wx hs => by rw [hL8]; exact rnumput_own _ (sumN L7) 4 v wx (Nat.lt_trans (sumN_lt _) (by decide)) (by rw [ln7]; decide) hs
  have cvs := fun wx => conv_uu (sumN L7) (sumN_lt _) wx
  have fi : ∀ v wx, Sl wx v L8 → Calls Try.prog 25 #[v, .int .i64 256] wx (TwoEnd wx (layH h) 0) := fun v wx hs => by rw [← hlay]; exact rfill_good L8 256 v wx hs (by rw [ln8]; decide) (by decide)
  obtain ⟨q, hq⟩ : ∃ q, q = sumN L7 := ⟨_, rfl⟩
  rw [← hq] at su nu8 cvs
  have MAY := Lib.hid hmay; have AX := Lib.hid hA; have HB := Lib.hid hb; have MS := Lib.hid ms; have NU1 := Lib.hid nu1; have NU2 := Lib.hid nu2; have NU4 := Lib.hid nu4; have TX := Lib.hid tx; have SU := Lib.hid su; have NU8 := Lib.hid nu8; have CVS := Lib.hid cvs; have FI := Lib.hid fi; have CVV := Lib.hid cvv; have CVP := Lib.hid cvp; have CVR := Lib.hid cvr
  have ES := Lib.hid eS; have EK := Lib.hid eK; have EC := Lib.hid eC; have LS := Lib.hid wS; have LK := Lib.hid wK; have LC := Lib.hid wC; have CV := Lib.hid cv; have CP := Lib.hid cp; have CR := Lib.hid cr; have CL := Lib.hid cl; have HS := Lib.hid hS
  have LN2 := Lib.hid ln2; have LN4 := Lib.hid ln4; have LN5 := Lib.hid ln5; have HL3 := Lib.hid hL3; have HL5 := Lib.hid hL5; have HL6 := Lib.hid hL6
  obtain ⟨ver, hvv⟩ : ∃ v, v = h.ver := ⟨_, rfl⟩
  rw [← hvv] at hver CV CVV
  have c0 : w1.cell? ⟨w.heap.size, 0, none⟩ = some (.int .i64 ver) := (AX.out.cell 0).trans CV.out
  clear hmay hA hb ms nu1 nu2 nu4 tx su nu8 cvs fi cvv cvp cvr hM hnv hnp hnr hL1 hL2 hL3 hL4 hL5 hL6 hL7 hL8 ln1 ln2 ln3 ln4 ln5 ln6 ln7 ln8 e7 hlay hw hm hS hv0 hv1 hp0 hp1 hr0 hr1 hl hvv hq eS eK eC cv cp cr cl wS wK wC
  have HVER := Lib.hid hver
  clear hver
  go_enter Try.func10, Try.ntmps10
  go_upto_region 1 with fail
  rw [← hw1]
  clear hw1
  go_wp2_with (refine wpList_load_all (by rfl) 27 _ (by rfl) w.heap.size (by rfl) _ Try.underlying27 (by rfl) M _ AX.out (by rw [MS.out]; exact infoHdR) ?_)
  refine (MAY.out w1).mono ?_
  rintro e w2 ⟨rfl, hb2⟩
  have B2 := Lib.hid hb2
  have c2 : w2.cell? ⟨w.heap.size, 0, none⟩ = some (.int .i64 ver) := (hb2.cell (p := ⟨w.heap.size, 0, none⟩) AX.out.lt).trans c0
  clear c0 hb2 MAY
  go_wp2_with (first
    | (refine wpList_conv_const (by rfl) _ (by rfl) carl 4 (by rfl) (by rfl) (by rfl) ?_; intro w3 hs3 hb3; have S3 := Lib.hid hs3; have B3 : Hid (Below w1.heap.size w1 w3) := Lib.hid (B2.out.trans (hb3.mono B2.out.size)); have c3 : w3.cell? ⟨w.heap.size, 0, none⟩ = some (.int .i64 ver) := (hb3.cell (p := ⟨w.heap.size, 0, none⟩) (Nat.lt_of_lt_of_le AX.out.lt B2.out.size)).trans c2; clear hs3 hb3)
    | (refine wpList_conv (by rfl) _ _ _ _ (.int .u64 (nv : Int)) (by rfl) (by rfl) CVV.out ?_))
  refine (NU1.out _ _ S3.out).mono ?_
  rintro e w4 ⟨v3, rfl, ho, hb⟩
  have S0 : Hid (Sl w4.drew v3 L1) := Lib.hid (ho.below (Below.refl _ _).drew).sl
  have B0 : Hid (Below w1.heap.size w1 w4.drew) := Lib.hid (B3.out.trans (hb.mono B3.out.size)).drew
  clear ho hb c2 c3 B2 B3 S3 CVV NU1
  go_wp2_with fail
  refine wp_region_plan_in (fun x => Below w1.heap.size w1 x) (.take 0 (.take 1 (.take 2 (.take 3 (.take 5 (.take 6 (.take 7 (.sole 4 (.sole 8 (.take 9 .done)))))))))) (by kernel_rfl) (by kernel_rfl) (by kernel_rfl) B0.out ?_
  (first | (refine plan_move _ _ (by rfl) (by rfl) (.inl (by rfl)) (by first | (with_reducible exact Mem.ev_const _ _) | (with_reducible exact Mem.ev_zero _ _ _) | (with_reducible (apply Eq.trans (Mem.ev_tmp _ _ _)); simp only [List.getD_cons_succ, List.getD_cons_zero] <;> rfl)) ?_) | (refine plan_move _ _ (by rfl) (by rfl) (.inr (by rfl)) (by first | (with_reducible exact Mem.ev_const _ _) | (with_reducible exact Mem.ev_zero _ _ _) | (with_reducible (apply Eq.trans (Mem.ev_tmp _ _ _)); simp only [List.getD_cons_succ, List.getD_cons_zero] <;> rfl)) ?_) | (refine plan_pick_t _ _ _ _ (by rfl) (by rfl) (by rfl) (by first | (with_reducible exact Mem.ev_const _ _) | (with_reducible exact Mem.ev_zero _ _ _) | (with_reducible (apply Eq.trans (Mem.ev_tmp _ _ _)); simp only [List.getD_cons_succ, List.getD_cons_zero] <;> rfl)) (by first | (with_reducible exact Mem.ev_const _ _) | (with_reducible exact Mem.ev_zero _ _ _) | (with_reducible (apply Eq.trans (Mem.ev_tmp _ _ _)); simp only [List.getD_cons_succ, List.getD_cons_zero] <;> rfl)) ?_) | (refine plan_pick_f _ _ _ _ (by rfl) (by rfl) (by rfl) (by first | (with_reducible exact Mem.ev_const _ _) | (with_reducible exact Mem.ev_zero _ _ _) | (with_reducible (apply Eq.trans (Mem.ev_tmp _ _ _)); simp only [List.getD_cons_succ, List.getD_cons_zero] <;> rfl)) (by first | (with_reducible exact Mem.ev_const _ _) | (with_reducible exact Mem.ev_zero _ _ _) | (with_reducible (apply Eq.trans (Mem.ev_tmp _ _ _)); simp only [List.getD_cons_succ, List.getD_cons_zero] <;> rfl)) ?_))
  (simp only [Act.put, List.setIfInBounds_toArray, List.set_cons_zero, List.set_cons_succ])
  refine plan_field 27 _ 1 w.heap.size 0 ⟨w.heap.size, 1, none⟩ (by rfl) (by rfl) (by rfl) (by first | (with_reducible exact Mem.ev_const _ _) | (with_reducible exact Mem.ev_zero _ _ _) | (with_reducible (apply Eq.trans (Mem.ev_tmp _ _ _)); simp only [List.getD_cons_succ, List.getD_cons_zero] <;> rfl)) (fun wx => by go_simp) ?_
  (simp only [Act.put, List.setIfInBounds_toArray, List.set_cons_zero, List.set_cons_succ])
  refine plan_cell 3 _ _ (.int .i64 h.pages) _ (by rfl) (by rfl) (by rfl) (by first | (with_reducible exact Mem.ev_const _ _) | (with_reducible exact Mem.ev_zero _ _ _) | (with_reducible (apply Eq.trans (Mem.ev_tmp _ _ _)); simp only [List.getD_cons_succ, List.getD_cons_zero] <;> rfl)) (fun w' hw' => ((AX.out.below hw' AX.out.lt).cell 1).trans CP.out) Try.underlying3 (by rfl) ?_
  (simp only [Act.put, List.setIfInBounds_toArray, List.set_cons_zero, List.set_cons_succ])
  refine plan_conv _ _ _ _ (.int .u64 (np : Int)) (by rfl) (by rfl) (by rfl) (by first | (with_reducible exact Mem.ev_const _ _) | (with_reducible exact Mem.ev_zero _ _ _) | (with_reducible (apply Eq.trans (Mem.ev_tmp _ _ _)); simp only [List.getD_cons_succ, List.getD_cons_zero] <;> rfl)) CVP.out ?_
  (simp only [Act.put, List.setIfInBounds_toArray, List.set_cons_zero, List.set_cons_succ])
  refine plan_field 27 _ 2 w.heap.size 0 ⟨w.heap.size, 2, none⟩ (by rfl) (by rfl) (by rfl) (by first | (with_reducible exact Mem.ev_const _ _) | (with_reducible exact Mem.ev_zero _ _ _) | (with_reducible (apply Eq.trans (Mem.ev_tmp _ _ _)); simp only [List.getD_cons_succ, List.getD_cons_zero] <;> rfl)) (fun wx => by go_simp) ?_
  (simp only [Act.put, List.setIfInBounds_toArray, List.set_cons_zero, List.set_cons_succ])
  refine plan_field 25 _ 0 w.heap.size 2 ⟨w.heap.size, 2, none⟩ (by rfl) (by rfl) (by rfl) (by first | (with_reducible exact Mem.ev_const _ _) | (with_reducible exact Mem.ev_zero _ _ _) | (with_reducible (apply Eq.trans (Mem.ev_tmp _ _ _)); simp only [List.getD_cons_succ, List.getD_cons_zero] <;> rfl)) (fun wx => by go_simp) ?_
  (simp only [Act.put, List.setIfInBounds_toArray, List.set_cons_zero, List.set_cons_succ])
  refine plan_cut 22 _ 16 5 w.heap.size 2 (by rfl) (by rfl) (by rfl) (by first | (with_reducible exact Mem.ev_const _ _) | (with_reducible exact Mem.ev_zero _ _ _) | (with_reducible (apply Eq.trans (Mem.ev_tmp _ _ _)); simp only [List.getD_cons_succ, List.getD_cons_zero] <;> rfl)) Try.underlying22 infoB ?_
  (simp only [Act.put, List.setIfInBounds_toArray, List.set_cons_zero, List.set_cons_succ])
  refine plan_call 23 _ _ _ (by kernel_rfl) (by rfl) (by rfl) (by rfl) (by first | exact Mem.ev_none _ | (simp only [List.map_toArray, List.map_cons, List.map_nil, Mem.ev_tmp, List.getD_cons_succ, List.getD_cons_zero] <;> rfl)) ?_
  refine (NU2.out _ _ S0.out).mono ?_
  rintro e x4 ⟨v4, rfl, ho, hb⟩
  have D4 : Hid (Below w1.heap.size w1 x4) := Lib.hid (B0.out.trans (hb.mono B0.out.size)); have O4 := Lib.hid (own_low ho B0.out.size)
  clear ho hb
  refine ⟨_, rfl, D4.out, ?_⟩
  (simp only [Act.put, List.setIfInBounds_toArray, List.set_cons_zero, List.set_cons_succ])
  refine plan_app_b _ _ (by rfl) (by rfl) (by rfl) w1.heap.size v4 (.slice (some ⟨w.heap.size, 2, none⟩) 16 16) L2 h.wr.salt (by first | (with_reducible exact Mem.ev_const _ _) | (with_reducible exact Mem.ev_zero _ _ _) | (with_reducible (apply Eq.trans (Mem.ev_tmp _ _ _)); simp only [List.getD_cons_succ, List.getD_cons_zero] <;> rfl)) O4.out (by first | (with_reducible exact Mem.ev_const _ _) | (with_reducible exact Mem.ev_zero _ _ _) | (with_reducible (apply Eq.trans (Mem.ev_tmp _ _ _)); simp only [List.getD_cons_succ, List.getD_cons_zero] <;> rfl)) (sl_part (AX.out.below D4.out AX.out.lt) ES.out LS.out (by rw [MS.out]; decide)) (by rw [LN2.out, LS.out]; decide) D4.out.size ?_
  intro v9 x9 ho hk hb
  have D9 : Hid (Below w1.heap.size w1 x9) := Lib.hid (D4.out.trans hb); have O9 := Lib.hid ho
  clear ho hk hb
  refine ⟨D9.out, ?_⟩
  (simp only [Act.put, List.setIfInBounds_toArray, List.set_cons_zero, List.set_cons_succ])
  (first | (refine plan_move _ _ (by rfl) (by rfl) (.inl (by rfl)) (by first | (with_reducible exact Mem.ev_const _ _) | (with_reducible exact Mem.ev_zero _ _ _) | (with_reducible (apply Eq.trans (Mem.ev_tmp _ _ _)); simp only [List.getD_cons_succ, List.getD_cons_zero] <;> rfl)) ?_) | (refine plan_move _ _ (by rfl) (by rfl) (.inr (by rfl)) (by first | (with_reducible exact Mem.ev_const _ _) | (with_reducible exact Mem.ev_zero _ _ _) | (with_reducible (apply Eq.trans (Mem.ev_tmp _ _ _)); simp only [List.getD_cons_succ, List.getD_cons_zero] <;> rfl)) ?_) | (refine plan_pick_t _ _ _ _ (by rfl) (by rfl) (by rfl) (by first | (with_reducible exact Mem.ev_const _ _) | (with_reducible exact Mem.ev_zero _ _ _) | (with_reducible (apply Eq.trans (Mem.ev_tmp _ _ _)); simp only [List.getD_cons_succ, List.getD_cons_zero] <;> rfl)) (by first | (with_reducible exact Mem.ev_const _ _) | (with_reducible exact Mem.ev_zero _ _ _) | (with_reducible (apply Eq.trans (Mem.ev_tmp _ _ _)); simp only [List.getD_cons_succ, List.getD_cons_zero] <;> rfl)) ?_) | (refine plan_pick_f _ _ _ _ (by rfl) (by rfl) (by rfl) (by first | (with_reducible exact Mem.ev_const _ _) | (with_reducible exact Mem.ev_zero _ _ _) | (with_reducible (apply Eq.trans (Mem.ev_tmp _ _ _)); simp only [List.getD_cons_succ, List.getD_cons_zero] <;> rfl)) (by first | (with_reducible exact Mem.ev_const _ _) | (with_reducible exact Mem.ev_zero _ _ _) | (with_reducible (apply Eq.trans (Mem.ev_tmp _ _ _)); simp only [List.getD_cons_succ, List.getD_cons_zero] <;> rfl)) ?_))
  (simp only [Act.put, List.setIfInBounds_toArray, List.set_cons_zero, List.set_cons_succ])
  refine plan_nil ?_
  clear B0 S0 O4 D4
  rw [← HL3.out] at O9
  have S0 : Hid (Sl x9.drew v9 L3) := Lib.hid (O9.out.below (Below.refl _ _).drew).sl
  have B0 : Hid (Below w1.heap.size w1 x9.drew) := Lib.hid D9.out.drew
  clear O9 D9
  generalize x9 = y4 at *
  generalize v9 = u4 at *
  go_wp2_with fail
  refine wp_region_plan_in (fun x => Below w1.heap.size w1 x) (.take 0 (.take 1 (.take 2 (.take 3 (.take 4 (.take 6 (.take 7 (.take 8 (.sole 5 (.sole 9 (.take 10 .done))))))))))) (by kernel_rfl) (by kernel_rfl) (by kernel_rfl) B0.out ?_
  (first | (refine plan_move _ _ (by rfl) (by rfl) (.inl (by rfl)) (by first | (with_reducible exact Mem.ev_const _ _) | (with_reducible exact Mem.ev_zero _ _ _) | (with_reducible (apply Eq.trans (Mem.ev_tmp _ _ _)); simp only [List.getD_cons_succ, List.getD_cons_zero] <;> rfl)) ?_) | (refine plan_move _ _ (by rfl) (by rfl) (.inr (by rfl)) (by first | (with_reducible exact Mem.ev_const _ _) | (with_reducible exact Mem.ev_zero _ _ _) | (with_reducible (apply Eq.trans (Mem.ev_tmp _ _ _)); simp only [List.getD_cons_succ, List.getD_cons_zero] <;> rfl)) ?_) | (refine plan_pick_t _ _ _ _ (by rfl) (by rfl) (by rfl) (by first | (with_reducible exact Mem.ev_const _ _) | (with_reducible exact Mem.ev_zero _ _ _) | (with_reducible (apply Eq.trans (Mem.ev_tmp _ _ _)); simp only [List.getD_cons_succ, List.getD_cons_zero] <;> rfl)) (by first | (with_reducible exact Mem.ev_const _ _) | (with_reducible exact Mem.ev_zero _ _ _) | (with_reducible (apply Eq.trans (Mem.ev_tmp _ _ _)); simp only [List.getD_cons_succ, List.getD_cons_zero] <;> rfl)) ?_) | (refine plan_pick_f _ _ _ _ (by rfl) (by rfl) (by rfl) (by first | (with_reducible exact Mem.ev_const _ _) | (with_reducible exact Mem.ev_zero _ _ _) | (with_reducible (apply Eq.trans (Mem.ev_tmp _ _ _)); simp only [List.getD_cons_succ, List.getD_cons_zero] <;> rfl)) (by first | (with_reducible exact Mem.ev_const _ _) | (with_reducible exact Mem.ev_zero _ _ _) | (with_reducible (apply Eq.trans (Mem.ev_tmp _ _ _)); simp only [List.getD_cons_succ, List.getD_cons_zero] <;> rfl)) ?_))
  (simp only [Act.put, List.setIfInBounds_toArray, List.set_cons_zero, List.set_cons_succ])
  refine plan_field 27 _ 2 w.heap.size 0 ⟨w.heap.size, 2, none⟩ (by rfl) (by rfl) (by rfl) (by first | (with_reducible exact Mem.ev_const _ _) | (with_reducible exact Mem.ev_zero _ _ _) | (with_reducible (apply Eq.trans (Mem.ev_tmp _ _ _)); simp only [List.getD_cons_succ, List.getD_cons_zero] <;> rfl)) (fun wx => by go_simp) ?_
  (simp only [Act.put, List.setIfInBounds_toArray, List.set_cons_zero, List.set_cons_succ])
  refine plan_field 25 _ 1 w.heap.size 2 ⟨w.heap.size, 18, none⟩ (by rfl) (by rfl) (by rfl) (by first | (with_reducible exact Mem.ev_const _ _) | (with_reducible exact Mem.ev_zero _ _ _) | (with_reducible (apply Eq.trans (Mem.ev_tmp _ _ _)); simp only [List.getD_cons_succ, List.getD_cons_zero] <;> rfl)) (fun wx => by go_simp) ?_
  (simp only [Act.put, List.setIfInBounds_toArray, List.set_cons_zero, List.set_cons_succ])
  refine plan_cell 3 _ _ (.int .i64 h.wr.r) _ (by rfl) (by rfl) (by rfl) (by first | (with_reducible exact Mem.ev_const _ _) | (with_reducible exact Mem.ev_zero _ _ _) | (with_reducible (apply Eq.trans (Mem.ev_tmp _ _ _)); simp only [List.getD_cons_succ, List.getD_cons_zero] <;> rfl)) (fun w' hw' => ((AX.out.below hw' AX.out.lt).cell 18).trans CR.out) Try.underlying3 (by rfl) ?_
  (simp only [Act.put, List.setIfInBounds_toArray, List.set_cons_zero, List.set_cons_succ])
  refine plan_conv _ _ _ _ (.int .u64 (nr : Int)) (by rfl) (by rfl) (by rfl) (by first | (with_reducible exact Mem.ev_const _ _) | (with_reducible exact Mem.ev_zero _ _ _) | (with_reducible (apply Eq.trans (Mem.ev_tmp _ _ _)); simp only [List.getD_cons_succ, List.getD_cons_zero] <;> rfl)) CVR.out ?_
  (simp only [Act.put, List.setIfInBounds_toArray, List.set_cons_zero, List.set_cons_succ])
  refine plan_field 27 _ 2 w.heap.size 0 ⟨w.heap.size, 2, none⟩ (by rfl) (by rfl) (by rfl) (by first | (with_reducible exact Mem.ev_const _ _) | (with_reducible exact Mem.ev_zero _ _ _) | (with_reducible (apply Eq.trans (Mem.ev_tmp _ _ _)); simp only [List.getD_cons_succ, List.getD_cons_zero] <;> rfl)) (fun wx => by go_simp) ?_
  (simp only [Act.put, List.setIfInBounds_toArray, List.set_cons_zero, List.set_cons_succ])
  refine plan_field 25 _ 2 w.heap.size 2 ⟨w.heap.size, 19, none⟩ (by rfl) (by rfl) (by rfl) (by first | (with_reducible exact Mem.ev_const _ _) | (with_reducible exact Mem.ev_zero _ _ _) | (with_reducible (apply Eq.trans (Mem.ev_tmp _ _ _)); simp only [List.getD_cons_succ, List.getD_cons_zero] <;> rfl)) (fun wx => by go_simp) ?_
  (simp only [Act.put, List.setIfInBounds_toArray, List.set_cons_zero, List.set_cons_succ])
  refine plan_cut 23 _ 32 5 w.heap.size 19 (by rfl) (by rfl) (by rfl) (by first | (with_reducible exact Mem.ev_const _ _) | (with_reducible exact Mem.ev_zero _ _ _) | (with_reducible (apply Eq.trans (Mem.ev_tmp _ _ _)); simp only [List.getD_cons_succ, List.getD_cons_zero] <;> rfl)) Try.underlying23 infoB ?_
  (simp only [Act.put, List.setIfInBounds_toArray, List.set_cons_zero, List.set_cons_succ])
  refine plan_call 23 _ _ _ (by kernel_rfl) (by rfl) (by rfl) (by rfl) (by first | exact Mem.ev_none _ | (simp only [List.map_toArray, List.map_cons, List.map_nil, Mem.ev_tmp, List.getD_cons_succ, List.getD_cons_zero] <;> rfl)) ?_
  refine (NU4.out _ _ S0.out).mono ?_
  rintro e x5 ⟨v5, rfl, ho, hb⟩
  have D5 : Hid (Below w1.heap.size w1 x5) := Lib.hid (B0.out.trans (hb.mono B0.out.size)); have O5 := Lib.hid (own_low ho B0.out.size)
  clear ho hb
  refine ⟨_, rfl, D5.out, ?_⟩
  (simp only [Act.put, List.setIfInBounds_toArray, List.set_cons_zero, List.set_cons_succ])
  refine plan_app_b _ _ (by rfl) (by rfl) (by rfl) w1.heap.size v5 (.slice (some ⟨w.heap.size, 19, none⟩) 32 32) L4 h.wr.key (by first | (with_reducible exact Mem.ev_const _ _) | (with_reducible exact Mem.ev_zero _ _ _) | (with_reducible (apply Eq.trans (Mem.ev_tmp _ _ _)); simp only [List.getD_cons_succ, List.getD_cons_zero] <;> rfl)) O5.out (by first | (with_reducible exact Mem.ev_const _ _) | (with_reducible exact Mem.ev_zero _ _ _) | (with_reducible (apply Eq.trans (Mem.ev_tmp _ _ _)); simp only [List.getD_cons_succ, List.getD_cons_zero] <;> rfl)) (sl_part (AX.out.below D5.out AX.out.lt) EK.out LK.out (by rw [MS.out]; decide)) (by rw [LN4.out, LK.out]; decide) D5.out.size ?_
  intro v9 x9 ho hk hb
  have D9 : Hid (Below w1.heap.size w1 x9) := Lib.hid (D5.out.trans hb); have O9 := Lib.hid ho
  clear ho hk hb
  refine ⟨D9.out, ?_⟩
  (simp only [Act.put, List.setIfInBounds_toArray, List.set_cons_zero, List.set_cons_succ])
  (first | (refine plan_move _ _ (by rfl) (by rfl) (.inl (by rfl)) (by first | (with_reducible exact Mem.ev_const _ _) | (with_reducible exact Mem.ev_zero _ _ _) | (with_reducible (apply Eq.trans (Mem.ev_tmp _ _ _)); simp only [List.getD_cons_succ, List.getD_cons_zero] <;> rfl)) ?_) | (refine plan_move _ _ (by rfl) (by rfl) (.inr (by rfl)) (by first | (with_reducible exact Mem.ev_const _ _) | (with_reducible exact Mem.ev_zero _ _ _) | (with_reducible (apply Eq.trans (Mem.ev_tmp _ _ _)); simp only [List.getD_cons_succ, List.getD_cons_zero] <;> rfl)) ?_) | (refine plan_pick_t _ _ _ _ (by rfl) (by rfl) (by rfl) (by first | (with_reducible exact Mem.ev_const _ _) | (with_reducible exact Mem.ev_zero _ _ _) | (with_reducible (apply Eq.trans (Mem.ev_tmp _ _ _)); simp only [List.getD_cons_succ, List.getD_cons_zero] <;> rfl)) (by first | (with_reducible exact Mem.ev_const _ _) | (with_reducible exact Mem.ev_zero _ _ _) | (with_reducible (apply Eq.trans (Mem.ev_tmp _ _ _)); simp only [List.getD_cons_succ, List.getD_cons_zero] <;> rfl)) ?_) | (refine plan_pick_f _ _ _ _ (by rfl) (by rfl) (by rfl) (by first | (with_reducible exact Mem.ev_const _ _) | (with_reducible exact Mem.ev_zero _ _ _) | (with_reducible (apply Eq.trans (Mem.ev_tmp _ _ _)); simp only [List.getD_cons_succ, List.getD_cons_zero] <;> rfl)) (by first | (with_reducible exact Mem.ev_const _ _) | (with_reducible exact Mem.ev_zero _ _ _) | (with_reducible (apply Eq.trans (Mem.ev_tmp _ _ _)); simp only [List.getD_cons_succ, List.getD_cons_zero] <;> rfl)) ?_))
  (simp only [Act.put, List.setIfInBounds_toArray, List.set_cons_zero, List.set_cons_succ])
  refine plan_nil ?_
  clear B0 S0 O5 D5
  rw [← HL5.out] at O9
  have c83 := ((AX.out.below D9.out AX.out.lt).cell 83).trans CL.out
  go_wp2_with (first
    | (refine wpList_slice_arr (by rfl) 23 _ (by rfl) 32 5 w.heap.size 51 (by rfl) Try.underlying23 infoB ?_)
    | (at_builtin; refine wpList_append_bytes (by rfl) _ _ (by rfl) w1.heap.size v9 (.slice (some ⟨w.heap.size, 51, none⟩) 32 32) L5 h.wr.ck (by rfl) O9.out (by rfl) (sl_part (AX.out.below D9.out AX.out.lt) EC.out LC.out (by rw [MS.out]; decide)) (by rw [LN5.out, LC.out]; decide) D9.out.size ?_; intro v6 w6 ho6 _ hb6; have D6 : Hid (Below w1.heap.size w1 w6) := Lib.hid (D9.out.trans hb6); have S6 : Hid (Sl w6 v6 L6) := (by rw [HL6.out]; exact ho6.sl); clear c83; have c83 := ((AX.out.below D6.out AX.out.lt).cell 83).trans CL.out; clear ho6 hb6)
    | (refine wpList_conv_str (by rfl) _ (by rfl) h.lab S HS.out (by rfl) ?_; intro b7 c7 w7 hs7 hb7; have T7 := Lib.hid hs7; have S7 : Hid (Sl w7 v6 L6) := Lib.hid (S6.out.below hb7); have D7 : Hid (Below w1.heap.size w1 w7) := Lib.hid (D6.out.trans (hb7.mono D6.out.size)); clear hs7 hb7 c83))
  refine (TX.out _ _ _ S7.out T7.out).mono ?_
  rintro e w8 ⟨v8, rfl, ho, hb⟩
  have S8 := Lib.hid ho
  have D8 : Hid (Below w1.heap.size w1 w8) := Lib.hid (D7.out.trans (hb.mono D7.out.size))
  have c8 := ((AX.out.below D8.out AX.out.lt).cell 0).trans CV.out
  clear ho hb
  have hver := HVER.out
  subst hver
  go_wp2_with fail
  refine (SU.out _ _ S8.out).mono ?_
  rintro e w' ⟨rfl, rfl⟩
  go_wp2_with (refine wpList_conv (by rfl) _ _ _ _ (.int .u64 (q : Int)) (by rfl) (by rfl) CVS.out ?_)
  refine (NU8.out _ _ S8.out).mono ?_
  rintro e w9 ⟨v10, rfl, ho, hb⟩
  have SQ := Lib.hid ho.sl
  have DQ : Hid (Below w1.heap.size w1 w9) := Lib.hid (D8.out.trans (hb.mono D8.out.size))
  clear ho hb
  go_wp2_with fail
  refine (FI.out _ _ SQ.out).mono ?_
  rintro e w11 ⟨v11, rfl, ho, hb⟩
  have SR := Lib.hid ho
  have DR : Hid (Below w.heap.size w w11) := Lib.hid (HB.out.trans ((DQ.out.trans (hb.mono DQ.out.size)).mono HB.out.size))
  clear ho hb
  go_wp2_with fail
  go_ret2
  exact ⟨v11, rfl, SR.out, DR.out⟩
set_option maxRecDepth 100000 in
set_option maxHeartbeats 4000000 in
theorem rlay11_one (h : HdV) (hw : h.Wf) (hm : mayH h = true) (hver : ¬ h.ver = 2) (w : World) : Calls Try.prog 10 #[.agg (hdC h)] w (TwoEnd w (layH h) 0) := by
  have hmay := fun wx => rmay11_any h hw wx
  rw [hm] at hmay
  obtain ⟨hv0, hv1, hp0, hp1, hr0, hr1, hl⟩ := (mayH_iff h).1 hm
  obtain ⟨M, hM⟩ : ∃ M, M = hdC h := ⟨_, rfl⟩
  have ms : M.size = 84 := by rw [hM]; exact hdC_size hw
  have eS := hd_salt hw; have eK := hd_key hw; have eC := hd_ck hw; have cv := hd_ver h; have cp := hd_pages h; have cr := hd_r hw; have cl := hd_lab hw
  have wS := hw.wr.salt; have wK := hw.wr.key; have wC := hw.wr.ck
  obtain ⟨S, hS⟩ : ∃ S, S = strOfNums (i8s h.lab) := ⟨_, rfl⟩
  rw [← hM] at hmay eS eK eC cv cp cr cl ⊢
  rw [← hS] at cl
  have hA := at_new w M 27
  have hb : Below w.heap.size w (w.alloc (.cells M 27)) := (Below.refl _ _).alloc (Nat.le_refl _) _
  obtain ⟨w1, hw1⟩ : ∃ w1, w1 = w.alloc (.cells M 27) := ⟨_, rfl⟩
  rw [← hw1] at hA hb
  obtain ⟨nv, hnv⟩ : ∃ n, n = h.ver.toNat := ⟨_, rfl⟩
  have cvv := fun wx => conv_iu h.ver (by omega) (by omega) wx
  rw [← hnv] at cvv
  obtain ⟨np, hnp⟩ : ∃ n, n = h.pages.toNat := ⟨_, rfl⟩
  have cvp := fun wx => conv_iu h.pages (by omega) (by omega) wx
  rw [← hnp] at cvp
  obtain ⟨nr, hnr⟩ : ∃ n, n = h.wr.r.toNat := ⟨_, rfl⟩
  have cvr := fun wx => conv_iu h.wr.r (by omega) (by omega) wx
  rw [← hnr] at cvr
  obtain ⟨L1, hL1⟩ : ∃ L, L = carl ++ nbytes nv 1 := ⟨_, rfl⟩
  have ln1 : L1.length = 5 := by rw [hL1, List.length_append, nbytes_length]; rfl
  obtain ⟨L2, hL2⟩ : ∃ L, L = L1 ++ nbytes np 2 := ⟨_, rfl⟩
  have ln2 : L2.length = 7 := by rw [hL2, List.length_append, nbytes_length, ln1]
  obtain ⟨L3, hL3⟩ : ∃ L, L = L2 ++ h.wr.salt := ⟨_, rfl⟩
  have ln3 : L3.length = 23 := by rw [hL3, List.length_append, wS, ln2]
  obtain ⟨L4, hL4⟩ : ∃ L, L = L3 ++ nbytes nr 4 := ⟨_, rfl⟩
  have ln4 : L4.length = 27 := by rw [hL4, List.length_append, nbytes_length, ln3]
  obtain ⟨L5, hL5⟩ : ∃ L, L = L4 ++ h.wr.key := ⟨_, rfl⟩
  have ln5 : L5.length = 59 := by rw [hL5, List.length_append, wK, ln4]
  obtain ⟨L6, hL6⟩ : ∃ L, L = L5 ++ h.wr.ck := ⟨_, rfl⟩
  have ln6 : L6.length = 91 := by rw [hL6, List.length_append, wC, ln5]
  obtain ⟨L7, hL7⟩ : ∃ L, L = L6 ++ textB h.lab 24 := ⟨_, rfl⟩
  have ln7 : L7.length = 116 := by rw [hL7, List.length_append, textB_length _ _ hl, ln6]
  have e7 : L7 = hdB1 h := by rw [hL7, hL6, hL5, hL4, hL3, hL2, hL1, hnv, hnp, hnr]; simp only [hdB1, List.append_assoc]
  obtain ⟨L8, hL8⟩ : ∃ L, L = L7 ++ nbytes (sumN L7) 4 := ⟨_, rfl⟩
  have ln8 : L8.length = 120 := by rw [hL8, List.length_append, nbytes_length, ln7]
  have hlay : fillB L7 256 = layH h := by
    unfold fillB layH hdB2
    rw [if_neg hver, e7]
  have nu1 : ∀ v wx, Sl wx v carl → Calls Try.prog 23 #[v, .int .u64 (nv : Int), .int .i64 1] wx (PadEnd wx L1) := fun v wx hs => by rw [hL1]; exact rnumput_own _ nv 1 v wx (by omega) (by decide) hs
  have nu2 : ∀ v wx, Sl wx v L1 → Calls Try.prog 23 #[v, .int .u64 (np : Int), .int .i64 2] wx (PadEnd wx L2) := fun v wx hs => by rw [hL2]; exact rnumput_own _ np 2 v wx (by omega) (by rw [ln1]; decide) hs
  have nu4 : ∀ v wx, Sl wx v L3 → Calls Try.prog 23 #[v, .int .u64 (nr : Int), .int .i64 4] wx (PadEnd wx L4) := fun v wx hs => by rw [hL4]; exact rnumput_own _ nr 4 v wx (by omega) (by rw [ln3]; decide) hs
  have tx : ∀ v u wx, Sl wx v L6 → Sl wx u h.lab → Calls Try.prog 24 #[v, u, .int .i64 24] wx (TwoEnd wx L7 0) := fun v u wx hs hu => by rw [hL7]; exact rtextput_good L6 h.lab 24 v u wx hs hu (by rw [ln6]; decide) (by decide) (by decide) hl
  have su : ∀ v wx, Sl wx v L7 → Calls Try.prog 18 #[v] wx fun e w' => e = .returned (.int .u32 ((sumN L7 : Nat) : Int)) ∧ wx = w' := fun v wx hs => rsum11_any L7 v wx (by rw [ln7]; decide) hs
  have nu8 : ∀ v wx, Sl wx v L7 → Calls Try.prog 23 #[v, .int .u64 ((sumN L7 : Nat) : Int), .int .i64 4] wx (PadEnd wx L8) := fun v wx hs => by rw [hL8]; exact rnumput_own _ (sumN L7) 4 v wx (Nat.lt_trans (sumN_lt _) (by decide)) (by rw [ln7]; decide) hs
  have cvs := fun wx => conv_uu (sumN L7) (sumN_lt _) wx
  have fi : ∀ v wx, Sl wx v L7 → Calls Try.prog 25 #[v, .int .i64 256] wx (TwoEnd wx (layH h) 0) := fun v wx hs => by rw [← hlay]; exact rfill_good L7 256 v wx hs (by rw [ln7]; decide) (by decide)
  obtain ⟨q, hq⟩ : ∃ q, q = sumN L7 := ⟨_, rfl⟩
  rw [← hq] at su nu8 cvs
  have MAY := Lib.hid hmay; have AX := Lib.hid hA; have HB := Lib.hid hb; have MS := Lib.hid ms; have NU1 := Lib.hid nu1; have NU2 := Lib.hid nu2; have NU4 := Lib.hid nu4; have TX := Lib.hid tx; have SU := Lib.hid su; have NU8 := Lib.hid nu8; have CVS := Lib.hid cvs; have FI := Lib.hid fi; have CVV := Lib.hid cvv; have CVP := Lib.hid cvp; have CVR := Lib.hid cvr
  have ES := Lib.hid eS; have EK := Lib.hid eK; have EC := Lib.hid eC; have LS := Lib.hid wS; have LK := Lib.hid wK; have LC := Lib.hid wC; have CV := Lib.hid cv; have CP := Lib.hid cp; have CR := Lib.hid cr; have CL := Lib.hid cl; have HS := Lib.hid hS
  have LN2 := Lib.hid ln2; have LN4 := Lib.hid ln4; have LN5 := Lib.hid ln5; have HL3 := Lib.hid hL3; have HL5 := Lib.hid hL5; have HL6 := Lib.hid hL6
  obtain ⟨ver, hvv⟩ : ∃ v, v = h.ver := ⟨_, rfl⟩
  rw [← hvv] at hver CV CVV
  have c0 : w1.cell? ⟨w.heap.size, 0, none⟩ = some (.int .i64 ver) := (AX.out.cell 0).trans CV.out
  clear hmay hA hb ms nu1 nu2 nu4 tx su nu8 cvs fi cvv cvp cvr hM hnv hnp hnr hL1 hL2 hL3 hL4 hL5 hL6 hL7 hL8 ln1 ln2 ln3 ln4 ln5 ln6 ln7 ln8 e7 hlay hw hm hS hv0 hv1 hp0 hp1 hr0 hr1 hl hvv hq eS eK eC cv cp cr cl wS wK wC
  have HVER := Lib.hid hver
  clear hver
  go_enter Try.func10, Try.ntmps10
  go_upto_region 1 with fail
  rw [← hw1]
  clear hw1
  go_wp2_with (refine wpList_load_all (by rfl) 27 _ (by rfl) w.heap.size (by rfl) _ Try.underlying27 (by rfl) M _ AX.out (by rw [MS.out]; exact infoHdR) ?_)
  refine (MAY.out w1).mono ?_
  rintro e w2 ⟨rfl, hb2⟩
  have B2 := Lib.hid hb2
  have c2 : w2.cell? ⟨w.heap.size, 0, none⟩ = some (.int .i64 ver) := (hb2.cell (p := ⟨w.heap.size, 0, none⟩) AX.out.lt).trans c0
  clear c0 hb2 MAY
  go_wp2_with (first
    | (refine wpList_conv_const (by rfl) _ (by rfl) carl 4 (by rfl) (by rfl) (by rfl) ?_; intro w3 hs3 hb3; have S3 := Lib.hid hs3; have B3 : Hid (Below w1.heap.size w1 w3) := Lib.hid (B2.out.trans (hb3.mono B2.out.size)); have c3 : w3.cell? ⟨w.heap.size, 0, none⟩ = some (.int .i64 ver) := (hb3.cell (p := ⟨w.heap.size, 0, none⟩) (Nat.lt_of_lt_of_le AX.out.lt B2.out.size)).trans c2; clear hs3 hb3)
    | (refine wpList_conv (by rfl) _ _ _ _ (.int .u64 (nv : Int)) (by rfl) (by rfl) CVV.out ?_))
  refine (NU1.out _ _ S3.out).mono ?_
  rintro e w4 ⟨v3, rfl, ho, hb⟩
  have S0 : Hid (Sl w4.drew v3 L1) := Lib.hid (ho.below (Below.refl _ _).drew).sl
  have B0 : Hid (Below w1.heap.size w1 w4.drew) := Lib.hid (B3.out.trans (hb.mono B3.out.size)).drew
  clear ho hb c2 c3 B2 B3 S3 CVV NU1
  go_wp2_with fail
  refine wp_region_plan_in (fun x => Below w1.heap.size w1 x) (.take 0 (.take 1 (.take 2 (.take 3 (.take 5 (.take 6 (.take 7 (.sole 4 (.sole 8 (.take 9 .done)))))))))) (by kernel_rfl) (by kernel_rfl) (by kernel_rfl) B0.out ?_
  (first | (refine plan_move _ _ (by rfl) (by rfl) (.inl (by rfl)) (by first | (with_reducible exact Mem.ev_const _ _) | (with_reducible exact Mem.ev_zero _ _ _) | (with_reducible (apply Eq.trans (Mem.ev_tmp _ _ _)); simp only [List.getD_cons_succ, List.getD_cons_zero] <;> rfl)) ?_) | (refine plan_move _ _ (by rfl) (by rfl) (.inr (by rfl)) (by first | (with_reducible exact Mem.ev_const _ _) | (with_reducible exact Mem.ev_zero _ _ _) | (with_reducible (apply Eq.trans (Mem.ev_tmp _ _ _)); simp only [List.getD_cons_succ, List.getD_cons_zero] <;> rfl)) ?_) | (refine plan_pick_t _ _ _ _ (by rfl) (by rfl) (by rfl) (by first | (with_reducible exact Mem.ev_const _ _) | (with_reducible exact Mem.ev_zero _ _ _) | (with_reducible (apply Eq.trans (Mem.ev_tmp _ _ _)); simp only [List.getD_cons_succ, List.getD_cons_zero] <;> rfl)) (by first | (with_reducible exact Mem.ev_const _ _) | (with_reducible exact Mem.ev_zero _ _ _) | (with_reducible (apply Eq.trans (Mem.ev_tmp _ _ _)); simp only [List.getD_cons_succ, List.getD_cons_zero] <;> rfl)) ?_) | (refine plan_pick_f _ _ _ _ (by rfl) (by rfl) (by rfl) (by first | (with_reducible exact Mem.ev_const _ _) | (with_reducible exact Mem.ev_zero _ _ _) | (with_reducible (apply Eq.trans (Mem.ev_tmp _ _ _)); simp only [List.getD_cons_succ, List.getD_cons_zero] <;> rfl)) (by first | (with_reducible exact Mem.ev_const _ _) | (with_reducible exact Mem.ev_zero _ _ _) | (with_reducible (apply Eq.trans (Mem.ev_tmp _ _ _)); simp only [List.getD_cons_succ, List.getD_cons_zero] <;> rfl)) ?_))
  (simp only [Act.put, List.setIfInBounds_toArray, List.set_cons_zero, List.set_cons_succ])
  refine plan_field 27 _ 1 w.heap.size 0 ⟨w.heap.size, 1, none⟩ (by rfl) (by rfl) (by rfl) (by first | (with_reducible exact Mem.ev_const _ _) | (with_reducible exact Mem.ev_zero _ _ _) | (with_reducible (apply Eq.trans (Mem.ev_tmp _ _ _)); simp only [List.getD_cons_succ, List.getD_cons_zero] <;> rfl)) (fun wx => by go_simp) ?_
  (simp only [Act.put, List.setIfInBounds_toArray, List.set_cons_zero, List.set_cons_succ])
  refine plan_cell 3 _ _ (.int .i64 h.pages) _ (by rfl) (by rfl) (by rfl) (by first | (with_reducible exact Mem.ev_const _ _) | (with_reducible exact Mem.ev_zero _ _ _) | (with_reducible (apply Eq.trans (Mem.ev_tmp _ _ _)); simp only [List.getD_cons_succ, List.getD_cons_zero] <;> rfl)) (fun w' hw' => ((AX.out.below hw' AX.out.lt).cell 1).trans CP.out) Try.underlying3 (by rfl) ?_
  (simp only [Act.put, List.setIfInBounds_toArray, List.set_cons_zero, List.set_cons_succ])
  refine plan_conv _ _ _ _ (.int .u64 (np : Int)) (by rfl) (by rfl) (by rfl) (by first | (with_reducible exact Mem.ev_const _ _) | (with_reducible exact Mem.ev_zero _ _ _) | (with_reducible (apply Eq.trans (Mem.ev_tmp _ _ _)); simp only [List.getD_cons_succ, List.getD_cons_zero] <;> rfl)) CVP.out ?_
  (simp only [Act.put, List.setIfInBounds_toArray, List.set_cons_zero, List.set_cons_succ])
  refine plan_field 27 _ 2 w.heap.size 0 ⟨w.heap.size, 2, none⟩ (by rfl) (by rfl) (by rfl) (by first | (with_reducible exact Mem.ev_const _ _) | (with_reducible exact Mem.ev_zero _ _ _) | (with_reducible (apply Eq.trans (Mem.ev_tmp _ _ _)); simp only [List.getD_cons_succ, List.getD_cons_zero] <;> rfl)) (fun wx => by go_simp) ?_
  (simp only [Act.put, List.setIfInBounds_toArray, List.set_cons_zero, List.set_cons_succ])
  refine plan_field 25 _ 0 w.heap.size 2 ⟨w.heap.size, 2, none⟩ (by rfl) (by rfl) (by rfl) (by first | (with_reducible exact Mem.ev_const _ _) | (with_reducible exact Mem.ev_zero _ _ _) | (with_reducible (apply Eq.trans (Mem.ev_tmp _ _ _)); simp only [List.getD_cons_succ, List.getD_cons_zero] <;> rfl)) (fun wx => by go_simp) ?_
  (simp only [Act.put, List.setIfInBounds_toArray, List.set_cons_zero, List.set_cons_succ])
  refine plan_cut 22 _ 16 5 w.heap.size 2 (by rfl) (by rfl) (by rfl) (by first | (with_reducible exact Mem.ev_const _ _) | (with_reducible exact Mem.ev_zero _ _ _) | (with_reducible (apply Eq.trans (Mem.ev_tmp _ _ _)); simp only [List.getD_cons_succ, List.getD_cons_zero] <;> rfl)) Try.underlying22 infoB ?_
  (simp only [Act.put, List.setIfInBounds_toArray, List.set_cons_zero, List.set_cons_succ])
  refine plan_call 23 _ _ _ (by kernel_rfl) (by rfl) (by rfl) (by rfl) (by first | exact Mem.ev_none _ | (simp only [List.map_toArray, List.map_cons, List.map_nil, Mem.ev_tmp, List.getD_cons_succ, List.getD_cons_zero] <;> rfl)) ?_
  refine (NU2.out _ _ S0.out).mono ?_
  rintro e x4 ⟨v4, rfl, ho, hb⟩
  have D4 : Hid (Below w1.heap.size w1 x4) := Lib.hid (B0.out.trans (hb.mono B0.out.size)); have O4 := Lib.hid (own_low ho B0.out.size)
  clear ho hb
  refine ⟨_, rfl, D4.out, ?_⟩
  (simp only [Act.put, List.setIfInBounds_toArray, List.set_cons_zero, List.set_cons_succ])
  refine plan_app_b _ _ (by rfl) (by rfl) (by rfl) w1.heap.size v4 (.slice (some ⟨w.heap.size, 2, none⟩) 16 16) L2 h.wr.salt (by first | (with_reducible exact Mem.ev_const _ _) | (with_reducible exact Mem.ev_zero _ _ _) | (with_reducible (apply Eq.trans (Mem.ev_tmp _ _ _)); simp only [List.getD_cons_succ, List.getD_cons_zero] <;> rfl)) O4.out (by first | (with_reducible exact Mem.ev_const _ _) | (with_reducible exact Mem.ev_zero _ _ _) | (with_reducible (apply Eq.trans (Mem.ev_tmp _ _ _)); simp only [List.getD_cons_succ, List.getD_cons_zero] <;> rfl)) (sl_part (AX.out.below D4.out AX.out.lt) ES.out LS.out (by rw [MS.out]; decide)) (by rw [LN2.out, LS.out]; decide) D4.out.size ?_
  intro v9 x9 ho hk hb
  have D9 : Hid (Below w1.heap.size w1 x9) := Lib.hid (D4.out.trans hb); have O9 := Lib.hid ho
  clear ho hk hb
  refine ⟨D9.out, ?_⟩
  (simp only [Act.put, List.setIfInBounds_toArray, List.set_cons_zero, List.set_cons_succ])
  (first | (refine plan_move _ _ (by rfl) (by rfl) (.inl (by rfl)) (by first | (with_reducible exact Mem.ev_const _ _) | (with_reducible exact Mem.ev_zero _ _ _) | (with_reducible (apply Eq.trans (Mem.ev_tmp _ _ _)); simp only [List.getD_cons_succ, List.getD_cons_zero] <;> rfl)) ?_) | (refine plan_move _ _ (by rfl) (by rfl) (.inr (by rfl)) (by first | (with_reducible exact Mem.ev_const _ _) | (with_reducible exact Mem.ev_zero _ _ _) | (with_reducible (apply Eq.trans (Mem.ev_tmp _ _ _)); simp only [List.getD_cons_succ, List.getD_cons_zero] <;> rfl)) ?_) | (refine plan_pick_t _ _ _ _ (by rfl) (by rfl) (by rfl) (by first | (with_reducible exact Mem.ev_const _ _) | (with_reducible exact Mem.ev_zero _ _ _) | (with_reducible (apply Eq.trans (Mem.ev_tmp _ _ _)); simp only [List.getD_cons_succ, List.getD_cons_zero] <;> rfl)) (by first | (with_reducible exact Mem.ev_const _ _) | (with_reducible exact Mem.ev_zero _ _ _) | (with_reducible (apply Eq.trans (Mem.ev_tmp _ _ _)); simp only [List.getD_cons_succ, List.getD_cons_zero] <;> rfl)) ?_) | (refine plan_pick_f _ _ _ _ (by rfl) (by rfl) (by rfl) (by first | (with_reducible exact Mem.ev_const _ _) | (with_reducible exact Mem.ev_zero _ _ _) | (with_reducible (apply Eq.trans (Mem.ev_tmp _ _ _)); simp only [List.getD_cons_succ, List.getD_cons_zero] <;> rfl)) (by first | (with_reducible exact Mem.ev_const _ _) | (with_reducible exact Mem.ev_zero _ _ _) | (with_reducible (apply Eq.trans (Mem.ev_tmp _ _ _)); simp only [List.getD_cons_succ, List.getD_cons_zero] <;> rfl)) ?_))
  (simp only [Act.put, List.setIfInBounds_toArray, List.set_cons_zero, List.set_cons_succ])
  refine plan_nil ?_
  clear B0 S0 O4 D4
  rw [← HL3.out] at O9
  have S0 : Hid (Sl x9.drew v9 L3) := Lib.hid (O9.out.below (Below.refl _ _).drew).sl
  have B0 : Hid (Below w1.heap.size w1 x9.drew) := Lib.hid D9.out.drew
  clear O9 D9
  generalize x9 = y4 at *
  generalize v9 = u4 at *
  go_wp2_with fail
  refine wp_region_plan_in (fun x => Below w1.heap.size w1 x) (.take 0 (.take 1 (.take 2 (.take 3 (.take 4 (.take 6 (.take 7 (.take 8 (.sole 5 (.sole 9 (.take 10 .done))))))))))) (by kernel_rfl) (by kernel_rfl) (by kernel_rfl) B0.out ?_
  (first | (refine plan_move _ _ (by rfl) (by rfl) (.inl (by rfl)) (by first | (with_reducible exact Mem.ev_const _ _) | (with_reducible exact Mem.ev_zero _ _ _) | (with_reducible (apply Eq.trans (Mem.ev_tmp _ _ _)); simp only [List.getD_cons_succ, List.getD_cons_zero] <;> rfl)) ?_) | (refine plan_move _ _ (by rfl) (by rfl) (.inr (by rfl)) (by first | (with_reducible exact Mem.ev_const _ _) | (with_reducible exact Mem.ev_zero _ _ _) | (with_reducible (apply Eq.trans (Mem.ev_tmp _ _ _)); simp only [List.getD_cons_succ, List.getD_cons_zero] <;> rfl)) ?_) | (refine plan_pick_t _ _ _ _ (by rfl) (by rfl) (by rfl) (by first | (with_reducible exact Mem.ev_const _ _) | (with_reducible exact Mem.ev_zero _ _ _) | (with_reducible (apply Eq.trans (Mem.ev_tmp _ _ _)); simp only [List.getD_cons_succ, List.getD_cons_zero] <;> rfl)) (by first | (with_reducible exact Mem.ev_const _ _) | (with_reducible exact Mem.ev_zero _ _ _) | (with_reducible (apply Eq.trans (Mem.ev_tmp _ _ _)); simp only [List.getD_cons_succ, List.getD_cons_zero] <;> rfl)) ?_) | (refine plan_pick_f _ _ _ _ (by rfl) (by rfl) (by rfl) (by first | (with_reducible exact Mem.ev_const _ _) | (with_reducible exact Mem.ev_zero _ _ _) | (with_reducible (apply Eq.trans (Mem.ev_tmp _ _ _)); simp only [List.getD_cons_succ, List.getD_cons_zero] <;> rfl)) (by first | (with_reducible exact Mem.ev_const _ _) | (with_reducible exact Mem.ev_zero _ _ _) | (with_reducible (apply Eq.trans (Mem.ev_tmp _ _ _)); simp only [List.getD_cons_succ, List.getD_cons_zero] <;> rfl)) ?_))
  (simp only [Act.put, List.setIfInBounds_toArray, List.set_cons_zero, List.set_cons_succ])
  refine plan_field 27 _ 2 w.heap.size 0 ⟨w.heap.size, 2, none⟩ (by rfl) (by rfl) (by rfl) (by first | (with_reducible exact Mem.ev_const _ _) | (with_reducible exact Mem.ev_zero _ _ _) | (with_reducible (apply Eq.trans (Mem.ev_tmp _ _ _)); simp only [List.getD_cons_succ, List.getD_cons_zero] <;> rfl)) (fun wx => by go_simp) ?_
  (simp only [Act.put, List.setIfInBounds_toArray, List.set_cons_zero, List.set_cons_succ])
  refine plan_field 25 _ 1 w.heap.size 2 ⟨w.heap.size, 18, none⟩ (by rfl) (by rfl) (by rfl) (by first | (with_reducible exact Mem.ev_const _ _) | (with_reducible exact Mem.ev_zero _ _ _) | (with_reducible (apply Eq.trans (Mem.ev_tmp _ _ _)); simp only [List.getD_cons_succ, List.getD_cons_zero] <;> rfl)) (fun wx => by go_simp) ?_
  (simp only [Act.put, List.setIfInBounds_toArray, List.set_cons_zero, List.set_cons_succ])
  refine plan_cell 3 _ _ (.int .i64 h.wr.r) _ (by rfl) (by rfl) (by rfl) (by first | (with_reducible exact Mem.ev_const _ _) | (with_reducible exact Mem.ev_zero _ _ _) | (with_reducible (apply Eq.trans (Mem.ev_tmp _ _ _)); simp only [List.getD_cons_succ, List.getD_cons_zero] <;> rfl)) (fun w' hw' => ((AX.out.below hw' AX.out.lt).cell 18).trans CR.out) Try.underlying3 (by rfl) ?_
  (simp only [Act.put, List.setIfInBounds_toArray, List.set_cons_zero, List.set_cons_succ])
  refine plan_conv _ _ _ _ (.int .u64 (nr : Int)) (by rfl) (by rfl) (by rfl) (by first | (with_reducible exact Mem.ev_const _ _) | (with_reducible exact Mem.ev_zero _ _ _) | (with_reducible (apply Eq.trans (Mem.ev_tmp _ _ _)); simp only [List.getD_cons_succ, List.getD_cons_zero] <;> rfl)) CVR.out ?_
  (simp only [Act.put, List.setIfInBounds_toArray, List.set_cons_zero, List.set_cons_succ])
  refine plan_field 27 _ 2 w.heap.size 0 ⟨w.heap.size, 2, none⟩ (by rfl) (by rfl) (by rfl) (by first | (with_reducible exact Mem.ev_const _ _) | (with_reducible exact Mem.ev_zero _ _ _) | (with_reducible (apply Eq.trans (Mem.ev_tmp _ _ _)); simp only [List.getD_cons_succ, List.getD_cons_zero] <;> rfl)) (fun wx => by go_simp) ?_
  (simp only [Act.put, List.setIfInBounds_toArray, List.set_cons_zero, List.set_cons_succ])
  refine plan_field 25 _ 2 w.heap.size 2 ⟨w.heap.size, 19, none⟩ (by rfl) (by rfl) (by rfl) (by first | (with_reducible exact Mem.ev_const _ _) | (with_reducible exact Mem.ev_zero _ _ _) | (with_reducible (apply Eq.trans (Mem.ev_tmp _ _ _)); simp only [List.getD_cons_succ, List.getD_cons_zero] <;> rfl)) (fun wx => by go_simp) ?_
  (simp only [Act.put, List.setIfInBounds_toArray, List.set_cons_zero, List.set_cons_succ])
  refine plan_cut 23 _ 32 5 w.heap.size 19 (by rfl) (by rfl) (by rfl) (by first | (with_reducible exact Mem.ev_const _ _) | (with_reducible exact Mem.ev_zero _ _ _) | (with_reducible (apply Eq.trans (Mem.ev_tmp _ _ _)); simp only [List.getD_cons_succ, List.getD_cons_zero] <;> rfl)) Try.underlying23 infoB ?_
  (simp only [Act.put, List.setIfInBounds_toArray, List.set_cons_zero, List.set_cons_succ])
  refine plan_call 23 _ _ _ (by kernel_rfl) (by rfl) (by rfl) (by rfl) (by first | exact Mem.ev_none _ | (simp only [List.map_toArray, List.map_cons, List.map_nil, Mem.ev_tmp, List.getD_cons_succ, List.getD_cons_zero] <;> rfl)) ?_
  refine (NU4.out _ _ S0.out).mono ?_
  rintro e x5 ⟨v5, rfl, ho, hb⟩
  have D5 : Hid (Below w1.heap.size w1 x5) := Lib.hid (B0.out.trans (hb.mono B0.out.size)); have O5 := Lib.hid (own_low ho B0.out.size)
  clear ho hb
  refine ⟨_, rfl, D5.out, ?_⟩
  (simp only [Act.put, List.setIfInBounds_toArray, List.set_cons_zero, List.set_cons_succ])
  refine plan_app_b _ _ (by rfl) (by rfl) (by rfl) w1.heap.size v5 (.slice (some ⟨w.heap.size, 19, none⟩) 32 32) L4 h.wr.key (by first | (with_reducible exact Mem.ev_const _ _) | (with_reducible exact Mem.ev_zero _ _ _) | (with_reducible (apply Eq.trans (Mem.ev_tmp _ _ _)); simp only [List.getD_cons_succ, List.getD_cons_zero] <;> rfl)) O5.out (by first | (with_reducible exact Mem.ev_const _ _) | (with_reducible exact Mem.ev_zero _ _ _) | (with_reducible (apply Eq.trans (Mem.ev_tmp _ _ _)); simp only [List.getD_cons_succ, List.getD_cons_zero] <;> rfl)) (sl_part (AX.out.below D5.out AX.out.lt) EK.out LK.out (by rw [MS.out]; decide)) (by rw [LN4.out, LK.out]; decide) D5.out.size ?_
  intro v9 x9 ho hk hb
  have D9 : Hid (Below w1.heap.size w1 x9) := Lib.hid (D5.out.trans hb); have O9 := Lib.hid ho
  clear ho hk hb
  refine ⟨D9.out, ?_⟩
  (simp only [Act.put, List.setIfInBounds_toArray, List.set_cons_zero, List.set_cons_succ])
  (first | (refine plan_move _ _ (by rfl) (by rfl) (.inl (by rfl)) (by first | (with_reducible exact Mem.ev_const _ _) | (with_reducible exact Mem.ev_zero _ _ _) | (with_reducible (apply Eq.trans (Mem.ev_tmp _ _ _)); simp only [List.getD_cons_succ, List.getD_cons_zero] <;> rfl)) ?_) | (refine plan_move _ _ (by rfl) (by rfl) (.inr (by rfl)) (by first | (with_reducible exact Mem.ev_const _ _) | (with_reducible exact Mem.ev_zero _ _ _) | (with_reducible (apply Eq.trans (Mem.ev_tmp _ _ _)); simp only [List.getD_cons_succ, List.getD_cons_zero] <;> rfl)) ?_) | (refine plan_pick_t _ _ _ _ (by rfl) (by rfl) (by rfl) (by first | (with_reducible exact Mem.ev_const _ _) | (with_reducible exact Mem.ev_zero _ _ _) | (with_reducible (apply Eq.trans (Mem.ev_tmp _ _ _)); simp only [List.getD_cons_succ, List.getD_cons_zero] <;> rfl)) (by first | (with_reducible exact Mem.ev_const _ _) | (with_reducible exact Mem.ev_zero _ _ _) | (with_reducible (apply Eq.trans (Mem.ev_tmp _ _ _)); simp only [List.getD_cons_succ, List.getD_cons_zero] <;> rfl)) ?_) | (refine plan_pick_f _ _ _ _ (by rfl) (by rfl) (by rfl) (by first | (with_reducible exact Mem.ev_const _ _) | (with_reducible exact Mem.ev_zero _ _ _) | (with_reducible (apply Eq.trans (Mem.ev_tmp _ _ _)); simp only [List.getD_cons_succ, List.getD_cons_zero] <;> rfl)) (by first | (with_reducible exact Mem.ev_const _ _) | (with_reducible exact Mem.ev_zero _ _ _) | (with_reducible (apply Eq.trans (Mem.ev_tmp _ _ _)); simp only [List.getD_cons_succ, List.getD_cons_zero] <;> rfl)) ?_))
  (simp only [Act.put, List.setIfInBounds_toArray, List.set_cons_zero, List.set_cons_succ])
  refine plan_nil ?_
  clear B0 S0 O5 D5
  rw [← HL5.out] at O9
  have c83 := ((AX.out.below D9.out AX.out.lt).cell 83).trans CL.out
  go_wp2_with (first
    | (refine wpList_slice_arr (by rfl) 23 _ (by rfl) 32 5 w.heap.size 51 (by rfl) Try.underlying23 infoB ?_)
    | (at_builtin; refine wpList_append_bytes (by rfl) _ _ (by rfl) w1.heap.size v9 (.slice (some ⟨w.heap.size, 51, none⟩) 32 32) L5 h.wr.ck (by rfl) O9.out (by rfl) (sl_part (AX.out.below D9.out AX.out.lt) EC.out LC.out (by rw [MS.out]; decide)) (by rw [LN5.out, LC.out]; decide) D9.out.size ?_; intro v6 w6 ho6 _ hb6; have D6 : Hid (Below w1.heap.size w1 w6) := Lib.hid (D9.out.trans hb6); have S6 : Hid (Sl w6 v6 L6) := (by rw [HL6.out]; exact ho6.sl); clear c83; have c83 := ((AX.out.below D6.out AX.out.lt).cell 83).trans CL.out; clear ho6 hb6)
    | (refine wpList_conv_str (by rfl) _ (by rfl) h.lab S HS.out (by rfl) ?_; intro b7 c7 w7 hs7 hb7; have T7 := Lib.hid hs7; have S7 : Hid (Sl w7 v6 L6) := Lib.hid (S6.out.below hb7); have D7 : Hid (Below w1.heap.size w1 w7) := Lib.hid (D6.out.trans (hb7.mono D6.out.size)); clear hs7 hb7 c83))
  refine (TX.out _ _ _ S7.out T7.out).mono ?_
  rintro e w8 ⟨v8, rfl, ho, hb⟩
  have S8 := Lib.hid ho
  have D8 : Hid (Below w1.heap.size w1 w8) := Lib.hid (D7.out.trans (hb.mono D7.out.size))
  have c8 := ((AX.out.below D8.out AX.out.lt).cell 0).trans CV.out
  clear ho hb
  have hver := HVER.out
  have SQ := S8; have DQ := D8
  go_wp2_with fail
  refine (FI.out _ _ SQ.out).mono ?_
  rintro e w11 ⟨v11, rfl, ho, hb⟩
  have SR := Lib.hid ho
  have DR : Hid (Below w.heap.size w w11) := Lib.hid (HB.out.trans ((DQ.out.trans (hb.mono DQ.out.size)).mono HB.out.size))
  clear ho hb
  go_wp2_with fail
  go_ret2
  exact ⟨v11, rfl, SR.out, DR.out⟩
set_option maxRecDepth 100000 in
set_option maxHeartbeats 2000000 in
theorem rlay11_bad (h : HdV) (hw : h.Wf) (hm : mayH h = false) (w : World) : Calls Try.prog 10 #[.agg (hdC h)] w fun e w' => e = .returned (.tuple #[.slice none 0 0, .int .i64 1]) ∧ Below w.heap.size w w' := by
  have hmay := fun wx => rmay11_any h hw wx
  rw [hm] at hmay
  obtain ⟨M, hM⟩ : ∃ M, M = hdC h := ⟨_, rfl⟩
  have ms : M.size = 84 := by rw [hM]; exact hdC_size hw
  rw [← hM] at hmay ⊢
  have hA := at_new w M 27
  have hb : Below w.heap.size w (w.alloc (.cells M 27)) := (Below.refl _ _).alloc (Nat.le_refl _) _
  obtain ⟨w1, hw1⟩ : ∃ w1, w1 = w.alloc (.cells M 27) := ⟨_, rfl⟩
  rw [← hw1] at hA hb
  have MAY := Lib.hid hmay; have AX := Lib.hid hA; have HB := Lib.hid hb; have MS := Lib.hid ms
  clear hmay hA hb ms hM hm hw
  go_enter Try.func10, Try.ntmps10
  go_upto_region 1 with fail
  rw [← hw1]
  clear hw1
  go_wp2_with (refine wpList_load_all (by rfl) 27 _ (by rfl) w.heap.size (by rfl) _ Try.underlying27 (by rfl) M _ AX.out (by rw [MS.out]; exact infoHdR) ?_)
  refine (MAY.out w1).mono ?_
  rintro e w2 ⟨rfl, hb2⟩
  have B2 : Hid (Below w.heap.size w w2) := Lib.hid (HB.out.trans (hb2.mono HB.out.size))
  clear hb2 MAY
  go_wp2_with fail
  go_ret2
  exact ⟨rfl, B2.out⟩
theorem rlay11_good (h : HdV) (hw : h.Wf) (hm : mayH h = true) (w : World) : Calls Try.prog 10 #[.agg (hdC h)] w (TwoEnd w (layH h) 0) := by
  by_cases hv : h.ver = 2
  · exact rlay11_two h hw hm hv w
  · exact rlay11_one h hw hm hv w
end Sha
end Go.Proofs.Ytbnjihpafipbnaa
namespace Go.Proofs.Ytbnjihpafipbnaa
namespace Sha
open Go.RowKit Mem
theorem conv_bI11 (x : Nat) (_h : x < 256) (w : World) : (convert 5 3 (.int .u8 (x : Int))).run Try.prog w = .ok (.int .i64 (x : Int)) w := by
  have h2 : IntKind.i64.wrap (x : Int) = (x : Int) := by simp [IntKind.wrap, IntKind.bits, IntKind.signed]; omega
  go_simp
theorem infoStr : (Try.prog.info? 9).map (·.size) = some 1 := by kernel_rfl
theorem lt_of_cell {w : World} {p : Addr} {v : Value} (h : w.cell? p = some v) : p.block < w.heap.size := by
  rcases Nat.lt_or_ge p.block w.heap.size with h' | h'
  · exact h'
  · simp [World.cell?, Array.getElem?_eq_none h'] at h
theorem neq_b8 (c d : BitVec 8) (x y : Operand) (w : World) : (do eqGuard .neq 5 x y (.int .u8 (B8 c)) (.int .u8 (B8 d)); binOp .neq 5 (.int .u8 (B8 c)) (.int .u8 (B8 d)) : Sem Value).run Try.prog w = .ok (.bool (!decide (c = d))) w := by
  have h : (B8 c = B8 d) ↔ c = d := ⟨fun h => by apply BitVec.eq_of_toNat_eq; unfold B8 at h; omega, fun h => by rw [h]⟩
  have h2 : decide (c = d) = decide (B8 c = B8 d) := by rw [decide_eq_decide]; exact h.symm
  rw [h2]
  generalize B8 c = a
  generalize B8 d = b
  go_simp
  try (by_cases e : a = b <;> simp [e])
theorem infoI64' : (Try.prog.info? 3).map (·.size) = some 1 := by kernel_rfl
theorem allocHdR (w : World) : (Instr.alloc 27 true (.tuple #[])).run Try.prog w = .ok (.pointer (some ⟨w.heap.size, 0, none⟩)) (w.alloc (.cells (hdC zhd) 27)) := by kernel_rfl
set_option maxRecDepth 100000 in
set_option maxHeartbeats 4000000 in
theorem rparse11_len (b : List (BitVec 8)) (v : Value) (w : World) (hv : Sl w v b) (_hl : b.length ≤ 1000) (h : b.length ≠ 256) :
    Calls Try.prog 20 #[v] w fun e w' => e = .returned (.tuple #[.agg (hdC zhd), .int .i64 1]) ∧ Below w.heap.size w w' := by
  obtain ⟨a0, cap, rfl, hcap, hr⟩ := hv
  obtain ⟨n, hn⟩ : ∃ n, n = b.length := ⟨_, rfl⟩
  rw [← hn] at h _hl ⊢
  obtain ⟨Z, hZ⟩ : ∃ Z, Z = hdC zhd := ⟨_, rfl⟩
  have zs : Z.size = 84 := by rw [hZ]; exact hdC_size zhd_wf
  have zo : Z.all (·.oneCell') = true := by rw [hZ]; exact hdC_one _
  have hx : ∀ w, (zeroValue 27).run Try.prog w = .ok (.agg Z) w := by rw [hZ]; exact zeroHdR
  have bn : ∀ w, (Instr.build 27 #[]).run Try.prog w = .ok (.agg Z) w := by rw [hZ]; exact buildHR0
  rw [← hZ]
  have az := at_new w Z 27
  have bz : Below w.heap.size w (w.alloc (.cells Z 27)) := (Below.refl _ _).alloc (Nat.le_refl _) _
  have ZS := Lib.hid zs; have ZO := Lib.hid zo; have BN := Lib.hid bn; have AZ := Lib.hid az; have BZ := Lib.hid bz
  have g : ¬ (n : Int) = 256 := by omega
  clear zs zo bn az bz hZ hr hn h hcap
  go_enter Try.func20, Try.ntmps20
  go_upto_region 1 with fail
  clear hx
  generalize w.alloc (.cells Z 27) = w1 at *
  go_wp2_with (first
    | (refine Mem.wpList_build (by rfl) 27 _ #[] (.agg Z) (by rfl) (by simp) BN.out ?_)
    | (refine wpList_store_all (by rfl) 27 _ _ (by rfl) (by rfl) w.heap.size Z (by rfl) (by rfl) (by rw [ZS.out]; exact infoHdR) Z 27 AZ.out (by rfl) ZO.out ?_))
  try simp only [Exit.inBlock, Exit.then]
  refine ret_row_tmp (by rfl) w.heap.size 27 Z _ _ (by rfl) (by rfl) (AZ.out.row Z) Try.underlying27 (by rfl) (by rw [ZS.out]; exact infoHdR) ?_
  exact ⟨rfl, below_row BZ.out (Nat.le_refl _) Z⟩
/-- What stands in the two refusals, and in the rest, behind region 1. -/
structure HpAt (b : List (BitVec 8)) (bb oo cap : Nat) (w1 : World) : Prop where
  lt : bb < w1.heap.size
  cells : ∀ wx, Below w1.heap.size w1 wx → ∀ q, q < 256 → wx.cell? ⟨bb, oo + q, none⟩ = some (.int .u8 ((b.getD q 0).toNat : Int))
  sl : Sl w1 (.slice (some ⟨bb, oo, none⟩) 256 cap) b
set_option maxRecDepth 100000 in
set_option maxHeartbeats 8000000 in
theorem rparse11_early (b : List (BitVec 8)) (v : Value) (w : World) (q : Nat) (hv : Sl w v b) (hl : b.length = 256) (h : (b.take 4 ≠ carl ∧ q = 3) ∨ (b.take 4 = carl ∧ (b.getD 4 0 ≠ 1 ∧ b.getD 4 0 ≠ 2) ∧ q = 21)) :
    Calls Try.prog 20 #[v] w fun e w' => e = .returned (.tuple #[.agg (hdC zhd), .int .i64 (q : Int)]) ∧ Below w.heap.size w w' := by
  have hv0 := hv
  obtain ⟨a0, cap, rfl, hcap, hr⟩ := hv
  obtain ⟨bb, oo, ea, hblt, hc⟩ := hr (by intro e; rw [e] at hl; simp at hl)
  subst ea
  obtain ⟨Z, hZ⟩ : ∃ Z, Z = hdC zhd := ⟨_, rfl⟩
  have zs : Z.size = 84 := by rw [hZ]; exact hdC_size zhd_wf
  have zo : Z.all (·.oneCell') = true := by rw [hZ]; exact hdC_one _
  have hx : ∀ w, (zeroValue 27).run Try.prog w = .ok (.agg Z) w := by rw [hZ]; exact zeroHdR
  have bn : ∀ w, (Instr.build 27 #[]).run Try.prog w = .ok (.agg Z) w := by rw [hZ]; exact buildHR0
  rw [← hZ]
  have az := at_new w Z 27
  have bz : Below w.heap.size w (w.alloc (.cells Z 27)) := (Below.refl _ _).alloc (Nat.le_refl _) _
  rw [hl] at hv0 ⊢
  have sl1 := hv0.below bz
  have c4 : (w.alloc (.cells Z 27)).cell? ⟨bb, oo + 4, none⟩ = some (.int .u8 ((b.getD 4 0).toNat : Int)) := (bz.cell (p := ⟨bb, oo + 4, none⟩) hblt).trans (hc 4 (by omega))
  obtain ⟨S4, hS4⟩ : ∃ S, S = strOfNums (i8s (b.take 4)) := ⟨_, rfl⟩
  have cv4 : ∀ wx (a : Option Addr) (c : Nat), Sl wx (.slice a 4 c) (b.take 4) → (convert 28 9 (.slice a 4 c)).run Try.prog wx = .ok (.string S4) wx := fun wx a c hs => by
    have e : (b.take 4).length = 4 := by rw [List.length_take]; omega
    have h := conv_slA (w := wx) (a := a) (c := c) (l := b.take 4) (by rw [e]; exact hs)
    rw [e] at h; rw [hS4]; exact h
  have ne4 := fun x y wx => neq_str (b.take 4) carl x y wx
  rw [← hS4, ← carl_str] at ne4
  have ZS := Lib.hid zs; have ZO := Lib.hid zo; have BN := Lib.hid bn; have AZ := Lib.hid az; have BZ := Lib.hid bz; have SL1 := Lib.hid sl1; have CV4 := Lib.hid cv4; have HLN := Lib.hid hl
  clear zs zo bn az bz hZ hr hcap hc hv0 sl1 hS4 cv4 hl
  rcases h with ⟨h4, rfl⟩ | ⟨h4, ⟨h1, h2⟩, rfl⟩
  · rw [show (!decide (b.take 4 = carl)) = true by simp [h4]] at ne4
    have NE := Lib.hid ne4
    clear ne4 h4 c4
    go_enter Try.func20, Try.ntmps20
    go_upto_region 1 with fail
    clear hx
    generalize w.alloc (.cells Z 27) = w1 at *
    go_wp2_with (first
      | (refine wpList_piece_to (by rfl) 28 _ _ (by rfl) Try.underlying28 (some ⟨bb, oo, none⟩) 256 cap 4 b HLN.out (by rfl) SL1.out (by rfl) (by decide) ?_; intro hp; have PP := Lib.hid hp; clear hp)
      | (refine wpList_conv_at (by rfl) _ _ _ _ (.string S4) (by rfl) (by rfl) (CV4.out _ _ _ PP.out) ?_)
      | (refine wpList_bin (by rfl) .neq _ _ _ _ _ _ (.bool true) (by rfl) (by rfl) (by rfl) (fun wx => NE.out _ _ wx) ?_)
      | (refine Mem.wpList_build (by rfl) 27 _ #[] (.agg Z) (by rfl) (by simp) BN.out ?_)
      | (refine wpList_store_all (by rfl) 27 _ _ (by rfl) (by rfl) w.heap.size Z (by rfl) (by rfl) (by rw [ZS.out]; exact infoHdR) Z 27 AZ.out (by rfl) ZO.out ?_))
    try simp only [Exit.inBlock, Exit.then]
    refine ret_row_tmp (by rfl) w.heap.size 27 Z _ _ (by rfl) (by rfl) (AZ.out.row Z) Try.underlying27 (by rfl) (by rw [ZS.out]; exact infoHdR) ?_
    exact ⟨rfl, below_row BZ.out (Nat.le_refl _) Z⟩
  · rw [show (!decide (b.take 4 = carl)) = false by simp [h4]] at ne4
    have NE := Lib.hid ne4
    obtain ⟨x, hx4⟩ : ∃ x, x = (b.getD 4 0).toNat := ⟨_, rfl⟩
    have g1 : ¬ (x : Int) = 1 := fun e => h1 (by apply BitVec.eq_of_toNat_eq; rw [← hx4]; show x = 1; omega)
    have g2 : ¬ (x : Int) = 2 := fun e => h2 (by apply BitVec.eq_of_toNat_eq; rw [← hx4]; show x = 2; omega)
    have b1 : ((x : Int) != 1) = true := by rw [bne_iff_ne]; exact g1
    have b2 : ((x : Int) != 2) = true := by rw [bne_iff_ne]; exact g2
    rw [← hx4] at c4
    clear ne4 h4 h1 h2 hx4
    go_enter Try.func20, Try.ntmps20
    go_upto_region 1 with fail
    clear hx
    generalize w.alloc (.cells Z 27) = w1 at *
    go_wp2_with (first
      | (refine wpList_piece_to (by rfl) 28 _ _ (by rfl) Try.underlying28 (some ⟨bb, oo, none⟩) 256 cap 4 b HLN.out (by rfl) SL1.out (by rfl) (by decide) ?_; intro hp; have PP := Lib.hid hp; clear hp)
      | (refine wpList_conv_at (by rfl) _ _ _ _ (.string S4) (by rfl) (by rfl) (CV4.out _ _ _ PP.out) ?_)
      | (refine wpList_bin (by rfl) .neq _ _ _ _ _ _ (.bool false) (by rfl) (by rfl) (by rfl) (fun wx => NE.out _ _ wx) ?_)
      | (refine Mem.wpList_build (by rfl) 27 _ #[] (.agg Z) (by rfl) (by simp) BN.out ?_)
      | (refine wpList_store_all (by rfl) 27 _ _ (by rfl) (by rfl) w.heap.size Z (by rfl) (by rfl) (by rw [ZS.out]; exact infoHdR) Z 27 AZ.out (by rfl) ZO.out ?_))
    try simp only [Exit.inBlock, Exit.then]
    refine ret_row_tmp (by rfl) w.heap.size 27 Z _ _ (by rfl) (by rfl) (AZ.out.row Z) Try.underlying27 (by rfl) (by rw [ZS.out]; exact infoHdR) ?_
    exact ⟨rfl, below_row BZ.out (Nat.le_refl _) Z⟩
/-- In Parse's loops: the head's block g, and all that was there ahead of it. -/
structure HpInv (D : HdV) (g : Nat) (w1 wr : World) : Prop where
  r : At wr g (hdC D) 27
  b : Below w1.heap.size w1 wr
set_option maxRecDepth 100000 in
set_option maxHeartbeats 4000000 in
theorem rparse11_late (b : List (BitVec 8)) (v : Value) (w : World) (hv : Sl w v b) (hl : b.length = 256) (h4 : b.take 4 = carl) (h12 : ¬ (b.getD 4 0 ≠ 1 ∧ b.getD 4 0 ≠ 2)) :
    Calls Try.prog 20 #[v] w fun e w' => e = .returned (.tuple #[.agg (hdC (parseH b).1), .int .i64 ((parseH b).2 : Int)]) ∧ Below w.heap.size w w' := by
  have hv0 := hv
  obtain ⟨a0, cap, rfl, hcap, hr⟩ := hv
  obtain ⟨bb, oo, ea, hblt, hc⟩ := hr (by intro e; rw [e] at hl; simp at hl)
  subst ea
  have hpar : parseH b = if mayH (hdOf b) = false then (zhd, 3) else if layH (hdOf b) ≠ b then (zhd, 3) else (hdOf b, 0) := by
    unfold parseH; rw [if_neg (fun h => h hl), if_neg (fun h => h h4), if_neg h12]
  have wfO := hdOf_wf b hl
  have hgood := fun hm wx => rlay11_good (hdOf b) wfO hm wx
  have hbad := fun hm wx => rlay11_bad (hdOf b) wfO hm wx
  have hll := layH_length wfO (hdOf_lab b)
  obtain ⟨F, hF⟩ : ∃ F, F = hdC (hdOf b) := ⟨_, rfl⟩
  have fs : F.size = 84 := by rw [hF]; exact hdC_size wfO
  have fo : F.all (·.oneCell') = true := by rw [hF]; exact hdC_one _
  rw [← hF] at hgood hbad
  obtain ⟨Z, hZ⟩ : ∃ Z, Z = hdC zhd := ⟨_, rfl⟩
  have zs : Z.size = 84 := by rw [hZ]; exact hdC_size zhd_wf
  have zo : Z.all (·.oneCell') = true := by rw [hZ]; exact hdC_one _
  have hx : ∀ w, (zeroValue 27).run Try.prog w = .ok (.agg Z) w := by rw [hZ]; exact zeroHdR
  have bn : ∀ w, (Instr.build 27 #[]).run Try.prog w = .ok (.agg Z) w := by rw [hZ]; exact buildHR0
  have al : ∀ w, (Instr.alloc 27 true (.tuple #[])).run Try.prog w = .ok (.pointer (some ⟨w.heap.size, 0, none⟩)) (w.alloc (.cells Z 27)) := by rw [hZ]; exact allocHdR
  have az := at_new w Z 27
  have bz : Below w.heap.size w (w.alloc (.cells Z 27)) := (Below.refl _ _).alloc (Nat.le_refl _) _
  rw [hl] at hv0 ⊢
  have sl1 := hv0.below bz
  have hws : (w.alloc (.cells Z 27)).heap.size = w.heap.size + 1 := by simp
  have hcells : ∀ q, q < 256 → (w.alloc (.cells Z 27)).cell? ⟨bb, oo + q, none⟩ = some (.int .u8 ((b.getD q 0).toNat : Int)) := fun q hq => (bz.cell (p := ⟨bb, oo + q, none⟩) hblt).trans (hc q (by omega))
  obtain ⟨S4, hS4⟩ : ∃ S, S = strOfNums (i8s (b.take 4)) := ⟨_, rfl⟩
  have cv4 : ∀ wx (a : Option Addr) (c : Nat), Sl wx (.slice a 4 c) (b.take 4) → (convert 28 9 (.slice a 4 c)).run Try.prog wx = .ok (.string S4) wx := fun wx a c hs => by
    have e : (b.take 4).length = 4 := by rw [List.length_take]; omega
    have h := conv_slA (w := wx) (a := a) (c := c) (l := b.take 4) (by rw [e]; exact hs)
    rw [e] at h; rw [hS4]; exact h
  have ne4 := fun x y wx => neq_str (b.take 4) carl x y wx
  rw [← hS4, ← carl_str, show (!decide (b.take 4 = carl)) = false by simp [h4]] at ne4
  obtain ⟨x4, hx4⟩ : ∃ x, x = (b.getD 4 0).toNat := ⟨_, rfl⟩
  obtain ⟨x5, hx5⟩ : ∃ x, x = (b.getD 5 0).toNat := ⟨_, rfl⟩
  obtain ⟨x6, hx6⟩ : ∃ x, x = (b.getD 6 0).toNat := ⟨_, rfl⟩
  have l4 : x4 < 256 := by rw [hx4]; exact (b.getD 4 0).isLt
  have l5 : x5 < 256 := by rw [hx5]; exact (b.getD 5 0).isLt
  have l6 : x6 < 256 := by rw [hx6]; exact (b.getD 6 0).isLt
  have e12 : ((x4 : Int) != 1 && (x4 : Int) != 2) = false := by
    rw [Bool.eq_false_iff]
    intro h
    rw [Bool.and_eq_true, bne_iff_ne, bne_iff_ne] at h
    exact h12 ⟨fun e => h.1 (by rw [hx4, e]; rfl), fun e => h.2 (by rw [hx4, e]; rfl)⟩
  have hD0 := hdAt_0 b
  rw [pgN b hl, ← hx4, ← hx5, ← hx6] at hD0
  have bld := fun wx => buildHR2 (x4 : Int) ((x5 + 256 * x6 : Nat) : Int) wx
  rw [← hD0] at bld
  have wf0 := hdAt_wf b hl 0 0 0 0 [] (by decide) (by decide) (by decide) (by decide) (by decide) (by decide)
  have ds := hdC_size wf0
  have dO := hdC_one (hdAt b 0 0 0 0 [])
  obtain ⟨D, hD⟩ : ∃ D, D = hdC (hdAt b 0 0 0 0 []) := ⟨_, rfl⟩
  rw [← hD] at bld ds dO
  have c4 := hcells 4 (by decide)
  rw [← hx4] at c4
  have hX4 : ∀ wx, Below (w.alloc (.cells Z 27)).heap.size (w.alloc (.cells Z 27)) wx → wx.cell? ⟨bb, oo + 4, none⟩ = some (.int .u8 (x4 : Int)) := fun wx h => (h.cell (p := ⟨bb, oo + 4, none⟩) (by rw [hws]; exact Nat.lt_succ_of_lt hblt)).trans c4
  have hX5 : ∀ wx, Below (w.alloc (.cells Z 27)).heap.size (w.alloc (.cells Z 27)) wx → wx.cell? ⟨bb, oo + 5, none⟩ = some (.int .u8 (x5 : Int)) := fun wx h => (h.cell (p := ⟨bb, oo + 5, none⟩) (by rw [hws]; exact Nat.lt_succ_of_lt hblt)).trans (by rw [hx5]; exact hcells 5 (by decide))
  have hX6 : ∀ wx, Below (w.alloc (.cells Z 27)).heap.size (w.alloc (.cells Z 27)) wx → wx.cell? ⟨bb, oo + 6, none⟩ = some (.int .u8 (x6 : Int)) := fun wx h => (h.cell (p := ⟨bb, oo + 6, none⟩) (by rw [hws]; exact Nat.lt_succ_of_lt hblt)).trans (by rw [hx6]; exact hcells 6 (by decide))
  have hcel : ∀ wx, Below (w.alloc (.cells Z 27)).heap.size (w.alloc (.cells Z 27)) wx → ∀ q, q < 256 → wx.cell? ⟨bb, oo + q, none⟩ = some (.int .u8 ((b.getD q 0).toNat : Int)) := fun wx h q hq => (h.cell (p := ⟨bb, oo + q, none⟩) (by rw [hws]; exact Nat.lt_succ_of_lt hblt)).trans (hcells q hq)
  have hblt1 : bb < (w.alloc (.cells Z 27)).heap.size := by rw [hws]; exact Nat.lt_succ_of_lt hblt
  have hw1s : w.heap.size < (w.alloc (.cells Z 27)).heap.size := by rw [hws]; exact Nat.lt_succ_self _
  have ZS := Lib.hid zs; have ZO := Lib.hid zo; have BN := Lib.hid bn; have AL := Lib.hid al; have AZ := Lib.hid az; have BZ := Lib.hid bz; have SL1 := Lib.hid sl1; have CV4 := Lib.hid cv4; have NE := Lib.hid ne4; have HLN := Lib.hid hl
  have BLD := Lib.hid bld; have DS := Lib.hid ds; have DO := Lib.hid dO; have HD := Lib.hid hD; have X4 := Lib.hid hX4; have X5 := Lib.hid hX5; have X6 := Lib.hid hX6; have CEL := Lib.hid hcel; have BLT := Lib.hid hblt1; have W1S := Lib.hid hw1s
  have FS := Lib.hid fs; have FO := Lib.hid fo; have HF := Lib.hid hF; have GOOD := Lib.hid hgood; have BAD := Lib.hid hbad; have PAR := Lib.hid hpar; have LL := Lib.hid hll; have HZ := Lib.hid hZ
  clear zs zo bn al az bz hZ hr hcap hc hv0 sl1 hS4 cv4 hl ne4 h4 h12 hpar wfO hgood hbad hll hF fs fo hws hcells hx4 hx5 hx6 hD0 bld wf0 ds dO hD hX4 hX5 hX6 hcel hblt1 hblt hw1s
  go_enter Try.func20, Try.ntmps20
  go_upto_region 1 with fail
  clear hx
  generalize w.alloc (.cells Z 27) = w1 at *
  go_upto_region 3 with fail
  go_cut [19] (fun x wx => x = .bool false ∧ wx = w1)
  case first =>
    go_wp2_with (first
      | (refine wpList_piece_to (by rfl) 28 _ _ (by rfl) Try.underlying28 (some ⟨bb, oo, none⟩) 256 cap 4 b HLN.out (by rfl) SL1.out (by rfl) (by decide) ?_; intro hp; have PP := Lib.hid hp; clear hp)
      | (refine wpList_conv_at (by rfl) _ _ _ _ (.string S4) (by rfl) (by rfl) (CV4.out _ _ _ PP.out) ?_)
      | (refine wpList_bin (by rfl) .neq _ _ _ _ _ _ (.bool false) (by rfl) (by rfl) (by rfl) (fun wx => NE.out _ _ wx) ?_))
    go_meet
    exact ⟨rfl, rfl⟩
  obtain ⟨rfl, rfl⟩ := hcut
  go_upto_region 5 with fail
  go_cut [30] (fun x wx => x = .bool false ∧ wx = wc)
  case first =>
    go_wp2_with fail
    all_goals (go_meet; exact ⟨rfl, rfl⟩)
  obtain ⟨rfl, rfl⟩ := hcut
  generalize wc = w1 at *
  clear CV4 NE c4 e12
  go_wp2_with fail
  have B0 : Hid (Below w1.heap.size w1 w1.drew) := Lib.hid (Below.refl _ _).drew
  refine wp_region_plan_in (fun x => Below w1.heap.size w1 x) (.take 0 (.take 1 (.take 2 (.take 3 (.take 4 (.take 5 (.take 6 (.take 7 (.take 8 (.take 9 (.take 10 (.take 11 (.take 12 (.take 13 (.take 14 (.sole 15 (.sole 16 .done))))))))))))))))) (by kernel_rfl) (by kernel_rfl) (by kernel_rfl) B0.out ?_
  (first | (refine plan_move _ _ (by rfl) (by rfl) (.inl (by rfl)) (by first | (with_reducible exact Mem.ev_const _ _) | (with_reducible exact Mem.ev_zero _ _ _) | (with_reducible (apply Eq.trans (Mem.ev_tmp _ _ _)); simp only [List.getD_cons_succ, List.getD_cons_zero] <;> rfl)) ?_) | (refine plan_move _ _ (by rfl) (by rfl) (.inr (by rfl)) (by first | (with_reducible exact Mem.ev_const _ _) | (with_reducible exact Mem.ev_zero _ _ _) | (with_reducible (apply Eq.trans (Mem.ev_tmp _ _ _)); simp only [List.getD_cons_succ, List.getD_cons_zero] <;> rfl)) ?_) | (refine plan_pick_t _ _ _ _ (by rfl) (by rfl) (by rfl) (by first | (with_reducible exact Mem.ev_const _ _) | (with_reducible exact Mem.ev_zero _ _ _) | (with_reducible (apply Eq.trans (Mem.ev_tmp _ _ _)); simp only [List.getD_cons_succ, List.getD_cons_zero] <;> rfl)) (by first | (with_reducible exact Mem.ev_const _ _) | (with_reducible exact Mem.ev_zero _ _ _) | (with_reducible (apply Eq.trans (Mem.ev_tmp _ _ _)); simp only [List.getD_cons_succ, List.getD_cons_zero] <;> rfl)) ?_) | (refine plan_pick_f _ _ _ _ (by rfl) (by rfl) (by rfl) (by first | (with_reducible exact Mem.ev_const _ _) | (with_reducible exact Mem.ev_zero _ _ _) | (with_reducible (apply Eq.trans (Mem.ev_tmp _ _ _)); simp only [List.getD_cons_succ, List.getD_cons_zero] <;> rfl)) (by first | (with_reducible exact Mem.ev_const _ _) | (with_reducible exact Mem.ev_zero _ _ _) | (with_reducible (apply Eq.trans (Mem.ev_tmp _ _ _)); simp only [List.getD_cons_succ, List.getD_cons_zero] <;> rfl)) ?_))
  (simp only [Act.put, List.setIfInBounds_toArray, List.set_cons_zero, List.set_cons_succ])
  refine plan_index 28 5 _ _ bb oo 256 cap 4 (by rfl) (by rfl) (by rfl) (by first | (with_reducible exact Mem.ev_const _ _) | (with_reducible exact Mem.ev_zero _ _ _) | (with_reducible (apply Eq.trans (Mem.ev_tmp _ _ _)); simp only [List.getD_cons_succ, List.getD_cons_zero] <;> rfl)) (by rfl) (by omega) Try.underlying28 (by kernel_rfl) ?_
  (simp only [Act.put, List.setIfInBounds_toArray, List.set_cons_zero, List.set_cons_succ])
  refine plan_cell 5 _ _ (.int .u8 (x4 : Int)) _ (by rfl) (by rfl) (by rfl) (by first | (with_reducible exact Mem.ev_const _ _) | (with_reducible exact Mem.ev_zero _ _ _) | (with_reducible (apply Eq.trans (Mem.ev_tmp _ _ _)); simp only [List.getD_cons_succ, List.getD_cons_zero] <;> rfl)) (fun w' hw' => X4.out w' hw') Try.underlying5 (by rfl) ?_
  (simp only [Act.put, List.setIfInBounds_toArray, List.set_cons_zero, List.set_cons_succ])
  refine plan_conv 5 3 _ (.int .u8 (x4 : Int)) (.int .i64 (x4 : Int)) (by rfl) (by rfl) (by rfl) (by first | (with_reducible exact Mem.ev_const _ _) | (with_reducible exact Mem.ev_zero _ _ _) | (with_reducible (apply Eq.trans (Mem.ev_tmp _ _ _)); simp only [List.getD_cons_succ, List.getD_cons_zero] <;> rfl)) (fun wx => conv_bI11 x4 (by omega) wx) ?_
  (simp only [Act.put, List.setIfInBounds_toArray, List.set_cons_zero, List.set_cons_succ])
  (first | (refine plan_move _ _ (by rfl) (by rfl) (.inl (by rfl)) (by first | (with_reducible exact Mem.ev_const _ _) | (with_reducible exact Mem.ev_zero _ _ _) | (with_reducible (apply Eq.trans (Mem.ev_tmp _ _ _)); simp only [List.getD_cons_succ, List.getD_cons_zero] <;> rfl)) ?_) | (refine plan_move _ _ (by rfl) (by rfl) (.inr (by rfl)) (by first | (with_reducible exact Mem.ev_const _ _) | (with_reducible exact Mem.ev_zero _ _ _) | (with_reducible (apply Eq.trans (Mem.ev_tmp _ _ _)); simp only [List.getD_cons_succ, List.getD_cons_zero] <;> rfl)) ?_) | (refine plan_pick_t _ _ _ _ (by rfl) (by rfl) (by rfl) (by first | (with_reducible exact Mem.ev_const _ _) | (with_reducible exact Mem.ev_zero _ _ _) | (with_reducible (apply Eq.trans (Mem.ev_tmp _ _ _)); simp only [List.getD_cons_succ, List.getD_cons_zero] <;> rfl)) (by first | (with_reducible exact Mem.ev_const _ _) | (with_reducible exact Mem.ev_zero _ _ _) | (with_reducible (apply Eq.trans (Mem.ev_tmp _ _ _)); simp only [List.getD_cons_succ, List.getD_cons_zero] <;> rfl)) ?_) | (refine plan_pick_f _ _ _ _ (by rfl) (by rfl) (by rfl) (by first | (with_reducible exact Mem.ev_const _ _) | (with_reducible exact Mem.ev_zero _ _ _) | (with_reducible (apply Eq.trans (Mem.ev_tmp _ _ _)); simp only [List.getD_cons_succ, List.getD_cons_zero] <;> rfl)) (by first | (with_reducible exact Mem.ev_const _ _) | (with_reducible exact Mem.ev_zero _ _ _) | (with_reducible (apply Eq.trans (Mem.ev_tmp _ _ _)); simp only [List.getD_cons_succ, List.getD_cons_zero] <;> rfl)) ?_))
  (simp only [Act.put, List.setIfInBounds_toArray, List.set_cons_zero, List.set_cons_succ])
  refine plan_index 28 5 _ _ bb oo 256 cap 5 (by rfl) (by rfl) (by rfl) (by first | (with_reducible exact Mem.ev_const _ _) | (with_reducible exact Mem.ev_zero _ _ _) | (with_reducible (apply Eq.trans (Mem.ev_tmp _ _ _)); simp only [List.getD_cons_succ, List.getD_cons_zero] <;> rfl)) (by rfl) (by omega) Try.underlying28 (by kernel_rfl) ?_
  (simp only [Act.put, List.setIfInBounds_toArray, List.set_cons_zero, List.set_cons_succ])
  refine plan_cell 5 _ _ (.int .u8 (x5 : Int)) _ (by rfl) (by rfl) (by rfl) (by first | (with_reducible exact Mem.ev_const _ _) | (with_reducible exact Mem.ev_zero _ _ _) | (with_reducible (apply Eq.trans (Mem.ev_tmp _ _ _)); simp only [List.getD_cons_succ, List.getD_cons_zero] <;> rfl)) (fun w' hw' => X5.out w' hw') Try.underlying5 (by rfl) ?_
  (simp only [Act.put, List.setIfInBounds_toArray, List.set_cons_zero, List.set_cons_succ])
  refine plan_conv 5 3 _ (.int .u8 (x5 : Int)) (.int .i64 (x5 : Int)) (by rfl) (by rfl) (by rfl) (by first | (with_reducible exact Mem.ev_const _ _) | (with_reducible exact Mem.ev_zero _ _ _) | (with_reducible (apply Eq.trans (Mem.ev_tmp _ _ _)); simp only [List.getD_cons_succ, List.getD_cons_zero] <;> rfl)) (fun wx => conv_bI11 x5 (by omega) wx) ?_
  (simp only [Act.put, List.setIfInBounds_toArray, List.set_cons_zero, List.set_cons_succ])
  (first | (refine plan_move _ _ (by rfl) (by rfl) (.inl (by rfl)) (by first | (with_reducible exact Mem.ev_const _ _) | (with_reducible exact Mem.ev_zero _ _ _) | (with_reducible (apply Eq.trans (Mem.ev_tmp _ _ _)); simp only [List.getD_cons_succ, List.getD_cons_zero] <;> rfl)) ?_) | (refine plan_move _ _ (by rfl) (by rfl) (.inr (by rfl)) (by first | (with_reducible exact Mem.ev_const _ _) | (with_reducible exact Mem.ev_zero _ _ _) | (with_reducible (apply Eq.trans (Mem.ev_tmp _ _ _)); simp only [List.getD_cons_succ, List.getD_cons_zero] <;> rfl)) ?_) | (refine plan_pick_t _ _ _ _ (by rfl) (by rfl) (by rfl) (by first | (with_reducible exact Mem.ev_const _ _) | (with_reducible exact Mem.ev_zero _ _ _) | (with_reducible (apply Eq.trans (Mem.ev_tmp _ _ _)); simp only [List.getD_cons_succ, List.getD_cons_zero] <;> rfl)) (by first | (with_reducible exact Mem.ev_const _ _) | (with_reducible exact Mem.ev_zero _ _ _) | (with_reducible (apply Eq.trans (Mem.ev_tmp _ _ _)); simp only [List.getD_cons_succ, List.getD_cons_zero] <;> rfl)) ?_) | (refine plan_pick_f _ _ _ _ (by rfl) (by rfl) (by rfl) (by first | (with_reducible exact Mem.ev_const _ _) | (with_reducible exact Mem.ev_zero _ _ _) | (with_reducible (apply Eq.trans (Mem.ev_tmp _ _ _)); simp only [List.getD_cons_succ, List.getD_cons_zero] <;> rfl)) (by first | (with_reducible exact Mem.ev_const _ _) | (with_reducible exact Mem.ev_zero _ _ _) | (with_reducible (apply Eq.trans (Mem.ev_tmp _ _ _)); simp only [List.getD_cons_succ, List.getD_cons_zero] <;> rfl)) ?_))
  (simp only [Act.put, List.setIfInBounds_toArray, List.set_cons_zero, List.set_cons_succ])
  refine plan_index 28 5 _ _ bb oo 256 cap 6 (by rfl) (by rfl) (by rfl) (by first | (with_reducible exact Mem.ev_const _ _) | (with_reducible exact Mem.ev_zero _ _ _) | (with_reducible (apply Eq.trans (Mem.ev_tmp _ _ _)); simp only [List.getD_cons_succ, List.getD_cons_zero] <;> rfl)) (by rfl) (by omega) Try.underlying28 (by kernel_rfl) ?_
  (simp only [Act.put, List.setIfInBounds_toArray, List.set_cons_zero, List.set_cons_succ])
  refine plan_cell 5 _ _ (.int .u8 (x6 : Int)) _ (by rfl) (by rfl) (by rfl) (by first | (with_reducible exact Mem.ev_const _ _) | (with_reducible exact Mem.ev_zero _ _ _) | (with_reducible (apply Eq.trans (Mem.ev_tmp _ _ _)); simp only [List.getD_cons_succ, List.getD_cons_zero] <;> rfl)) (fun w' hw' => X6.out w' hw') Try.underlying5 (by rfl) ?_
  (simp only [Act.put, List.setIfInBounds_toArray, List.set_cons_zero, List.set_cons_succ])
  refine plan_conv 5 3 _ (.int .u8 (x6 : Int)) (.int .i64 (x6 : Int)) (by rfl) (by rfl) (by rfl) (by first | (with_reducible exact Mem.ev_const _ _) | (with_reducible exact Mem.ev_zero _ _ _) | (with_reducible (apply Eq.trans (Mem.ev_tmp _ _ _)); simp only [List.getD_cons_succ, List.getD_cons_zero] <;> rfl)) (fun wx => conv_bI11 x6 (by omega) wx) ?_
  (simp only [Act.put, List.setIfInBounds_toArray, List.set_cons_zero, List.set_cons_succ])
  refine plan_bin _ _ _ _ _ _ _ _ (by rfl) (by rfl) (by rfl) (by first | (with_reducible exact Mem.ev_const _ _) | (with_reducible exact Mem.ev_zero _ _ _) | (with_reducible (apply Eq.trans (Mem.ev_tmp _ _ _)); simp only [List.getD_cons_succ, List.getD_cons_zero] <;> rfl)) (by first | (with_reducible exact Mem.ev_const _ _) | (with_reducible exact Mem.ev_zero _ _ _) | (with_reducible (apply Eq.trans (Mem.ev_tmp _ _ _)); simp only [List.getD_cons_succ, List.getD_cons_zero] <;> rfl)) (fun wx => o_imul _ _ _ _ 256 ((x6 : Nat) : Int) ((256 * x6 : Nat) : Int) (by omega) (by omega) (by omega) wx) ?_
  (simp only [Act.put, List.setIfInBounds_toArray, List.set_cons_zero, List.set_cons_succ])
  refine plan_bin _ _ _ _ _ _ _ _ (by rfl) (by rfl) (by rfl) (by first | (with_reducible exact Mem.ev_const _ _) | (with_reducible exact Mem.ev_zero _ _ _) | (with_reducible (apply Eq.trans (Mem.ev_tmp _ _ _)); simp only [List.getD_cons_succ, List.getD_cons_zero] <;> rfl)) (by first | (with_reducible exact Mem.ev_const _ _) | (with_reducible exact Mem.ev_zero _ _ _) | (with_reducible (apply Eq.trans (Mem.ev_tmp _ _ _)); simp only [List.getD_cons_succ, List.getD_cons_zero] <;> rfl)) (fun wx => o_iadd _ _ _ _ ((x5 : Nat) : Int) ((256 * x6 : Nat) : Int) ((x5 + (256 * x6) : Nat) : Int) (by omega) (by omega) (by omega) wx) ?_
  (simp only [Act.put, List.setIfInBounds_toArray, List.set_cons_zero, List.set_cons_succ])
  refine plan_build _ _ #[(0, .int .i64 (x4 : Int)), (1, .int .i64 ((x5 + (256 * x6) : Nat) : Int))] (.agg D) (by rfl) (by rfl) (by rfl) (by simp only [List.map_toArray, List.map_cons, List.map_nil, Mem.ev_tmp, List.getD_cons_succ, List.getD_cons_zero]) BLD.out ?_
  (simp only [Act.put, List.setIfInBounds_toArray, List.set_cons_zero, List.set_cons_succ])
  refine plan_alloc_any _ Z (by rfl) (by rfl) (by rfl) AL.out (fun W' h => h _ _ B0.out B0.out.size) ?_
  intro g W2 hA2 hg2 _ hk2
  (simp only [Act.put, List.setIfInBounds_toArray, List.set_cons_zero, List.set_cons_succ])
  have B2 : Hid (Below w1.heap.size w1 W2) := hk2 _ _ B0.out B0.out.size
  have A2 := Lib.hid hA2; have G2 : Hid (w1.heap.size ≤ g) := Nat.le_trans B0.out.size hg2
  clear hA2 hg2 hk2
  refine plan_store_any _ _ _ g D Z 27 (by rfl) (by rfl) (by rfl) (by rfl) (by first | (with_reducible exact Mem.ev_const _ _) | (with_reducible exact Mem.ev_zero _ _ _) | (with_reducible (apply Eq.trans (Mem.ev_tmp _ _ _)); simp only [List.getD_cons_succ, List.getD_cons_zero] <;> rfl)) (by first | (with_reducible exact Mem.ev_const _ _) | (with_reducible exact Mem.ev_zero _ _ _) | (with_reducible (apply Eq.trans (Mem.ev_tmp _ _ _)); simp only [List.getD_cons_succ, List.getD_cons_zero] <;> rfl)) (by rw [DS.out]; exact infoHdR) A2.out (by rw [DS.out, ZS.out]) DO.out (fun W' h => h _ _ B2.out G2.out) ?_
  intro W3 hA3 _ hk3
  have A3 := Lib.hid hA3; have B3 : Hid (Below w1.heap.size w1 W3) := hk3 _ _ B2.out G2.out
  clear hA3 hk3 A2 B2
  refine plan_nil ?_
  clear BLD AL B0 X4 X5 X6
  have I0 : Hid (HpInv (hdAt b 0 0 0 0 []) g w1 W3) := Lib.hid ⟨by rw [← HD.out]; exact A3.out, B3.out⟩
  clear A3 B3 HD DS DO
  generalize W3 = w3 at *
  go_wp2_with fail
  go_loopw [5] (fun i wr => ∃ j : Nat, j ≤ 16 ∧ i = .int .i64 j ∧ HpInv (hdAt b j 0 0 0 []) g w1 wr) (fun i _ => 16 - (intOf i).toNat)
  case atStart => exact ⟨0, by omega, rfl, I0.out⟩
  case round =>
    clear I0
    obtain ⟨j, hj, rfl, hI⟩ := hrel
    by_cases hlt : j < 16
    · have hlt' : (j : Int) < 16 := by omega
      have cb := CEL.out wr hI.b (7 + j) (by omega)
      have hset := hdAt_salt b HLN.out j hlt
      have hsz : 2 + j < (hdC (hdAt b j 0 0 0 [])).size := by rw [hdC_size (hdAt_wf b HLN.out j 0 0 0 [] (by omega) (by decide) (by decide) (by decide) (by decide) (by decide))]; omega
      obtain ⟨c, hcc⟩ : ∃ c, c = (b.getD (7 + j) 0).toNat := ⟨_, rfl⟩
      rw [← hcc] at cb hset
      obtain ⟨E, hE⟩ : ∃ E, E = hdC (hdAt b j 0 0 0 []) := ⟨_, rfl⟩
      have hr2 := hI.r
      rw [← hE] at hr2 hset hsz
      have II := Lib.hid hI; have RR := Lib.hid hr2; have SET := Lib.hid hset; have ES := Lib.hid hsz
      clear hI hr2 hset hsz hE hcc
      go_wp2_with (refine Mem.wpList_store_one (by rfl) 5 _ _ (by rfl) (by rfl) g (2 + j) (.int .u8 (c : Int)) (by rfl) (by rfl) (by rfl) infoB _ 27 RR.out ES.out ?_; intro w' hat' ho' hb'; have K' := Lib.hid hat'; have B' := Lib.hid hb'; clear hat' ho' hb')
      go_roundw
      case rel => exact ⟨j + 1, by omega, by go_num, by rw [← SET.out]; exact K'.out, B'.out _ _ II.out.b G2.out⟩
      case measure => simp [intOf]; omega
    · have hj16 : j = 16 := by omega
      have hge : ¬ (j : Int) < 16 := by omega
      subst hj16
      have I1 := Lib.hid hI
      clear hI hlt hj
      go_wp2_with fail
      go_loopw [6] (fun i wr => ∃ k : Nat, k ≤ 4 ∧ i = .int .i64 ((k : Int) - 1) ∧ HpInv (hdAt b 16 (rdN b k : Nat) 0 0 []) g w1 wr) (fun i _ => (intOf i + 1).toNat)
      case atStart => exact ⟨4, Nat.le_refl _, rfl, I1.out⟩
      case round =>
        clear I1
        obtain ⟨k', hk, rfl, hI⟩ := hrel
        cases k' with
        | succ k =>
          have hi : ((k + 1 : Nat) : Int) - 1 = (k : Int) := by omega
          rw [hi]
          have k0 : (0 : Int) ≤ (k : Int) := by omega
          have cb := CEL.out
          obtain ⟨c, hcc⟩ : ∃ c, c = (b.getD (23 + k) 0).toNat := ⟨_, rfl⟩
          have hc8 : c < 256 := by rw [hcc]; exact (b.getD (23 + k) 0).isLt
          have hst := rdN_step b HLN.out k (by omega)
          rw [← hcc] at hst
          have hset := hdAt_r b HLN.out ((rdN b (k + 1) : Nat) : Int) ((rdN b k : Nat) : Int)
          have hsz : (hdC (hdAt b 16 ((rdN b (k + 1) : Nat) : Int) 0 0 [])).size = 84 := hdC_size (hdAt_wf b HLN.out 16 _ 0 0 [] (by omega) (by decide) (by decide) (by have := rdN_lt b (k + 1); omega) (by have := rdN_lt b (k + 1); omega) (by decide))
          have he1 := rdN_lt b (k + 1)
          have wfk := hdAt_wf b HLN.out 16 ((rdN b (k + 1) : Nat) : Int) 0 0 [] (by omega) (by decide) (by decide) (by omega) (by omega) (by decide)
          have c1 : wr.drew.cell? ⟨g, 18, none⟩ = some (.int .i64 ((rdN b (k + 1) : Nat) : Int)) := (hI.r.cell 18).trans (hd_r wfk)
          rw [hst] at hset
          have hcb : ∀ wx, But g wr wx → wx.cell? ⟨bb, oo + (23 + k), none⟩ = some (.int .u8 (c : Int)) := fun wx h => by
            rw [World.cell?_of_block (w := wr) (w' := wx) (a := ⟨bb, oo + (23 + k), none⟩) (h.block bb (Nat.lt_of_lt_of_le BLT.out hI.b.size) (by have := BLT.out; have := G2.out; show bb ≠ g; omega)), hcc]
            exact CEL.out wr hI.b (23 + k) (by omega)
          obtain ⟨E, hE⟩ : ∃ E, E = hdC (hdAt b 16 ((rdN b (k + 1) : Nat) : Int) 0 0 []) := ⟨_, rfl⟩
          have hr2 := hI.r
          rw [← hE] at hr2 hset hsz
          obtain ⟨e1, he⟩ : ∃ e, e = rdN b (k + 1) := ⟨_, rfl⟩
          rw [← he] at hset he1 hst c1
          have II := Lib.hid hI.b; have RR := Lib.hid hr2; have SET := Lib.hid hset; have ES := Lib.hid hsz; have CB := Lib.hid hcb; have C1 := Lib.hid c1; have ST := Lib.hid hst
          have DR : Hid (But g wr wr.drew) := Lib.hid ⟨Nat.le_refl _, fun _ _ _ => rfl⟩
          clear hI hr2 hset hsz hE hcc hcb c1 hst he wfk cb
          go_wp2_with fail
          refine wp_region_plan_in (fun x => But g wr x) (.take 0 (.take 1 (.take 4 (.take 5 (.take 6 (.take 7 (.take 8 (.take 9 (.sole 2 (.take 3 (.take 10 (.take 11 (.take 12 (.sole 13 .done)))))))))))))) (by kernel_rfl) (by kernel_rfl) (by kernel_rfl) DR.out ?_
          refine plan_field 27 _ 2 g 0 ⟨g, 2, none⟩ (by rfl) (by rfl) (by rfl) (by first | (with_reducible exact Mem.ev_const _ _) | (with_reducible exact Mem.ev_zero _ _ _) | (with_reducible (apply Eq.trans (Mem.ev_tmp _ _ _)); simp only [List.getD_cons_succ, List.getD_cons_zero] <;> rfl)) (fun wx => by go_simp) ?_
          (simp only [Act.put, List.setIfInBounds_toArray, List.set_cons_zero, List.set_cons_succ])
          refine plan_field 25 _ 1 g 2 ⟨g, 18, none⟩ (by rfl) (by rfl) (by rfl) (by first | (with_reducible exact Mem.ev_const _ _) | (with_reducible exact Mem.ev_zero _ _ _) | (with_reducible (apply Eq.trans (Mem.ev_tmp _ _ _)); simp only [List.getD_cons_succ, List.getD_cons_zero] <;> rfl)) (fun wx => by go_simp) ?_
          (simp only [Act.put, List.setIfInBounds_toArray, List.set_cons_zero, List.set_cons_succ])
          (first | (refine plan_move _ _ (by rfl) (by rfl) (.inl (by rfl)) (by first | (with_reducible exact Mem.ev_const _ _) | (with_reducible exact Mem.ev_zero _ _ _) | (with_reducible (apply Eq.trans (Mem.ev_tmp _ _ _)); simp only [List.getD_cons_succ, List.getD_cons_zero] <;> rfl)) ?_) | (refine plan_move _ _ (by rfl) (by rfl) (.inr (by rfl)) (by first | (with_reducible exact Mem.ev_const _ _) | (with_reducible exact Mem.ev_zero _ _ _) | (with_reducible (apply Eq.trans (Mem.ev_tmp _ _ _)); simp only [List.getD_cons_succ, List.getD_cons_zero] <;> rfl)) ?_) | (refine plan_pick_t _ _ _ _ (by rfl) (by rfl) (by rfl) (by first | (with_reducible exact Mem.ev_const _ _) | (with_reducible exact Mem.ev_zero _ _ _) | (with_reducible (apply Eq.trans (Mem.ev_tmp _ _ _)); simp only [List.getD_cons_succ, List.getD_cons_zero] <;> rfl)) (by first | (with_reducible exact Mem.ev_const _ _) | (with_reducible exact Mem.ev_zero _ _ _) | (with_reducible (apply Eq.trans (Mem.ev_tmp _ _ _)); simp only [List.getD_cons_succ, List.getD_cons_zero] <;> rfl)) ?_) | (refine plan_pick_f _ _ _ _ (by rfl) (by rfl) (by rfl) (by first | (with_reducible exact Mem.ev_const _ _) | (with_reducible exact Mem.ev_zero _ _ _) | (with_reducible (apply Eq.trans (Mem.ev_tmp _ _ _)); simp only [List.getD_cons_succ, List.getD_cons_zero] <;> rfl)) (by first | (with_reducible exact Mem.ev_const _ _) | (with_reducible exact Mem.ev_zero _ _ _) | (with_reducible (apply Eq.trans (Mem.ev_tmp _ _ _)); simp only [List.getD_cons_succ, List.getD_cons_zero] <;> rfl)) ?_))
          (simp only [Act.put, List.setIfInBounds_toArray, List.set_cons_zero, List.set_cons_succ])
          (first | (refine plan_move _ _ (by rfl) (by rfl) (.inl (by rfl)) (by first | (with_reducible exact Mem.ev_const _ _) | (with_reducible exact Mem.ev_zero _ _ _) | (with_reducible (apply Eq.trans (Mem.ev_tmp _ _ _)); simp only [List.getD_cons_succ, List.getD_cons_zero] <;> rfl)) ?_) | (refine plan_move _ _ (by rfl) (by rfl) (.inr (by rfl)) (by first | (with_reducible exact Mem.ev_const _ _) | (with_reducible exact Mem.ev_zero _ _ _) | (with_reducible (apply Eq.trans (Mem.ev_tmp _ _ _)); simp only [List.getD_cons_succ, List.getD_cons_zero] <;> rfl)) ?_) | (refine plan_pick_t _ _ _ _ (by rfl) (by rfl) (by rfl) (by first | (with_reducible exact Mem.ev_const _ _) | (with_reducible exact Mem.ev_zero _ _ _) | (with_reducible (apply Eq.trans (Mem.ev_tmp _ _ _)); simp only [List.getD_cons_succ, List.getD_cons_zero] <;> rfl)) (by first | (with_reducible exact Mem.ev_const _ _) | (with_reducible exact Mem.ev_zero _ _ _) | (with_reducible (apply Eq.trans (Mem.ev_tmp _ _ _)); simp only [List.getD_cons_succ, List.getD_cons_zero] <;> rfl)) ?_) | (refine plan_pick_f _ _ _ _ (by rfl) (by rfl) (by rfl) (by first | (with_reducible exact Mem.ev_const _ _) | (with_reducible exact Mem.ev_zero _ _ _) | (with_reducible (apply Eq.trans (Mem.ev_tmp _ _ _)); simp only [List.getD_cons_succ, List.getD_cons_zero] <;> rfl)) (by first | (with_reducible exact Mem.ev_const _ _) | (with_reducible exact Mem.ev_zero _ _ _) | (with_reducible (apply Eq.trans (Mem.ev_tmp _ _ _)); simp only [List.getD_cons_succ, List.getD_cons_zero] <;> rfl)) ?_))
          (simp only [Act.put, List.setIfInBounds_toArray, List.set_cons_zero, List.set_cons_succ])
          refine plan_bin _ _ _ _ _ _ _ (.int .i64 ((23 + k : Nat) : Int)) (by rfl) (by rfl) (by rfl) (by rfl) (by first | (with_reducible exact Mem.ev_const _ _) | (with_reducible exact Mem.ev_zero _ _ _) | (with_reducible (apply Eq.trans (Mem.ev_tmp _ _ _)); simp only [List.getD_cons_succ, List.getD_cons_zero] <;> rfl)) (fun wx => o_iadd _ _ _ _ _ _ _ (by omega) (by omega) (by omega) wx) ?_
          (simp only [Act.put, List.setIfInBounds_toArray, List.set_cons_zero, List.set_cons_succ])
          refine plan_index 28 5 _ _ bb oo 256 cap (23 + k) (by rfl) (by rfl) (by rfl) (by first | (with_reducible exact Mem.ev_const _ _) | (with_reducible exact Mem.ev_zero _ _ _) | (with_reducible (apply Eq.trans (Mem.ev_tmp _ _ _)); simp only [List.getD_cons_succ, List.getD_cons_zero] <;> rfl)) (by first | (with_reducible exact Mem.ev_const _ _) | (with_reducible exact Mem.ev_zero _ _ _) | (with_reducible (apply Eq.trans (Mem.ev_tmp _ _ _)); simp only [List.getD_cons_succ, List.getD_cons_zero] <;> rfl)) (by omega) Try.underlying28 (by kernel_rfl) ?_
          (simp only [Act.put, List.setIfInBounds_toArray, List.set_cons_zero, List.set_cons_succ])
          refine plan_cell 5 _ _ (.int .u8 (c : Int)) _ (by rfl) (by rfl) (by rfl) (by first | (with_reducible exact Mem.ev_const _ _) | (with_reducible exact Mem.ev_zero _ _ _) | (with_reducible (apply Eq.trans (Mem.ev_tmp _ _ _)); simp only [List.getD_cons_succ, List.getD_cons_zero] <;> rfl)) (fun w' hw' => CB.out w' hw') Try.underlying5 (by rfl) ?_
          (simp only [Act.put, List.setIfInBounds_toArray, List.set_cons_zero, List.set_cons_succ])
          refine plan_conv 5 3 _ (.int .u8 (c : Int)) (.int .i64 (c : Int)) (by rfl) (by rfl) (by rfl) (by first | (with_reducible exact Mem.ev_const _ _) | (with_reducible exact Mem.ev_zero _ _ _) | (with_reducible (apply Eq.trans (Mem.ev_tmp _ _ _)); simp only [List.getD_cons_succ, List.getD_cons_zero] <;> rfl)) (fun wx => conv_bI11 c (by omega) wx) ?_
          (simp only [Act.put, List.setIfInBounds_toArray, List.set_cons_zero, List.set_cons_succ])
          refine plan_sole_cell 3 _ _ (.int .i64 (e1 : Int)) _ (by rfl) (by rfl) (by rfl) (by first | (with_reducible exact Mem.ev_const _ _) | (with_reducible exact Mem.ev_zero _ _ _) | (with_reducible (apply Eq.trans (Mem.ev_tmp _ _ _)); simp only [List.getD_cons_succ, List.getD_cons_zero] <;> rfl)) C1.out Try.underlying3 (by rfl) DR.out ?_
          (simp only [Act.put, List.setIfInBounds_toArray, List.set_cons_zero, List.set_cons_succ])
          refine plan_bin _ _ _ _ _ _ _ (.int .i64 ((256 * e1 : Nat) : Int)) (by rfl) (by rfl) (by rfl) (by rfl) (by first | (with_reducible exact Mem.ev_const _ _) | (with_reducible exact Mem.ev_zero _ _ _) | (with_reducible (apply Eq.trans (Mem.ev_tmp _ _ _)); simp only [List.getD_cons_succ, List.getD_cons_zero] <;> rfl)) (fun wx => o_imul _ _ _ _ _ _ _ (by omega) (by omega) (by omega) wx) ?_
          (simp only [Act.put, List.setIfInBounds_toArray, List.set_cons_zero, List.set_cons_succ])
          refine plan_bin _ _ _ _ _ _ _ (.int .i64 ((256 * e1 + c : Nat) : Int)) (by rfl) (by rfl) (by rfl) (by first | (with_reducible exact Mem.ev_const _ _) | (with_reducible exact Mem.ev_zero _ _ _) | (with_reducible (apply Eq.trans (Mem.ev_tmp _ _ _)); simp only [List.getD_cons_succ, List.getD_cons_zero] <;> rfl)) (by first | (with_reducible exact Mem.ev_const _ _) | (with_reducible exact Mem.ev_zero _ _ _) | (with_reducible (apply Eq.trans (Mem.ev_tmp _ _ _)); simp only [List.getD_cons_succ, List.getD_cons_zero] <;> rfl)) (fun wx => o_iadd _ _ _ _ _ _ _ (by omega) (by omega) (by omega) wx) ?_
          (simp only [Act.put, List.setIfInBounds_toArray, List.set_cons_zero, List.set_cons_succ])
          refine plan_field 27 _ 2 g 0 ⟨g, 2, none⟩ (by rfl) (by rfl) (by rfl) (by first | (with_reducible exact Mem.ev_const _ _) | (with_reducible exact Mem.ev_zero _ _ _) | (with_reducible (apply Eq.trans (Mem.ev_tmp _ _ _)); simp only [List.getD_cons_succ, List.getD_cons_zero] <;> rfl)) (fun wx => by go_simp) ?_
          (simp only [Act.put, List.setIfInBounds_toArray, List.set_cons_zero, List.set_cons_succ])
          refine plan_field 25 _ 1 g 2 ⟨g, 18, none⟩ (by rfl) (by rfl) (by rfl) (by first | (with_reducible exact Mem.ev_const _ _) | (with_reducible exact Mem.ev_zero _ _ _) | (with_reducible (apply Eq.trans (Mem.ev_tmp _ _ _)); simp only [List.getD_cons_succ, List.getD_cons_zero] <;> rfl)) (fun wx => by go_simp) ?_
          (simp only [Act.put, List.setIfInBounds_toArray, List.set_cons_zero, List.set_cons_succ])
          refine plan_store_one 3 _ _ g 18 (.int .i64 ((256 * e1 + c : Nat) : Int)) _ 27 (by rfl) (by rfl) (by rfl) (by rfl) (by first | (with_reducible exact Mem.ev_const _ _) | (with_reducible exact Mem.ev_zero _ _ _) | (with_reducible (apply Eq.trans (Mem.ev_tmp _ _ _)); simp only [List.getD_cons_succ, List.getD_cons_zero] <;> rfl)) (by first | (with_reducible exact Mem.ev_const _ _) | (with_reducible exact Mem.ev_zero _ _ _) | (with_reducible (apply Eq.trans (Mem.ev_tmp _ _ _)); simp only [List.getD_cons_succ, List.getD_cons_zero] <;> rfl)) (by rfl) infoI64' RR.out (by rw [ES.out]; decide) (DR.out.row (by simp) (fun j hj => heap_setCell_other _ _ _ _ hj)) ?_
          refine plan_nil ?_
          go_wp2_with fail
          go_roundw
          case rel => exact ⟨k, by omega, by go_num, by have h := RR.out.set 18 (.int .i64 ((256 * e1 + c : Nat) : Int)); rw [SET.out] at h; rw [ST.out]; exact h, (II.out.drew.setCell G2.out _)⟩
          case measure => simp [intOf]
        | zero =>
          rw [show ((0 : Nat) : Int) - 1 = -1 by rfl]
          have I2 := Lib.hid hI
          clear hI hk
          go_wp2_with fail
          go_loopw [7] (fun i wr => ∃ k : Nat, k ≤ 32 ∧ i = .int .i64 k ∧ HpInv (hdAt b 16 (rdN b 0 : Nat) k k []) g w1 wr) (fun i _ => 32 - (intOf i).toNat)
          case atStart => exact ⟨0, by omega, rfl, I2.out⟩
          case round =>
            clear I2
            obtain ⟨k, hk, rfl, hI⟩ := hrel
            have hrl := rdN_lt b 0
            by_cases hlt : k < 32
            · have hlt' : (k : Int) < 32 := by omega
              have s1 := hdAt_key b HLN.out ((rdN b 0 : Nat) : Int) k k hlt
              have s2 := hdAt_ck b HLN.out ((rdN b 0 : Nat) : Int) (k + 1) k (by omega) hlt
              have z1 : (hdC (hdAt b 16 ((rdN b 0 : Nat) : Int) k k [])).size = 84 := hdC_size (hdAt_wf b HLN.out 16 _ k k [] (by omega) (by omega) (by omega) (by omega) (by omega) (by decide))
              have z2 : (hdC (hdAt b 16 ((rdN b 0 : Nat) : Int) (k + 1) k [])).size = 84 := hdC_size (hdAt_wf b HLN.out 16 _ (k + 1) k [] (by omega) (by omega) (by omega) (by omega) (by omega) (by decide))
              obtain ⟨c, hcc⟩ : ∃ c, c = (b.getD (27 + k) 0).toNat := ⟨_, rfl⟩
              obtain ⟨d, hdd⟩ : ∃ d, d = (b.getD (59 + k) 0).toNat := ⟨_, rfl⟩
              have hcb : ∀ wx, But g wr wx → wx.cell? ⟨bb, oo + (27 + k), none⟩ = some (.int .u8 (c : Int)) := fun wx h => by
                rw [World.cell?_of_block (w := wr) (w' := wx) (a := ⟨bb, oo + (27 + k), none⟩) (h.block bb (Nat.lt_of_lt_of_le BLT.out hI.b.size) (by have := BLT.out; have := G2.out; show bb ≠ g; omega)), hcc]
                exact CEL.out wr hI.b (27 + k) (by omega)
              have hcd : ∀ wx, But g wr wx → wx.cell? ⟨bb, oo + (59 + k), none⟩ = some (.int .u8 (d : Int)) := fun wx h => by
                rw [World.cell?_of_block (w := wr) (w' := wx) (a := ⟨bb, oo + (59 + k), none⟩) (h.block bb (Nat.lt_of_lt_of_le BLT.out hI.b.size) (by have := BLT.out; have := G2.out; show bb ≠ g; omega)), hdd]
                exact CEL.out wr hI.b (59 + k) (by omega)
              rw [← hcc] at s1
              rw [← hdd] at s2
              obtain ⟨E, hE⟩ : ∃ E, E = hdC (hdAt b 16 ((rdN b 0 : Nat) : Int) k k []) := ⟨_, rfl⟩
              obtain ⟨E2, hE2⟩ : ∃ E, E = hdC (hdAt b 16 ((rdN b 0 : Nat) : Int) (k + 1) k []) := ⟨_, rfl⟩
              have hr2 := hI.r
              rw [← hE] at hr2 s1 z1
              rw [← hE2] at s1 s2 z2
              have II := Lib.hid hI.b; have RR := Lib.hid hr2; have SET1 := Lib.hid s1; have SET2 := Lib.hid s2; have ES := Lib.hid z1; have ES2 := Lib.hid z2; have CB := Lib.hid hcb; have CD := Lib.hid hcd
              have DR : Hid (But g wr wr.drew) := Lib.hid ⟨Nat.le_refl _, fun _ _ _ => rfl⟩
              clear hI hr2 s1 s2 z1 z2 hE hE2 hcc hdd hcb hcd hrl
              go_wp2_with fail
              refine wp_region_plan_in (fun x => But g wr x) (.take 0 (.take 1 (.take 2 (.take 3 (.take 4 (.take 5 (.take 6 (.take 7 (.take 8 (.take 9 (.take 10 (.take 11 (.take 12 (.take 13 (.take 14 (.take 16 (.take 17 (.sole 15 (.take 18 (.sole 19 .done)))))))))))))))))))) (by kernel_rfl) (by kernel_rfl) (by kernel_rfl) DR.out ?_
              (first | (refine plan_move _ _ (by rfl) (by rfl) (.inl (by rfl)) (by first | (with_reducible exact Mem.ev_const _ _) | (with_reducible exact Mem.ev_zero _ _ _) | (with_reducible (apply Eq.trans (Mem.ev_tmp _ _ _)); simp only [List.getD_cons_succ, List.getD_cons_zero] <;> rfl)) ?_) | (refine plan_move _ _ (by rfl) (by rfl) (.inr (by rfl)) (by first | (with_reducible exact Mem.ev_const _ _) | (with_reducible exact Mem.ev_zero _ _ _) | (with_reducible (apply Eq.trans (Mem.ev_tmp _ _ _)); simp only [List.getD_cons_succ, List.getD_cons_zero] <;> rfl)) ?_) | (refine plan_pick_t _ _ _ _ (by rfl) (by rfl) (by rfl) (by first | (with_reducible exact Mem.ev_const _ _) | (with_reducible exact Mem.ev_zero _ _ _) | (with_reducible (apply Eq.trans (Mem.ev_tmp _ _ _)); simp only [List.getD_cons_succ, List.getD_cons_zero] <;> rfl)) (by first | (with_reducible exact Mem.ev_const _ _) | (with_reducible exact Mem.ev_zero _ _ _) | (with_reducible (apply Eq.trans (Mem.ev_tmp _ _ _)); simp only [List.getD_cons_succ, List.getD_cons_zero] <;> rfl)) ?_) | (refine plan_pick_f _ _ _ _ (by rfl) (by rfl) (by rfl) (by first | (with_reducible exact Mem.ev_const _ _) | (with_reducible exact Mem.ev_zero _ _ _) | (with_reducible (apply Eq.trans (Mem.ev_tmp _ _ _)); simp only [List.getD_cons_succ, List.getD_cons_zero] <;> rfl)) (by first | (with_reducible exact Mem.ev_const _ _) | (with_reducible exact Mem.ev_zero _ _ _) | (with_reducible (apply Eq.trans (Mem.ev_tmp _ _ _)); simp only [List.getD_cons_succ, List.getD_cons_zero] <;> rfl)) ?_))
              (simp only [Act.put, List.setIfInBounds_toArray, List.set_cons_zero, List.set_cons_succ])
              (first | (refine plan_move _ _ (by rfl) (by rfl) (.inl (by rfl)) (by first | (with_reducible exact Mem.ev_const _ _) | (with_reducible exact Mem.ev_zero _ _ _) | (with_reducible (apply Eq.trans (Mem.ev_tmp _ _ _)); simp only [List.getD_cons_succ, List.getD_cons_zero] <;> rfl)) ?_) | (refine plan_move _ _ (by rfl) (by rfl) (.inr (by rfl)) (by first | (with_reducible exact Mem.ev_const _ _) | (with_reducible exact Mem.ev_zero _ _ _) | (with_reducible (apply Eq.trans (Mem.ev_tmp _ _ _)); simp only [List.getD_cons_succ, List.getD_cons_zero] <;> rfl)) ?_) | (refine plan_pick_t _ _ _ _ (by rfl) (by rfl) (by rfl) (by first | (with_reducible exact Mem.ev_const _ _) | (with_reducible exact Mem.ev_zero _ _ _) | (with_reducible (apply Eq.trans (Mem.ev_tmp _ _ _)); simp only [List.getD_cons_succ, List.getD_cons_zero] <;> rfl)) (by first | (with_reducible exact Mem.ev_const _ _) | (with_reducible exact Mem.ev_zero _ _ _) | (with_reducible (apply Eq.trans (Mem.ev_tmp _ _ _)); simp only [List.getD_cons_succ, List.getD_cons_zero] <;> rfl)) ?_) | (refine plan_pick_f _ _ _ _ (by rfl) (by rfl) (by rfl) (by first | (with_reducible exact Mem.ev_const _ _) | (with_reducible exact Mem.ev_zero _ _ _) | (with_reducible (apply Eq.trans (Mem.ev_tmp _ _ _)); simp only [List.getD_cons_succ, List.getD_cons_zero] <;> rfl)) (by first | (with_reducible exact Mem.ev_const _ _) | (with_reducible exact Mem.ev_zero _ _ _) | (with_reducible (apply Eq.trans (Mem.ev_tmp _ _ _)); simp only [List.getD_cons_succ, List.getD_cons_zero] <;> rfl)) ?_))
              (simp only [Act.put, List.setIfInBounds_toArray, List.set_cons_zero, List.set_cons_succ])
              (first | (refine plan_move _ _ (by rfl) (by rfl) (.inl (by rfl)) (by first | (with_reducible exact Mem.ev_const _ _) | (with_reducible exact Mem.ev_zero _ _ _) | (with_reducible (apply Eq.trans (Mem.ev_tmp _ _ _)); simp only [List.getD_cons_succ, List.getD_cons_zero] <;> rfl)) ?_) | (refine plan_move _ _ (by rfl) (by rfl) (.inr (by rfl)) (by first | (with_reducible exact Mem.ev_const _ _) | (with_reducible exact Mem.ev_zero _ _ _) | (with_reducible (apply Eq.trans (Mem.ev_tmp _ _ _)); simp only [List.getD_cons_succ, List.getD_cons_zero] <;> rfl)) ?_) | (refine plan_pick_t _ _ _ _ (by rfl) (by rfl) (by rfl) (by first | (with_reducible exact Mem.ev_const _ _) | (with_reducible exact Mem.ev_zero _ _ _) | (with_reducible (apply Eq.trans (Mem.ev_tmp _ _ _)); simp only [List.getD_cons_succ, List.getD_cons_zero] <;> rfl)) (by first | (with_reducible exact Mem.ev_const _ _) | (with_reducible exact Mem.ev_zero _ _ _) | (with_reducible (apply Eq.trans (Mem.ev_tmp _ _ _)); simp only [List.getD_cons_succ, List.getD_cons_zero] <;> rfl)) ?_) | (refine plan_pick_f _ _ _ _ (by rfl) (by rfl) (by rfl) (by first | (with_reducible exact Mem.ev_const _ _) | (with_reducible exact Mem.ev_zero _ _ _) | (with_reducible (apply Eq.trans (Mem.ev_tmp _ _ _)); simp only [List.getD_cons_succ, List.getD_cons_zero] <;> rfl)) (by first | (with_reducible exact Mem.ev_const _ _) | (with_reducible exact Mem.ev_zero _ _ _) | (with_reducible (apply Eq.trans (Mem.ev_tmp _ _ _)); simp only [List.getD_cons_succ, List.getD_cons_zero] <;> rfl)) ?_))
              (simp only [Act.put, List.setIfInBounds_toArray, List.set_cons_zero, List.set_cons_succ])
              (first | (refine plan_move _ _ (by rfl) (by rfl) (.inl (by rfl)) (by first | (with_reducible exact Mem.ev_const _ _) | (with_reducible exact Mem.ev_zero _ _ _) | (with_reducible (apply Eq.trans (Mem.ev_tmp _ _ _)); simp only [List.getD_cons_succ, List.getD_cons_zero] <;> rfl)) ?_) | (refine plan_move _ _ (by rfl) (by rfl) (.inr (by rfl)) (by first | (with_reducible exact Mem.ev_const _ _) | (with_reducible exact Mem.ev_zero _ _ _) | (with_reducible (apply Eq.trans (Mem.ev_tmp _ _ _)); simp only [List.getD_cons_succ, List.getD_cons_zero] <;> rfl)) ?_) | (refine plan_pick_t _ _ _ _ (by rfl) (by rfl) (by rfl) (by first | (with_reducible exact Mem.ev_const _ _) | (with_reducible exact Mem.ev_zero _ _ _) | (with_reducible (apply Eq.trans (Mem.ev_tmp _ _ _)); simp only [List.getD_cons_succ, List.getD_cons_zero] <;> rfl)) (by first | (with_reducible exact Mem.ev_const _ _) | (with_reducible exact Mem.ev_zero _ _ _) | (with_reducible (apply Eq.trans (Mem.ev_tmp _ _ _)); simp only [List.getD_cons_succ, List.getD_cons_zero] <;> rfl)) ?_) | (refine plan_pick_f _ _ _ _ (by rfl) (by rfl) (by rfl) (by first | (with_reducible exact Mem.ev_const _ _) | (with_reducible exact Mem.ev_zero _ _ _) | (with_reducible (apply Eq.trans (Mem.ev_tmp _ _ _)); simp only [List.getD_cons_succ, List.getD_cons_zero] <;> rfl)) (by first | (with_reducible exact Mem.ev_const _ _) | (with_reducible exact Mem.ev_zero _ _ _) | (with_reducible (apply Eq.trans (Mem.ev_tmp _ _ _)); simp only [List.getD_cons_succ, List.getD_cons_zero] <;> rfl)) ?_))
              (simp only [Act.put, List.setIfInBounds_toArray, List.set_cons_zero, List.set_cons_succ])
              refine plan_bin _ _ _ _ _ _ _ (.int .i64 ((27 + k : Nat) : Int)) (by rfl) (by rfl) (by rfl) (by rfl) (by first | (with_reducible exact Mem.ev_const _ _) | (with_reducible exact Mem.ev_zero _ _ _) | (with_reducible (apply Eq.trans (Mem.ev_tmp _ _ _)); simp only [List.getD_cons_succ, List.getD_cons_zero] <;> rfl)) (fun wx => o_iadd _ _ _ _ _ _ _ (by omega) (by omega) (by omega) wx) ?_
              (simp only [Act.put, List.setIfInBounds_toArray, List.set_cons_zero, List.set_cons_succ])
              refine plan_index 28 5 _ _ bb oo 256 cap (27 + k) (by rfl) (by rfl) (by rfl) (by first | (with_reducible exact Mem.ev_const _ _) | (with_reducible exact Mem.ev_zero _ _ _) | (with_reducible (apply Eq.trans (Mem.ev_tmp _ _ _)); simp only [List.getD_cons_succ, List.getD_cons_zero] <;> rfl)) (by first | (with_reducible exact Mem.ev_const _ _) | (with_reducible exact Mem.ev_zero _ _ _) | (with_reducible (apply Eq.trans (Mem.ev_tmp _ _ _)); simp only [List.getD_cons_succ, List.getD_cons_zero] <;> rfl)) (by omega) Try.underlying28 (by kernel_rfl) ?_
              (simp only [Act.put, List.setIfInBounds_toArray, List.set_cons_zero, List.set_cons_succ])
              refine plan_cell 5 _ _ (.int .u8 (c : Int)) _ (by rfl) (by rfl) (by rfl) (by first | (with_reducible exact Mem.ev_const _ _) | (with_reducible exact Mem.ev_zero _ _ _) | (with_reducible (apply Eq.trans (Mem.ev_tmp _ _ _)); simp only [List.getD_cons_succ, List.getD_cons_zero] <;> rfl)) (fun w' hw' => CB.out w' hw') Try.underlying5 (by rfl) ?_
              (simp only [Act.put, List.setIfInBounds_toArray, List.set_cons_zero, List.set_cons_succ])
              (first | (refine plan_move _ _ (by rfl) (by rfl) (.inl (by rfl)) (by first | (with_reducible exact Mem.ev_const _ _) | (with_reducible exact Mem.ev_zero _ _ _) | (with_reducible (apply Eq.trans (Mem.ev_tmp _ _ _)); simp only [List.getD_cons_succ, List.getD_cons_zero] <;> rfl)) ?_) | (refine plan_move _ _ (by rfl) (by rfl) (.inr (by rfl)) (by first | (with_reducible exact Mem.ev_const _ _) | (with_reducible exact Mem.ev_zero _ _ _) | (with_reducible (apply Eq.trans (Mem.ev_tmp _ _ _)); simp only [List.getD_cons_succ, List.getD_cons_zero] <;> rfl)) ?_) | (refine plan_pick_t _ _ _ _ (by rfl) (by rfl) (by rfl) (by first | (with_reducible exact Mem.ev_const _ _) | (with_reducible exact Mem.ev_zero _ _ _) | (with_reducible (apply Eq.trans (Mem.ev_tmp _ _ _)); simp only [List.getD_cons_succ, List.getD_cons_zero] <;> rfl)) (by first | (with_reducible exact Mem.ev_const _ _) | (with_reducible exact Mem.ev_zero _ _ _) | (with_reducible (apply Eq.trans (Mem.ev_tmp _ _ _)); simp only [List.getD_cons_succ, List.getD_cons_zero] <;> rfl)) ?_) | (refine plan_pick_f _ _ _ _ (by rfl) (by rfl) (by rfl) (by first | (with_reducible exact Mem.ev_const _ _) | (with_reducible exact Mem.ev_zero _ _ _) | (with_reducible (apply Eq.trans (Mem.ev_tmp _ _ _)); simp only [List.getD_cons_succ, List.getD_cons_zero] <;> rfl)) (by first | (with_reducible exact Mem.ev_const _ _) | (with_reducible exact Mem.ev_zero _ _ _) | (with_reducible (apply Eq.trans (Mem.ev_tmp _ _ _)); simp only [List.getD_cons_succ, List.getD_cons_zero] <;> rfl)) ?_))
              (simp only [Act.put, List.setIfInBounds_toArray, List.set_cons_zero, List.set_cons_succ])
              (first | (refine plan_move _ _ (by rfl) (by rfl) (.inl (by rfl)) (by first | (with_reducible exact Mem.ev_const _ _) | (with_reducible exact Mem.ev_zero _ _ _) | (with_reducible (apply Eq.trans (Mem.ev_tmp _ _ _)); simp only [List.getD_cons_succ, List.getD_cons_zero] <;> rfl)) ?_) | (refine plan_move _ _ (by rfl) (by rfl) (.inr (by rfl)) (by first | (with_reducible exact Mem.ev_const _ _) | (with_reducible exact Mem.ev_zero _ _ _) | (with_reducible (apply Eq.trans (Mem.ev_tmp _ _ _)); simp only [List.getD_cons_succ, List.getD_cons_zero] <;> rfl)) ?_) | (refine plan_pick_t _ _ _ _ (by rfl) (by rfl) (by rfl) (by first | (with_reducible exact Mem.ev_const _ _) | (with_reducible exact Mem.ev_zero _ _ _) | (with_reducible (apply Eq.trans (Mem.ev_tmp _ _ _)); simp only [List.getD_cons_succ, List.getD_cons_zero] <;> rfl)) (by first | (with_reducible exact Mem.ev_const _ _) | (with_reducible exact Mem.ev_zero _ _ _) | (with_reducible (apply Eq.trans (Mem.ev_tmp _ _ _)); simp only [List.getD_cons_succ, List.getD_cons_zero] <;> rfl)) ?_) | (refine plan_pick_f _ _ _ _ (by rfl) (by rfl) (by rfl) (by first | (with_reducible exact Mem.ev_const _ _) | (with_reducible exact Mem.ev_zero _ _ _) | (with_reducible (apply Eq.trans (Mem.ev_tmp _ _ _)); simp only [List.getD_cons_succ, List.getD_cons_zero] <;> rfl)) (by first | (with_reducible exact Mem.ev_const _ _) | (with_reducible exact Mem.ev_zero _ _ _) | (with_reducible (apply Eq.trans (Mem.ev_tmp _ _ _)); simp only [List.getD_cons_succ, List.getD_cons_zero] <;> rfl)) ?_))
              (simp only [Act.put, List.setIfInBounds_toArray, List.set_cons_zero, List.set_cons_succ])
              refine plan_bin _ _ _ _ _ _ _ (.int .i64 ((59 + k : Nat) : Int)) (by rfl) (by rfl) (by rfl) (by rfl) (by first | (with_reducible exact Mem.ev_const _ _) | (with_reducible exact Mem.ev_zero _ _ _) | (with_reducible (apply Eq.trans (Mem.ev_tmp _ _ _)); simp only [List.getD_cons_succ, List.getD_cons_zero] <;> rfl)) (fun wx => o_iadd _ _ _ _ _ _ _ (by omega) (by omega) (by omega) wx) ?_
              (simp only [Act.put, List.setIfInBounds_toArray, List.set_cons_zero, List.set_cons_succ])
              refine plan_index 28 5 _ _ bb oo 256 cap (59 + k) (by rfl) (by rfl) (by rfl) (by first | (with_reducible exact Mem.ev_const _ _) | (with_reducible exact Mem.ev_zero _ _ _) | (with_reducible (apply Eq.trans (Mem.ev_tmp _ _ _)); simp only [List.getD_cons_succ, List.getD_cons_zero] <;> rfl)) (by first | (with_reducible exact Mem.ev_const _ _) | (with_reducible exact Mem.ev_zero _ _ _) | (with_reducible (apply Eq.trans (Mem.ev_tmp _ _ _)); simp only [List.getD_cons_succ, List.getD_cons_zero] <;> rfl)) (by omega) Try.underlying28 (by kernel_rfl) ?_
              (simp only [Act.put, List.setIfInBounds_toArray, List.set_cons_zero, List.set_cons_succ])
              refine plan_cell 5 _ _ (.int .u8 (d : Int)) _ (by rfl) (by rfl) (by rfl) (by first | (with_reducible exact Mem.ev_const _ _) | (with_reducible exact Mem.ev_zero _ _ _) | (with_reducible (apply Eq.trans (Mem.ev_tmp _ _ _)); simp only [List.getD_cons_succ, List.getD_cons_zero] <;> rfl)) (fun w' hw' => CD.out w' hw') Try.underlying5 (by rfl) ?_
              (simp only [Act.put, List.setIfInBounds_toArray, List.set_cons_zero, List.set_cons_succ])
              refine plan_field 27 _ 2 g 0 ⟨g, 2, none⟩ (by rfl) (by rfl) (by rfl) (by first | (with_reducible exact Mem.ev_const _ _) | (with_reducible exact Mem.ev_zero _ _ _) | (with_reducible (apply Eq.trans (Mem.ev_tmp _ _ _)); simp only [List.getD_cons_succ, List.getD_cons_zero] <;> rfl)) (fun wx => by go_simp) ?_
              (simp only [Act.put, List.setIfInBounds_toArray, List.set_cons_zero, List.set_cons_succ])
              refine plan_field 25 _ 2 g 2 ⟨g, 19, none⟩ (by rfl) (by rfl) (by rfl) (by first | (with_reducible exact Mem.ev_const _ _) | (with_reducible exact Mem.ev_zero _ _ _) | (with_reducible (apply Eq.trans (Mem.ev_tmp _ _ _)); simp only [List.getD_cons_succ, List.getD_cons_zero] <;> rfl)) (fun wx => by go_simp) ?_
              (simp only [Act.put, List.setIfInBounds_toArray, List.set_cons_zero, List.set_cons_succ])
              refine plan_index_arr 23 5 32 _ _ g 19 1 k (by rfl) (by rfl) (by rfl) (by first | (with_reducible exact Mem.ev_const _ _) | (with_reducible exact Mem.ev_zero _ _ _) | (with_reducible (apply Eq.trans (Mem.ev_tmp _ _ _)); simp only [List.getD_cons_succ, List.getD_cons_zero] <;> rfl)) (by first | (with_reducible exact Mem.ev_const _ _) | (with_reducible exact Mem.ev_zero _ _ _) | (with_reducible (apply Eq.trans (Mem.ev_tmp _ _ _)); simp only [List.getD_cons_succ, List.getD_cons_zero] <;> rfl)) (by omega) Try.underlying23 infoB (by decide) ?_
              rw [Nat.mul_one]
              (simp only [Act.put, List.setIfInBounds_toArray, List.set_cons_zero, List.set_cons_succ])
              refine plan_field 27 _ 2 g 0 ⟨g, 2, none⟩ (by rfl) (by rfl) (by rfl) (by first | (with_reducible exact Mem.ev_const _ _) | (with_reducible exact Mem.ev_zero _ _ _) | (with_reducible (apply Eq.trans (Mem.ev_tmp _ _ _)); simp only [List.getD_cons_succ, List.getD_cons_zero] <;> rfl)) (fun wx => by go_simp) ?_
              (simp only [Act.put, List.setIfInBounds_toArray, List.set_cons_zero, List.set_cons_succ])
              refine plan_field 25 _ 3 g 2 ⟨g, 51, none⟩ (by rfl) (by rfl) (by rfl) (by first | (with_reducible exact Mem.ev_const _ _) | (with_reducible exact Mem.ev_zero _ _ _) | (with_reducible (apply Eq.trans (Mem.ev_tmp _ _ _)); simp only [List.getD_cons_succ, List.getD_cons_zero] <;> rfl)) (fun wx => by go_simp) ?_
              (simp only [Act.put, List.setIfInBounds_toArray, List.set_cons_zero, List.set_cons_succ])
              refine plan_store_one 5 _ _ g (19 + k) (.int .u8 (c : Int)) _ 27 (by rfl) (by rfl) (by rfl) (by rfl) (by first | (with_reducible exact Mem.ev_const _ _) | (with_reducible exact Mem.ev_zero _ _ _) | (with_reducible (apply Eq.trans (Mem.ev_tmp _ _ _)); simp only [List.getD_cons_succ, List.getD_cons_zero] <;> rfl)) (by first | (with_reducible exact Mem.ev_const _ _) | (with_reducible exact Mem.ev_zero _ _ _) | (with_reducible (apply Eq.trans (Mem.ev_tmp _ _ _)); simp only [List.getD_cons_succ, List.getD_cons_zero] <;> rfl)) (by rfl) infoB RR.out (by rw [ES.out]; omega) (DR.out.row (by simp) (fun j hj => heap_setCell_other _ _ _ _ hj)) ?_
              have R2 : Hid (At (wr.drew.setCell ⟨g, 19 + k, none⟩ (.int .u8 (c : Int))) g E2 27) := Lib.hid (by have h := RR.out.set (19 + k) (.int .u8 (c : Int)); rw [SET1.out] at h; exact h)
              refine plan_index_arr 23 5 32 _ _ g 51 1 k (by rfl) (by rfl) (by rfl) (by first | (with_reducible exact Mem.ev_const _ _) | (with_reducible exact Mem.ev_zero _ _ _) | (with_reducible (apply Eq.trans (Mem.ev_tmp _ _ _)); simp only [List.getD_cons_succ, List.getD_cons_zero] <;> rfl)) (by first | (with_reducible exact Mem.ev_const _ _) | (with_reducible exact Mem.ev_zero _ _ _) | (with_reducible (apply Eq.trans (Mem.ev_tmp _ _ _)); simp only [List.getD_cons_succ, List.getD_cons_zero] <;> rfl)) (by omega) Try.underlying23 infoB (by decide) ?_
              rw [Nat.mul_one]
              (simp only [Act.put, List.setIfInBounds_toArray, List.set_cons_zero, List.set_cons_succ])
              refine plan_store_one 5 _ _ g (51 + k) (.int .u8 (d : Int)) _ 27 (by rfl) (by rfl) (by rfl) (by rfl) (by first | (with_reducible exact Mem.ev_const _ _) | (with_reducible exact Mem.ev_zero _ _ _) | (with_reducible (apply Eq.trans (Mem.ev_tmp _ _ _)); simp only [List.getD_cons_succ, List.getD_cons_zero] <;> rfl)) (by first | (with_reducible exact Mem.ev_const _ _) | (with_reducible exact Mem.ev_zero _ _ _) | (with_reducible (apply Eq.trans (Mem.ev_tmp _ _ _)); simp only [List.getD_cons_succ, List.getD_cons_zero] <;> rfl)) (by rfl) infoB R2.out (by rw [ES2.out]; omega) ((DR.out.row (by simp) (fun j hj => heap_setCell_other _ _ _ _ hj)).row (by simp) (fun j hj => heap_setCell_other _ _ _ _ hj)) ?_
              refine plan_nil ?_
              go_wp2_with fail
              go_roundw
              case rel => exact ⟨k + 1, by omega, by go_num, by have h := R2.out.set (51 + k) (.int .u8 (d : Int)); rw [SET2.out] at h; exact h, ((II.out.drew.setCell G2.out _).setCell G2.out _)⟩
              case measure => simp [intOf]; omega
            · have hk32 : k = 32 := by omega
              have hge2 : ¬ (k : Int) < 32 := by omega
              subst hk32
              have c91 := CEL.out wr hI.b 91 (by omega)
              have slr := SL1.out.below hI.b
              have hall := hdAt_all b HLN.out
              have wfk := hdAt_wf b HLN.out 16 ((rdN b 0 : Nat) : Int) 32 32 [] (by omega) (by omega) (by omega) (by omega) (by omega) (by decide)
              obtain ⟨x, hx91⟩ : ∃ x, x = (b.getD 91 0).toNat := ⟨_, rfl⟩
              have hx8 : x < 256 := by rw [hx91]; exact (b.getD 91 0).isLt
              rw [← hx91] at c91 hall
              obtain ⟨n, hn⟩ : ∃ n, n = min x 24 := ⟨_, rfl⟩
              rw [← hn] at hall
              have hn24 : n ≤ 24 := by omega
              have hmin : min (x : Int) 24 = (n : Int) := by omega
              have hcvx := fun wx => conv_bI11 x hx8 wx
              have hset := hd_setLab (hdAt b 16 ((rdN b 0 : Nat) : Int) 32 32 []) wfk.wr ((b.drop 92).take n)
              have hall2 : hdC { hdAt b 16 ((rdN b 0 : Nat) : Int) 32 32 [] with lab := (b.drop 92).take n } = F := by rw [HF.out, ← hall]; rfl
              rw [hall2] at hset
              have hsz := hdC_size wfk
              obtain ⟨L, hL⟩ : ∃ L, L = (b.drop 92).take n := ⟨_, rfl⟩
              rw [← hL] at hset
              have hlL : L.length = n := by rw [hL, List.length_take, List.length_drop, HLN.out]; omega
              obtain ⟨S, hS⟩ : ∃ S, S = strOfNums (i8s L) := ⟨_, rfl⟩
              rw [← hS] at hset
              have cvL : ∀ wx (a : Option Addr) (c : Nat), Sl wx (.slice a n c) L → (convert 28 9 (.slice a n c)).run Try.prog wx = .ok (.string S) wx := fun wx a c hs => by
                have h := conv_slA (w := wx) (a := a) (c := c) (l := L) (by rw [hlL]; exact hs)
                rw [hlL] at h; rw [hS]; exact h
              obtain ⟨E, hE⟩ : ∃ E, E = hdC (hdAt b 16 ((rdN b 0 : Nat) : Int) 32 32 []) := ⟨_, rfl⟩
              have hr2 := hI.r
              rw [← hE] at hr2 hset hsz
              have II := Lib.hid hI.b; have RR := Lib.hid hr2; have SET := Lib.hid hset; have ES := Lib.hid hsz; have SLR := Lib.hid slr; have CVL := Lib.hid cvL; have CVX := Lib.hid hcvx; have HL := Lib.hid hL
              have N2 := Lib.hid (show 92 + n ≤ 256 by omega)
              have e92 : (92 : Int) + (n : Int) = ((92 + n : Nat) : Int) := by omega
              have E92 := Lib.hid e92
              clear hI hr2 hset hsz hE hall hall2 wfk hx91 hn hcvx slr hL hlL hS cvL e92 hrl hlt hk
              go_wp2_with (first
                | (refine wpList_conv (by rfl) _ _ _ _ (.int .i64 (x : Int)) (by rfl) (by rfl) CVX.out ?_)
                | (refine wpList_piece (by rfl) 28 _ _ _ (by rfl) Try.underlying28 (some ⟨bb, oo, none⟩) 256 cap 92 (92 + n) b HLN.out (by rfl) SLR.out (by rfl) (by rw [← E92.out]; rfl) (by omega) N2.out ?_; intro hp; rw [Nat.add_sub_cancel_left] at hp ⊢; rw [← HL.out] at hp; have PP := Lib.hid hp; clear hp)
                | (refine wpList_conv_at (by rfl) _ _ _ _ (.string S) (by rfl) (by rfl) (CVL.out _ _ _ PP.out) ?_)
                | (refine Mem.wpList_store_one (by rfl) 9 _ _ (by rfl) (by rfl) g 83 (.string S) (by rfl) (by rfl) (by rfl) infoStr _ 27 RR.out (by rw [ES.out]; decide) ?_; intro w' hat' ho' hb'; have K' : Hid (At w' g F 27) := Lib.hid (by rw [SET.out] at hat'; exact hat'); have B' : Hid (Below w1.heap.size w1 w') := Lib.hid (hb' _ _ II.out G2.out); clear hat' ho' hb')
                | (refine wpList_load_all (by rfl) 27 _ (by rfl) g (by rfl) _ Try.underlying27 (by rfl) F _ K'.out (by rw [FS.out]; exact infoHdR) ?_))
              have AZ2 := Lib.hid (AZ.out.below B'.out W1S.out)
              have SB2 := Lib.hid (SL1.out.below B'.out)
              have BW := B'
              clear RR SET ES SLR CVL CVX HL N2 E92 PP II c91 hmin
              cases hm : mayH (hdOf b) with
              | false =>
                refine (BAD.out hm w').mono ?_
                rintro e w5 ⟨rfl, hb5⟩
                have A5 := Lib.hid (AZ2.out.below hb5 AZ2.out.lt); have B5 : Hid (Below w1.heap.size w1 w5) := Lib.hid (BW.out.trans (hb5.mono BW.out.size))
                have hp := PAR.out
                rw [if_pos hm] at hp
                have HP := Lib.hid hp
                clear hb5 AZ2 BW SB2 K' B' hp hm
                go_wp2_with (first
                  | (refine Mem.wpList_build (by rfl) 27 _ #[] (.agg Z) (by rfl) (by simp) BN.out ?_)
                  | (refine wpList_store_all (by rfl) 27 _ _ (by rfl) (by rfl) w.heap.size Z (by rfl) (by rfl) (by rw [ZS.out]; exact infoHdR) Z 27 A5.out (by rfl) ZO.out ?_))
                try simp only [Exit.inBlock, Exit.then]
                refine ret_row_tmp (by rfl) w.heap.size 27 Z _ _ (by rfl) (by rfl) (A5.out.row Z) Try.underlying27 (by rfl) (by rw [ZS.out]; exact infoHdR) ?_
                rw [HP.out]
                simp only
                rw [← HZ.out]
                exact ⟨rfl, below_row (BZ.out.trans (B5.out.mono BZ.out.size)) (Nat.le_refl _) Z⟩
              | true =>
                refine (GOOD.out hm w').mono ?_
                rintro e w5 ⟨v9, rfl, hs9, hb5⟩
                have A5 := Lib.hid (AZ2.out.below hb5 AZ2.out.lt); have B5 : Hid (Below w1.heap.size w1 w5) := Lib.hid (BW.out.trans (hb5.mono BW.out.size)); have K5 := Lib.hid (K'.out.below hb5 K'.out.lt)
                have hp := PAR.out
                rw [if_neg (by rw [hm]; decide)] at hp
                obtain ⟨X, hX⟩ : ∃ X, X = layH (hdOf b) := ⟨_, rfl⟩
                have hXl : X.length = 256 := by rw [hX]; exact LL.out
                rw [← hX] at hs9 hp
                obtain ⟨xa, xc, e9, _⟩ := id hs9
                rw [hXl] at e9
                subst e9
                have HP := Lib.hid hp; have HX := Lib.hid hs9; have XL := Lib.hid hXl
                clear hb5 AZ2 BW SB2 K' B' hp hm hX hs9 hXl GOOD BAD PAR LL
                go_wp2_with fail
                go_loopw [11] (fun v wr => ∃ i : Nat, i ≤ 256 ∧ v = .int .i64 i ∧ Below w5.heap.size w5 wr ∧ X.take i = b.take i) (fun v _ => 256 - (intOf v).toNat)
                case atStart => exact ⟨0, by omega, rfl, Below.refl _ _, by simp⟩
                case round =>
                  obtain ⟨i, hi, rfl, hbw, htk⟩ := hrel
                  by_cases hlt : i < 256
                  · have hlt' : (i : Int) < 256 := by omega
                    obtain ⟨xb, xo, e9, cx⟩ := sl_at (i := i) (by rw [XL.out]; exact HX.out.below hbw) (by rw [XL.out]; exact hlt)
                    have cd := CEL.out wr (B5.out.trans (hbw.mono B5.out.size)) i hlt
                    have xlt : xb < wr.heap.size := lt_of_cell cx
                    have blt : bb < wr.heap.size := lt_of_cell cd
                    have htX : X.take (i + 1) = X.take i ++ [X.getD i 0] := by
                      have hil : i < X.length := by rw [XL.out]; exact hlt
                      rw [List.take_succ_eq_append_getElem hil]; simp [List.getD_eq_getElem?_getD, hil]
                    have htB : b.take (i + 1) = b.take i ++ [b.getD i 0] := by
                      have hil : i < b.length := by rw [HLN.out]; exact hlt
                      rw [List.take_succ_eq_append_getElem hil]; simp [List.getD_eq_getElem?_getD, hil]
                    have neb := fun x y wx => neq_b8 (X.getD i 0) (b.getD i 0) x y wx
                    have BW := Lib.hid hbw; have TK := Lib.hid htk; have TX := Lib.hid htX; have TB := Lib.hid htB
                    have DRW : Hid (Below wr.heap.size wr wr.drew) := Lib.hid (Below.refl _ _).drew
                    subst e9
                    by_cases hq : X.getD i 0 = b.getD i 0
                    · rw [decide_eq_true hq, Bool.not_true] at neb
                      have HQ := Lib.hid hq
                      obtain ⟨c, hcc⟩ : ∃ c, c = X.getD i 0 := ⟨_, rfl⟩
                      obtain ⟨d, hdd⟩ : ∃ d, d = b.getD i 0 := ⟨_, rfl⟩
                      rw [← hcc] at cx neb
                      rw [← hdd] at cd neb
                      have NEB := Lib.hid neb; have CX := Lib.hid cx; have CB := Lib.hid cd; have XLT := Lib.hid xlt; have BLTW := Lib.hid blt
                      clear neb cx cd xlt blt htX htB htk hbw hq hcc hdd
                      go_wp2_with fail
                      refine wp_region_plan (.take 0 (.take 1 (.take 2 (.take 3 (.take 4 (.take 5 (.take 6 (.take 7 (.take 8 .done))))))))) (by kernel_rfl) (by kernel_rfl) (by kernel_rfl) ?_
                      (first | (refine plan_move _ _ (by rfl) (by rfl) (.inl (by rfl)) (by first | (with_reducible exact Mem.ev_const _ _) | (with_reducible exact Mem.ev_zero _ _ _) | (with_reducible (apply Eq.trans (Mem.ev_tmp _ _ _)); simp only [List.getD_cons_succ, List.getD_cons_zero] <;> rfl)) ?_) | (refine plan_move _ _ (by rfl) (by rfl) (.inr (by rfl)) (by first | (with_reducible exact Mem.ev_const _ _) | (with_reducible exact Mem.ev_zero _ _ _) | (with_reducible (apply Eq.trans (Mem.ev_tmp _ _ _)); simp only [List.getD_cons_succ, List.getD_cons_zero] <;> rfl)) ?_) | (refine plan_pick_t _ _ _ _ (by rfl) (by rfl) (by rfl) (by first | (with_reducible exact Mem.ev_const _ _) | (with_reducible exact Mem.ev_zero _ _ _) | (with_reducible (apply Eq.trans (Mem.ev_tmp _ _ _)); simp only [List.getD_cons_succ, List.getD_cons_zero] <;> rfl)) (by first | (with_reducible exact Mem.ev_const _ _) | (with_reducible exact Mem.ev_zero _ _ _) | (with_reducible (apply Eq.trans (Mem.ev_tmp _ _ _)); simp only [List.getD_cons_succ, List.getD_cons_zero] <;> rfl)) ?_) | (refine plan_pick_f _ _ _ _ (by rfl) (by rfl) (by rfl) (by first | (with_reducible exact Mem.ev_const _ _) | (with_reducible exact Mem.ev_zero _ _ _) | (with_reducible (apply Eq.trans (Mem.ev_tmp _ _ _)); simp only [List.getD_cons_succ, List.getD_cons_zero] <;> rfl)) (by first | (with_reducible exact Mem.ev_const _ _) | (with_reducible exact Mem.ev_zero _ _ _) | (with_reducible (apply Eq.trans (Mem.ev_tmp _ _ _)); simp only [List.getD_cons_succ, List.getD_cons_zero] <;> rfl)) ?_))
                      (simp only [Act.put, List.setIfInBounds_toArray, List.set_cons_zero, List.set_cons_succ])
                      (first | (refine plan_move _ _ (by rfl) (by rfl) (.inl (by rfl)) (by first | (with_reducible exact Mem.ev_const _ _) | (with_reducible exact Mem.ev_zero _ _ _) | (with_reducible (apply Eq.trans (Mem.ev_tmp _ _ _)); simp only [List.getD_cons_succ, List.getD_cons_zero] <;> rfl)) ?_) | (refine plan_move _ _ (by rfl) (by rfl) (.inr (by rfl)) (by first | (with_reducible exact Mem.ev_const _ _) | (with_reducible exact Mem.ev_zero _ _ _) | (with_reducible (apply Eq.trans (Mem.ev_tmp _ _ _)); simp only [List.getD_cons_succ, List.getD_cons_zero] <;> rfl)) ?_) | (refine plan_pick_t _ _ _ _ (by rfl) (by rfl) (by rfl) (by first | (with_reducible exact Mem.ev_const _ _) | (with_reducible exact Mem.ev_zero _ _ _) | (with_reducible (apply Eq.trans (Mem.ev_tmp _ _ _)); simp only [List.getD_cons_succ, List.getD_cons_zero] <;> rfl)) (by first | (with_reducible exact Mem.ev_const _ _) | (with_reducible exact Mem.ev_zero _ _ _) | (with_reducible (apply Eq.trans (Mem.ev_tmp _ _ _)); simp only [List.getD_cons_succ, List.getD_cons_zero] <;> rfl)) ?_) | (refine plan_pick_f _ _ _ _ (by rfl) (by rfl) (by rfl) (by first | (with_reducible exact Mem.ev_const _ _) | (with_reducible exact Mem.ev_zero _ _ _) | (with_reducible (apply Eq.trans (Mem.ev_tmp _ _ _)); simp only [List.getD_cons_succ, List.getD_cons_zero] <;> rfl)) (by first | (with_reducible exact Mem.ev_const _ _) | (with_reducible exact Mem.ev_zero _ _ _) | (with_reducible (apply Eq.trans (Mem.ev_tmp _ _ _)); simp only [List.getD_cons_succ, List.getD_cons_zero] <;> rfl)) ?_))
                      (simp only [Act.put, List.setIfInBounds_toArray, List.set_cons_zero, List.set_cons_succ])
                      refine plan_index 28 5 _ _ xb xo 256 xc i (by rfl) (by rfl) (by rfl) (by first | (with_reducible exact Mem.ev_const _ _) | (with_reducible exact Mem.ev_zero _ _ _) | (with_reducible (apply Eq.trans (Mem.ev_tmp _ _ _)); simp only [List.getD_cons_succ, List.getD_cons_zero] <;> rfl)) (by first | (with_reducible exact Mem.ev_const _ _) | (with_reducible exact Mem.ev_zero _ _ _) | (with_reducible (apply Eq.trans (Mem.ev_tmp _ _ _)); simp only [List.getD_cons_succ, List.getD_cons_zero] <;> rfl)) (by omega) Try.underlying28 (by kernel_rfl) ?_
                      (simp only [Act.put, List.setIfInBounds_toArray, List.set_cons_zero, List.set_cons_succ])
                      refine plan_cell 5 _ _ (.int .u8 (B8 c)) _ (by rfl) (by rfl) (by rfl) (by first | (with_reducible exact Mem.ev_const _ _) | (with_reducible exact Mem.ev_zero _ _ _) | (with_reducible (apply Eq.trans (Mem.ev_tmp _ _ _)); simp only [List.getD_cons_succ, List.getD_cons_zero] <;> rfl)) (fun w' hw' => (Below.cell hw' (p := ⟨xb, xo + i, none⟩) XLT.out).trans CX.out) Try.underlying5 (by rfl) ?_
                      (simp only [Act.put, List.setIfInBounds_toArray, List.set_cons_zero, List.set_cons_succ])
                      (first | (refine plan_move _ _ (by rfl) (by rfl) (.inl (by rfl)) (by first | (with_reducible exact Mem.ev_const _ _) | (with_reducible exact Mem.ev_zero _ _ _) | (with_reducible (apply Eq.trans (Mem.ev_tmp _ _ _)); simp only [List.getD_cons_succ, List.getD_cons_zero] <;> rfl)) ?_) | (refine plan_move _ _ (by rfl) (by rfl) (.inr (by rfl)) (by first | (with_reducible exact Mem.ev_const _ _) | (with_reducible exact Mem.ev_zero _ _ _) | (with_reducible (apply Eq.trans (Mem.ev_tmp _ _ _)); simp only [List.getD_cons_succ, List.getD_cons_zero] <;> rfl)) ?_) | (refine plan_pick_t _ _ _ _ (by rfl) (by rfl) (by rfl) (by first | (with_reducible exact Mem.ev_const _ _) | (with_reducible exact Mem.ev_zero _ _ _) | (with_reducible (apply Eq.trans (Mem.ev_tmp _ _ _)); simp only [List.getD_cons_succ, List.getD_cons_zero] <;> rfl)) (by first | (with_reducible exact Mem.ev_const _ _) | (with_reducible exact Mem.ev_zero _ _ _) | (with_reducible (apply Eq.trans (Mem.ev_tmp _ _ _)); simp only [List.getD_cons_succ, List.getD_cons_zero] <;> rfl)) ?_) | (refine plan_pick_f _ _ _ _ (by rfl) (by rfl) (by rfl) (by first | (with_reducible exact Mem.ev_const _ _) | (with_reducible exact Mem.ev_zero _ _ _) | (with_reducible (apply Eq.trans (Mem.ev_tmp _ _ _)); simp only [List.getD_cons_succ, List.getD_cons_zero] <;> rfl)) (by first | (with_reducible exact Mem.ev_const _ _) | (with_reducible exact Mem.ev_zero _ _ _) | (with_reducible (apply Eq.trans (Mem.ev_tmp _ _ _)); simp only [List.getD_cons_succ, List.getD_cons_zero] <;> rfl)) ?_))
                      (simp only [Act.put, List.setIfInBounds_toArray, List.set_cons_zero, List.set_cons_succ])
                      (first | (refine plan_move _ _ (by rfl) (by rfl) (.inl (by rfl)) (by first | (with_reducible exact Mem.ev_const _ _) | (with_reducible exact Mem.ev_zero _ _ _) | (with_reducible (apply Eq.trans (Mem.ev_tmp _ _ _)); simp only [List.getD_cons_succ, List.getD_cons_zero] <;> rfl)) ?_) | (refine plan_move _ _ (by rfl) (by rfl) (.inr (by rfl)) (by first | (with_reducible exact Mem.ev_const _ _) | (with_reducible exact Mem.ev_zero _ _ _) | (with_reducible (apply Eq.trans (Mem.ev_tmp _ _ _)); simp only [List.getD_cons_succ, List.getD_cons_zero] <;> rfl)) ?_) | (refine plan_pick_t _ _ _ _ (by rfl) (by rfl) (by rfl) (by first | (with_reducible exact Mem.ev_const _ _) | (with_reducible exact Mem.ev_zero _ _ _) | (with_reducible (apply Eq.trans (Mem.ev_tmp _ _ _)); simp only [List.getD_cons_succ, List.getD_cons_zero] <;> rfl)) (by first | (with_reducible exact Mem.ev_const _ _) | (with_reducible exact Mem.ev_zero _ _ _) | (with_reducible (apply Eq.trans (Mem.ev_tmp _ _ _)); simp only [List.getD_cons_succ, List.getD_cons_zero] <;> rfl)) ?_) | (refine plan_pick_f _ _ _ _ (by rfl) (by rfl) (by rfl) (by first | (with_reducible exact Mem.ev_const _ _) | (with_reducible exact Mem.ev_zero _ _ _) | (with_reducible (apply Eq.trans (Mem.ev_tmp _ _ _)); simp only [List.getD_cons_succ, List.getD_cons_zero] <;> rfl)) (by first | (with_reducible exact Mem.ev_const _ _) | (with_reducible exact Mem.ev_zero _ _ _) | (with_reducible (apply Eq.trans (Mem.ev_tmp _ _ _)); simp only [List.getD_cons_succ, List.getD_cons_zero] <;> rfl)) ?_))
                      (simp only [Act.put, List.setIfInBounds_toArray, List.set_cons_zero, List.set_cons_succ])
                      refine plan_index 28 5 _ _ bb oo 256 cap i (by rfl) (by rfl) (by rfl) (by first | (with_reducible exact Mem.ev_const _ _) | (with_reducible exact Mem.ev_zero _ _ _) | (with_reducible (apply Eq.trans (Mem.ev_tmp _ _ _)); simp only [List.getD_cons_succ, List.getD_cons_zero] <;> rfl)) (by first | (with_reducible exact Mem.ev_const _ _) | (with_reducible exact Mem.ev_zero _ _ _) | (with_reducible (apply Eq.trans (Mem.ev_tmp _ _ _)); simp only [List.getD_cons_succ, List.getD_cons_zero] <;> rfl)) (by omega) Try.underlying28 (by kernel_rfl) ?_
                      (simp only [Act.put, List.setIfInBounds_toArray, List.set_cons_zero, List.set_cons_succ])
                      refine plan_cell 5 _ _ (.int .u8 (B8 d)) _ (by rfl) (by rfl) (by rfl) (by first | (with_reducible exact Mem.ev_const _ _) | (with_reducible exact Mem.ev_zero _ _ _) | (with_reducible (apply Eq.trans (Mem.ev_tmp _ _ _)); simp only [List.getD_cons_succ, List.getD_cons_zero] <;> rfl)) (fun w' hw' => (Below.cell hw' (p := ⟨bb, oo + i, none⟩) BLTW.out).trans CB.out) Try.underlying5 (by rfl) ?_
                      (simp only [Act.put, List.setIfInBounds_toArray, List.set_cons_zero, List.set_cons_succ])
                      refine plan_bin _ _ _ _ _ _ _ (.bool false) (by rfl) (by rfl) (by rfl) (by first | (with_reducible exact Mem.ev_const _ _) | (with_reducible exact Mem.ev_zero _ _ _) | (with_reducible (apply Eq.trans (Mem.ev_tmp _ _ _)); simp only [List.getD_cons_succ, List.getD_cons_zero] <;> rfl)) (by first | (with_reducible exact Mem.ev_const _ _) | (with_reducible exact Mem.ev_zero _ _ _) | (with_reducible (apply Eq.trans (Mem.ev_tmp _ _ _)); simp only [List.getD_cons_succ, List.getD_cons_zero] <;> rfl)) (fun wx => NEB.out _ _ wx) ?_
                      (simp only [Act.put, List.setIfInBounds_toArray, List.set_cons_zero, List.set_cons_succ])
                      refine plan_nil ?_
                      go_wp2_with fail
                      go_roundw
                      case rel => exact ⟨i + 1, by omega, by go_num, BW.out.drew, by rw [TX.out, TB.out, TK.out, HQ.out]⟩
                      case measure => simp [intOf]; omega
                    · rw [decide_eq_false hq, Bool.not_false] at neb
                      have hne : X ≠ b := fun e => hq (by rw [e])
                      have hp := HP.out
                      rw [if_pos hne] at hp
                      obtain ⟨c, hcc⟩ : ∃ c, c = X.getD i 0 := ⟨_, rfl⟩
                      obtain ⟨d, hdd⟩ : ∃ d, d = b.getD i 0 := ⟨_, rfl⟩
                      rw [← hcc] at cx neb
                      rw [← hdd] at cd neb
                      have NEB := Lib.hid neb; have CX := Lib.hid cx; have CB := Lib.hid cd; have XLT := Lib.hid xlt; have BLTW := Lib.hid blt; have HP2 := Lib.hid hp
                      have A6 := Lib.hid (A5.out.below (hbw.drew) A5.out.lt); have B6 : Hid (Below w1.heap.size w1 wr.drew) := Lib.hid (B5.out.trans (hbw.drew.mono B5.out.size))
                      clear neb cx cd xlt blt htX htB htk hbw hq hcc hdd hp hne HP
                      go_wp2_with fail
                      refine wp_region_plan (.take 0 (.take 1 (.take 2 (.take 3 (.take 4 (.take 5 (.take 6 (.take 7 (.take 8 .done))))))))) (by kernel_rfl) (by kernel_rfl) (by kernel_rfl) ?_
                      (first | (refine plan_move _ _ (by rfl) (by rfl) (.inl (by rfl)) (by first | (with_reducible exact Mem.ev_const _ _) | (with_reducible exact Mem.ev_zero _ _ _) | (with_reducible (apply Eq.trans (Mem.ev_tmp _ _ _)); simp only [List.getD_cons_succ, List.getD_cons_zero] <;> rfl)) ?_) | (refine plan_move _ _ (by rfl) (by rfl) (.inr (by rfl)) (by first | (with_reducible exact Mem.ev_const _ _) | (with_reducible exact Mem.ev_zero _ _ _) | (with_reducible (apply Eq.trans (Mem.ev_tmp _ _ _)); simp only [List.getD_cons_succ, List.getD_cons_zero] <;> rfl)) ?_) | (refine plan_pick_t _ _ _ _ (by rfl) (by rfl) (by rfl) (by first | (with_reducible exact Mem.ev_const _ _) | (with_reducible exact Mem.ev_zero _ _ _) | (with_reducible (apply Eq.trans (Mem.ev_tmp _ _ _)); simp only [List.getD_cons_succ, List.getD_cons_zero] <;> rfl)) (by first | (with_reducible exact Mem.ev_const _ _) | (with_reducible exact Mem.ev_zero _ _ _) | (with_reducible (apply Eq.trans (Mem.ev_tmp _ _ _)); simp only [List.getD_cons_succ, List.getD_cons_zero] <;> rfl)) ?_) | (refine plan_pick_f _ _ _ _ (by rfl) (by rfl) (by rfl) (by first | (with_reducible exact Mem.ev_const _ _) | (with_reducible exact Mem.ev_zero _ _ _) | (with_reducible (apply Eq.trans (Mem.ev_tmp _ _ _)); simp only [List.getD_cons_succ, List.getD_cons_zero] <;> rfl)) (by first | (with_reducible exact Mem.ev_const _ _) | (with_reducible exact Mem.ev_zero _ _ _) | (with_reducible (apply Eq.trans (Mem.ev_tmp _ _ _)); simp only [List.getD_cons_succ, List.getD_cons_zero] <;> rfl)) ?_))
                      (simp only [Act.put, List.setIfInBounds_toArray, List.set_cons_zero, List.set_cons_succ])
                      (first | (refine plan_move _ _ (by rfl) (by rfl) (.inl (by rfl)) (by first | (with_reducible exact Mem.ev_const _ _) | (with_reducible exact Mem.ev_zero _ _ _) | (with_reducible (apply Eq.trans (Mem.ev_tmp _ _ _)); simp only [List.getD_cons_succ, List.getD_cons_zero] <;> rfl)) ?_) | (refine plan_move _ _ (by rfl) (by rfl) (.inr (by rfl)) (by first | (with_reducible exact Mem.ev_const _ _) | (with_reducible exact Mem.ev_zero _ _ _) | (with_reducible (apply Eq.trans (Mem.ev_tmp _ _ _)); simp only [List.getD_cons_succ, List.getD_cons_zero] <;> rfl)) ?_) | (refine plan_pick_t _ _ _ _ (by rfl) (by rfl) (by rfl) (by first | (with_reducible exact Mem.ev_const _ _) | (with_reducible exact Mem.ev_zero _ _ _) | (with_reducible (apply Eq.trans (Mem.ev_tmp _ _ _)); simp only [List.getD_cons_succ, List.getD_cons_zero] <;> rfl)) (by first | (with_reducible exact Mem.ev_const _ _) | (with_reducible exact Mem.ev_zero _ _ _) | (with_reducible (apply Eq.trans (Mem.ev_tmp _ _ _)); simp only [List.getD_cons_succ, List.getD_cons_zero] <;> rfl)) ?_) | (refine plan_pick_f _ _ _ _ (by rfl) (by rfl) (by rfl) (by first | (with_reducible exact Mem.ev_const _ _) | (with_reducible exact Mem.ev_zero _ _ _) | (with_reducible (apply Eq.trans (Mem.ev_tmp _ _ _)); simp only [List.getD_cons_succ, List.getD_cons_zero] <;> rfl)) (by first | (with_reducible exact Mem.ev_const _ _) | (with_reducible exact Mem.ev_zero _ _ _) | (with_reducible (apply Eq.trans (Mem.ev_tmp _ _ _)); simp only [List.getD_cons_succ, List.getD_cons_zero] <;> rfl)) ?_))
                      (simp only [Act.put, List.setIfInBounds_toArray, List.set_cons_zero, List.set_cons_succ])
                      refine plan_index 28 5 _ _ xb xo 256 xc i (by rfl) (by rfl) (by rfl) (by first | (with_reducible exact Mem.ev_const _ _) | (with_reducible exact Mem.ev_zero _ _ _) | (with_reducible (apply Eq.trans (Mem.ev_tmp _ _ _)); simp only [List.getD_cons_succ, List.getD_cons_zero] <;> rfl)) (by first | (with_reducible exact Mem.ev_const _ _) | (with_reducible exact Mem.ev_zero _ _ _) | (with_reducible (apply Eq.trans (Mem.ev_tmp _ _ _)); simp only [List.getD_cons_succ, List.getD_cons_zero] <;> rfl)) (by omega) Try.underlying28 (by kernel_rfl) ?_
                      (simp only [Act.put, List.setIfInBounds_toArray, List.set_cons_zero, List.set_cons_succ])
                      refine plan_cell 5 _ _ (.int .u8 (B8 c)) _ (by rfl) (by rfl) (by rfl) (by first | (with_reducible exact Mem.ev_const _ _) | (with_reducible exact Mem.ev_zero _ _ _) | (with_reducible (apply Eq.trans (Mem.ev_tmp _ _ _)); simp only [List.getD_cons_succ, List.getD_cons_zero] <;> rfl)) (fun w' hw' => (Below.cell hw' (p := ⟨xb, xo + i, none⟩) XLT.out).trans CX.out) Try.underlying5 (by rfl) ?_
                      (simp only [Act.put, List.setIfInBounds_toArray, List.set_cons_zero, List.set_cons_succ])
                      (first | (refine plan_move _ _ (by rfl) (by rfl) (.inl (by rfl)) (by first | (with_reducible exact Mem.ev_const _ _) | (with_reducible exact Mem.ev_zero _ _ _) | (with_reducible (apply Eq.trans (Mem.ev_tmp _ _ _)); simp only [List.getD_cons_succ, List.getD_cons_zero] <;> rfl)) ?_) | (refine plan_move _ _ (by rfl) (by rfl) (.inr (by rfl)) (by first | (with_reducible exact Mem.ev_const _ _) | (with_reducible exact Mem.ev_zero _ _ _) | (with_reducible (apply Eq.trans (Mem.ev_tmp _ _ _)); simp only [List.getD_cons_succ, List.getD_cons_zero] <;> rfl)) ?_) | (refine plan_pick_t _ _ _ _ (by rfl) (by rfl) (by rfl) (by first | (with_reducible exact Mem.ev_const _ _) | (with_reducible exact Mem.ev_zero _ _ _) | (with_reducible (apply Eq.trans (Mem.ev_tmp _ _ _)); simp only [List.getD_cons_succ, List.getD_cons_zero] <;> rfl)) (by first | (with_reducible exact Mem.ev_const _ _) | (with_reducible exact Mem.ev_zero _ _ _) | (with_reducible (apply Eq.trans (Mem.ev_tmp _ _ _)); simp only [List.getD_cons_succ, List.getD_cons_zero] <;> rfl)) ?_) | (refine plan_pick_f _ _ _ _ (by rfl) (by rfl) (by rfl) (by first | (with_reducible exact Mem.ev_const _ _) | (with_reducible exact Mem.ev_zero _ _ _) | (with_reducible (apply Eq.trans (Mem.ev_tmp _ _ _)); simp only [List.getD_cons_succ, List.getD_cons_zero] <;> rfl)) (by first | (with_reducible exact Mem.ev_const _ _) | (with_reducible exact Mem.ev_zero _ _ _) | (with_reducible (apply Eq.trans (Mem.ev_tmp _ _ _)); simp only [List.getD_cons_succ, List.getD_cons_zero] <;> rfl)) ?_))
                      (simp only [Act.put, List.setIfInBounds_toArray, List.set_cons_zero, List.set_cons_succ])
                      (first | (refine plan_move _ _ (by rfl) (by rfl) (.inl (by rfl)) (by first | (with_reducible exact Mem.ev_const _ _) | (with_reducible exact Mem.ev_zero _ _ _) | (with_reducible (apply Eq.trans (Mem.ev_tmp _ _ _)); simp only [List.getD_cons_succ, List.getD_cons_zero] <;> rfl)) ?_) | (refine plan_move _ _ (by rfl) (by rfl) (.inr (by rfl)) (by first | (with_reducible exact Mem.ev_const _ _) | (with_reducible exact Mem.ev_zero _ _ _) | (with_reducible (apply Eq.trans (Mem.ev_tmp _ _ _)); simp only [List.getD_cons_succ, List.getD_cons_zero] <;> rfl)) ?_) | (refine plan_pick_t _ _ _ _ (by rfl) (by rfl) (by rfl) (by first | (with_reducible exact Mem.ev_const _ _) | (with_reducible exact Mem.ev_zero _ _ _) | (with_reducible (apply Eq.trans (Mem.ev_tmp _ _ _)); simp only [List.getD_cons_succ, List.getD_cons_zero] <;> rfl)) (by first | (with_reducible exact Mem.ev_const _ _) | (with_reducible exact Mem.ev_zero _ _ _) | (with_reducible (apply Eq.trans (Mem.ev_tmp _ _ _)); simp only [List.getD_cons_succ, List.getD_cons_zero] <;> rfl)) ?_) | (refine plan_pick_f _ _ _ _ (by rfl) (by rfl) (by rfl) (by first | (with_reducible exact Mem.ev_const _ _) | (with_reducible exact Mem.ev_zero _ _ _) | (with_reducible (apply Eq.trans (Mem.ev_tmp _ _ _)); simp only [List.getD_cons_succ, List.getD_cons_zero] <;> rfl)) (by first | (with_reducible exact Mem.ev_const _ _) | (with_reducible exact Mem.ev_zero _ _ _) | (with_reducible (apply Eq.trans (Mem.ev_tmp _ _ _)); simp only [List.getD_cons_succ, List.getD_cons_zero] <;> rfl)) ?_))
                      (simp only [Act.put, List.setIfInBounds_toArray, List.set_cons_zero, List.set_cons_succ])
                      refine plan_index 28 5 _ _ bb oo 256 cap i (by rfl) (by rfl) (by rfl) (by first | (with_reducible exact Mem.ev_const _ _) | (with_reducible exact Mem.ev_zero _ _ _) | (with_reducible (apply Eq.trans (Mem.ev_tmp _ _ _)); simp only [List.getD_cons_succ, List.getD_cons_zero] <;> rfl)) (by first | (with_reducible exact Mem.ev_const _ _) | (with_reducible exact Mem.ev_zero _ _ _) | (with_reducible (apply Eq.trans (Mem.ev_tmp _ _ _)); simp only [List.getD_cons_succ, List.getD_cons_zero] <;> rfl)) (by omega) Try.underlying28 (by kernel_rfl) ?_
                      (simp only [Act.put, List.setIfInBounds_toArray, List.set_cons_zero, List.set_cons_succ])
                      refine plan_cell 5 _ _ (.int .u8 (B8 d)) _ (by rfl) (by rfl) (by rfl) (by first | (with_reducible exact Mem.ev_const _ _) | (with_reducible exact Mem.ev_zero _ _ _) | (with_reducible (apply Eq.trans (Mem.ev_tmp _ _ _)); simp only [List.getD_cons_succ, List.getD_cons_zero] <;> rfl)) (fun w' hw' => (Below.cell hw' (p := ⟨bb, oo + i, none⟩) BLTW.out).trans CB.out) Try.underlying5 (by rfl) ?_
                      (simp only [Act.put, List.setIfInBounds_toArray, List.set_cons_zero, List.set_cons_succ])
                      refine plan_bin _ _ _ _ _ _ _ (.bool true) (by rfl) (by rfl) (by rfl) (by first | (with_reducible exact Mem.ev_const _ _) | (with_reducible exact Mem.ev_zero _ _ _) | (with_reducible (apply Eq.trans (Mem.ev_tmp _ _ _)); simp only [List.getD_cons_succ, List.getD_cons_zero] <;> rfl)) (by first | (with_reducible exact Mem.ev_const _ _) | (with_reducible exact Mem.ev_zero _ _ _) | (with_reducible (apply Eq.trans (Mem.ev_tmp _ _ _)); simp only [List.getD_cons_succ, List.getD_cons_zero] <;> rfl)) (fun wx => NEB.out _ _ wx) ?_
                      (simp only [Act.put, List.setIfInBounds_toArray, List.set_cons_zero, List.set_cons_succ])
                      refine plan_nil ?_
                      go_wp2_with (first
                        | (refine Mem.wpList_build (by rfl) 27 _ #[] (.agg Z) (by rfl) (by simp) BN.out ?_)
                        | (refine wpList_store_all (by rfl) 27 _ _ (by rfl) (by rfl) w.heap.size Z (by rfl) (by rfl) (by rw [ZS.out]; exact infoHdR) Z 27 A6.out (by rfl) ZO.out ?_))
                      try simp only [Exit.inBlock, Exit.then]
                      refine ret_row_tmp (by rfl) w.heap.size 27 Z _ _ (by rfl) (by rfl) (A6.out.row Z) Try.underlying27 (by rfl) (by rw [ZS.out]; exact infoHdR) ?_
                      rw [HP2.out]
                      simp only
                      rw [← HZ.out]
                      exact ⟨rfl, below_row (BZ.out.trans (B6.out.mono BZ.out.size)) (Nat.le_refl _) Z⟩
                  · have hi256 : i = 256 := by omega
                    have hgi : ¬ (i : Int) < 256 := by omega
                    have heq : X = b := by
                      rw [hi256, List.take_of_length_le (by rw [XL.out]; omega), List.take_of_length_le (by rw [HLN.out]; omega)] at htk
                      exact htk
                    have hp := HP.out
                    rw [if_neg (fun h => h heq)] at hp
                    have HP2 := Lib.hid hp
                    have A6 := Lib.hid (A5.out.below hbw A5.out.lt); have B6 : Hid (Below w1.heap.size w1 wr) := Lib.hid (B5.out.trans (hbw.mono B5.out.size)); have K6 := Lib.hid (K5.out.below hbw K5.out.lt)
                    clear hi256 heq hp htk hbw hlt hi HP
                    go_wp2_with (first
                      | (refine wpList_load_all (by rfl) 27 _ (by rfl) g (by rfl) _ Try.underlying27 (by rfl) F _ K6.out (by rw [FS.out]; exact infoHdR) ?_)
                      | (refine wpList_store_all (by rfl) 27 _ _ (by rfl) (by rfl) w.heap.size F (by rfl) (by rfl) (by rw [FS.out]; exact infoHdR) Z 27 A6.out (by rw [ZS.out, FS.out]) FO.out ?_))
                    try simp only [Exit.inBlock, Exit.then]
                    refine ret_row_tmp (by rfl) w.heap.size 27 F _ _ (by rfl) (by rfl) (At.row (C := Z) A6.out F) Try.underlying27 (by rfl) (by rw [FS.out]; exact infoHdR) ?_
                    rw [HP2.out]
                    simp only
                    rw [← HF.out]
                    exact ⟨rfl, below_row (BZ.out.trans (B6.out.mono BZ.out.size)) (Nat.le_refl _) F⟩
theorem rparse11_any (b : List (BitVec 8)) (v : Value) (w : World) (hv : Sl w v b) (hl : b.length ≤ 1000) :
    Calls Try.prog 20 #[v] w fun e w' => e = .returned (.tuple #[.agg (hdC (parseH b).1), .int .i64 ((parseH b).2 : Int)]) ∧ Below w.heap.size w w' := by
  by_cases h1 : b.length ≠ 256
  · have e : parseH b = (zhd, 1) := by unfold parseH; rw [if_pos h1]
    rw [e]; exact rparse11_len b v w hv hl h1
  · have h1' : b.length = 256 := by omega
    by_cases h2 : b.take 4 ≠ carl
    · have e : parseH b = (zhd, 3) := by unfold parseH; rw [if_neg h1, if_pos h2]
      rw [e]; exact rparse11_early b v w 3 hv h1' (.inl ⟨h2, rfl⟩)
    · by_cases h3 : b.getD 4 0 ≠ 1 ∧ b.getD 4 0 ≠ 2
      · have e : parseH b = (zhd, 21) := by unfold parseH; rw [if_neg h1, if_neg h2, if_pos h3]
        rw [e]; exact rparse11_early b v w 21 hv h1' (.inr ⟨Classical.not_not.1 h2, h3, rfl⟩)
      · exact rparse11_late b v w hv h1' (Classical.not_not.1 h2) h3
end Sha
end Go.Proofs.Ytbnjihpafipbnaa
