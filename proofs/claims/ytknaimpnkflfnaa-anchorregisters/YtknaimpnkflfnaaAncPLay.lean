/- The program's Lay: its walk. -/
import Derived.Test.YtknaimpnkflfnaaAncPMay
import Derived.Test.YtknaimpnkflfnaaAncConv
import Derived.Test.YtknaimpnkflfnaaPkOwn
import Derived.Test.YtknaimpnkflfnaaAncParM
import Derived.Deep.DeepCutAuto
namespace Go.Proofs.Ytknaimpnkflfnaa
namespace Sha
open Go.RowKit Mem
set_option maxRecDepth 100000 in
set_option maxHeartbeats 8000000 in
theorem play_good (a : Anc) (h : a.Wf) (hm : mayA a = true) (w : World) : Calls Try.prog 7 #[.agg (ancC a)] w (TwoOwn w (layA a) 0) := by
  have hmay := fun wx => pmay_any a h wx
  rw [hm] at hmay
  obtain ⟨⟨hv0, hv1⟩, ⟨hp0, hp1⟩, ⟨hh0, hh1⟩, ⟨hr0, hr1⟩, hre⟩ := (mayA_iff a).1 hm
  have he := h.epoch
  have hr2 := h.re
  have hc2 := h.com
  have hA := at_new w (ancC a) 31
  have hb : Below w.heap.size w (w.alloc (.cells (ancC a) 31)) := (Below.refl _ _).alloc (Nat.le_refl _) _
  obtain ⟨w1, hw1⟩ : ∃ w1, w1 = w.alloc (.cells (ancC a) 31) := ⟨_, rfl⟩
  rw [← hw1] at hA hb
  obtain ⟨nver, hnver⟩ : ∃ n, n = a.ver.toNat := ⟨_, rfl⟩
  have cvver := fun wx => conv_iu a.ver (by omega) (by omega) wx
  rw [← hnver] at cvver
  obtain ⟨npages, hnpages⟩ : ∃ n, n = a.pages.toNat := ⟨_, rfl⟩
  have cvpages := fun wx => conv_iu a.pages (by omega) (by omega) wx
  rw [← hnpages] at cvpages
  obtain ⟨nhp, hnhp⟩ : ∃ n, n = a.hp.toNat := ⟨_, rfl⟩
  have cvhp := fun wx => conv_iu a.hp (by omega) (by omega) wx
  rw [← hnhp] at cvhp
  obtain ⟨nrp, hnrp⟩ : ∃ n, n = a.rp.toNat := ⟨_, rfl⟩
  have cvrp := fun wx => conv_iu a.rp (by omega) (by omega) wx
  rw [← hnrp] at cvrp
  have ln0 : ([] : List (BitVec 8)).length = 0 := rfl
  obtain ⟨M1, hM1⟩ : ∃ M, M = ([] : List (BitVec 8)) ++ nbytes nver 1 := ⟨_, rfl⟩
  have ln1 : M1.length = 1 := by rw [hM1, List.length_append, nbytes_length, ln0]
  have nu1 : ∀ v wx, Sl wx v ([] : List (BitVec 8)) → Calls Try.prog 23 #[v, .int .u64 (nver : Int), .int .i64 1] wx (SEnd wx M1) := fun v wx hs => by rw [hM1]; exact num1_any _ _ v wx hs (by rw [ln0]; decide) (by omega)
  obtain ⟨M2, hM2⟩ : ∃ M, M = M1 ++ nbytes npages 2 := ⟨_, rfl⟩
  have ln2 : M2.length = 3 := by rw [hM2, List.length_append, nbytes_length, ln1]
  have nu2 : ∀ v wx, Sl wx v M1 → Calls Try.prog 23 #[v, .int .u64 (npages : Int), .int .i64 2] wx (SEnd wx M2) := fun v wx hs => by rw [hM2]; exact num2_any _ _ v wx hs (by rw [ln1]; decide) (by omega)
  obtain ⟨M3, hM3⟩ : ∃ M, M = M2 ++ nbytes a.epoch 4 := ⟨_, rfl⟩
  have ln3 : M3.length = 7 := by rw [hM3, List.length_append, nbytes_length, ln2]
  have nu3 : ∀ v wx, Sl wx v M2 → Calls Try.prog 23 #[v, .int .u64 (a.epoch : Int), .int .i64 4] wx (SEnd wx M3) := fun v wx hs => by rw [hM3]; exact num4_any _ _ v wx hs (by rw [ln2]; decide) (by omega)
  obtain ⟨M4, hM4⟩ : ∃ M, M = M3 ++ nbytes nhp 1 := ⟨_, rfl⟩
  have ln4 : M4.length = 8 := by rw [hM4, List.length_append, nbytes_length, ln3]
  have nu4 : ∀ v wx, Sl wx v M3 → Calls Try.prog 23 #[v, .int .u64 (nhp : Int), .int .i64 1] wx (SEnd wx M4) := fun v wx hs => by rw [hM4]; exact num1_any _ _ v wx hs (by rw [ln3]; decide) (by omega)
  obtain ⟨M5, hM5⟩ : ∃ M, M = M4 ++ a.head := ⟨_, rfl⟩
  have ln5 : M5.length = 40 := by rw [hM5, List.length_append, h.head, ln4]
  obtain ⟨M6, hM6⟩ : ∃ M, M = M5 ++ nbytes nrp 1 := ⟨_, rfl⟩
  have ln6 : M6.length = 41 := by rw [hM6, List.length_append, nbytes_length, ln5]
  have nu6 : ∀ v wx, Sl wx v M5 → Calls Try.prog 23 #[v, .int .u64 (nrp : Int), .int .i64 1] wx (SEnd wx M6) := fun v wx hs => by rw [hM6]; exact num1_any _ _ v wx hs (by rw [ln5]; decide) (by omega)
  obtain ⟨M7, hM7⟩ : ∃ M, M = M6 ++ nbytes a.re 4 := ⟨_, rfl⟩
  have ln7 : M7.length = 45 := by rw [hM7, List.length_append, nbytes_length, ln6]
  have nu7 : ∀ v wx, Sl wx v M6 → Calls Try.prog 23 #[v, .int .u64 (a.re : Int), .int .i64 4] wx (SEnd wx M7) := fun v wx hs => by rw [hM7]; exact num4_any _ _ v wx hs (by rw [ln6]; decide) (by omega)
  obtain ⟨M8, hM8⟩ : ∃ M, M = M7 ++ a.root := ⟨_, rfl⟩
  have ln8 : M8.length = 77 := by rw [hM8, List.length_append, h.root, ln7]
  obtain ⟨M9, hM9⟩ : ∃ M, M = M8 ++ nbytes a.com 8 := ⟨_, rfl⟩
  have ln9 : M9.length = 85 := by rw [hM9, List.length_append, nbytes_length, ln8]
  have nu9 : ∀ v wx, Sl wx v M8 → Calls Try.prog 23 #[v, .int .u64 (a.com : Int), .int .i64 8] wx (SEnd wx M9) := fun v wx hs => by rw [hM9]; exact num8_any _ _ v wx hs (by rw [ln8]; decide) (by omega)
  have hlay : fillB M9 128 = layA a := by
    unfold fillB
    rw [ln9, hM9, hM8, hM7, hM6, hM5, hM4, hM3, hM2, hM1, hnver, hnpages, hnhp, hnrp, ← nb1 a.ver (by omega) (by omega), ← nb1 a.hp (by omega) (by omega), ← nb1 a.rp (by omega) (by omega)]
    simp only [layA, List.append_assoc, List.nil_append]
  have hfi : ∀ v wx, Sl wx v M9 → Calls Try.prog 24 #[v, .int .i64 128] wx (TwoOwn wx (layA a) 0) := fun v wx hs => by
    rw [← hlay]; exact pfill_own M9 128 v wx hs (by rw [ln9]; decide) (by decide)
  have CVver := Lib.hid cvver; have CVpages := Lib.hid cvpages; have CVhp := Lib.hid cvhp; have CVrp := Lib.hid cvrp
  have MAY := Lib.hid hmay; have AX := Lib.hid hA; have HB := Lib.hid hb; have WF := Lib.hid h; have HL := Lib.hid h.head; have RL := Lib.hid h.root
  have AS := Lib.hid (ancC_size h); have FI := Lib.hid hfi
  have NU1 := Lib.hid nu1; have NU2 := Lib.hid nu2; have NU3 := Lib.hid nu3; have NU4 := Lib.hid nu4; have NU6 := Lib.hid nu6; have NU7 := Lib.hid nu7; have NU9 := Lib.hid nu9
  have LN1 := Lib.hid ln1; have HM1 := Lib.hid hM1; have LN2 := Lib.hid ln2; have HM2 := Lib.hid hM2; have LN3 := Lib.hid ln3; have HM3 := Lib.hid hM3; have LN4 := Lib.hid ln4; have HM4 := Lib.hid hM4; have LN5 := Lib.hid ln5; have HM5 := Lib.hid hM5; have LN6 := Lib.hid ln6; have HM6 := Lib.hid hM6; have LN7 := Lib.hid ln7; have HM7 := Lib.hid hM7; have LN8 := Lib.hid ln8; have HM8 := Lib.hid hM8; have LN9 := Lib.hid ln9; have HM9 := Lib.hid hM9
  clear cvver cvpages cvhp cvrp hnver hnpages hnhp hnrp hmay hA hb hm h hlay hfi ln0 nu1 nu2 nu3 nu4 nu6 nu7 nu9 ln1 hM1 ln2 hM2 ln3 hM3 ln4 hM4 ln5 hM5 ln6 hM6 ln7 hM7 ln8 hM8 ln9 hM9
  go_enter Try.func7, Try.ntmps7
  go_upto_region 1 with fail
  rw [← hw1]
  clear hw1
  go_wp2_with (refine wpList_load_all (by rfl) 31 _ (by rfl) w.heap.size (by rfl) _ Try.underlying31 (by rfl) (ancC a) _ AX.out (by rw [AS.out]; exact infoAncP) ?_)
  refine (MAY.out w1).mono ?_
  rintro e w2 ⟨rfl, hb2⟩
  have B2 := Lib.hid hb2
  have AA : Hid (At w2 w.heap.size (ancC a) 31) := AX.out.below hb2 AX.out.lt
  clear hb2 MAY
  have AX2 := AX
  have SS : Hid (Sl w2 (.slice none 0 0) ([] : List (BitVec 8))) := sl_none _
  have cc : w2.cell? ⟨w.heap.size, 0, none⟩ = some (.int .i64 a.ver) := (AA.out.cell 0).trans (anc0 a)
  go_wp2_with (refine wpList_conv (by rfl) _ _ _ _ (.int .u64 (nver : Int)) (by rfl) (by rfl) CVver.out ?_)
  refine (NU1.out _ _ SS.out).mono ?_
  rintro e w3 ⟨g, rfl, ha, hg, hb⟩
  have B3 : Hid (Below w1.heap.size w1 w3) := B2.out.trans (hb.mono B2.out.size)
  replace AA := Lib.hid (AA.out.below hb AA.out.lt)
  replace SS := Lib.hid (at_sl ha rfl)
  rw [LN1.out]
  rw [LN1.out] at SS
  clear cc ha hg hb
  have cc : w3.cell? ⟨w.heap.size, 1, none⟩ = some (.int .i64 a.pages) := (AA.out.cell 1).trans (anc1 a)
  go_wp2_with (refine wpList_conv (by rfl) _ _ _ _ (.int .u64 (npages : Int)) (by rfl) (by rfl) CVpages.out ?_)
  refine (NU2.out _ _ SS.out).mono ?_
  rintro e w4 ⟨g, rfl, ha, hg, hb⟩
  have B4 : Hid (Below w1.heap.size w1 w4) := B3.out.trans (hb.mono B3.out.size)
  replace AA := Lib.hid (AA.out.below hb AA.out.lt)
  replace SS := Lib.hid (at_sl ha rfl)
  rw [LN2.out]
  rw [LN2.out] at SS
  clear cc ha hg hb
  have cc : w4.cell? ⟨w.heap.size, 2, none⟩ = some (.int .u32 (a.epoch : Int)) := (AA.out.cell 2).trans (anc2 a)
  go_wp2_with (refine wpList_conv (by rfl) _ _ _ _ (.int .u64 (a.epoch : Int)) (by rfl) (by rfl) (fun wx => conv_uu a.epoch (by omega) wx) ?_)
  refine (NU3.out _ _ SS.out).mono ?_
  rintro e w5 ⟨g, rfl, ha, hg, hb⟩
  have B5 : Hid (Below w1.heap.size w1 w5) := B4.out.trans (hb.mono B4.out.size)
  replace AA := Lib.hid (AA.out.below hb AA.out.lt)
  replace SS := Lib.hid (at_sl ha rfl)
  rw [LN3.out]
  rw [LN3.out] at SS
  clear cc ha hg hb
  have cc : w5.cell? ⟨w.heap.size, 3, none⟩ = some (.int .i64 a.hp) := (AA.out.cell 3).trans (anc3 a)
  go_wp2_with (refine wpList_conv (by rfl) _ _ _ _ (.int .u64 (nhp : Int)) (by rfl) (by rfl) CVhp.out ?_)
  refine (NU4.out _ _ SS.out).mono ?_
  rintro e w6 ⟨g, rfl, ha, hg, hb⟩
  have B6 : Hid (Below w1.heap.size w1 w6) := B5.out.trans (hb.mono B5.out.size)
  replace AA := Lib.hid (AA.out.below hb AA.out.lt)
  replace SS := Lib.hid (at_sl ha rfl)
  rw [LN4.out]
  rw [LN4.out] at SS
  have OO : Hid (OwnB w6 w1.heap.size (.slice (some ⟨g, 0, none⟩) 8 8) M4) := by have h := own_fulls ha (Nat.le_trans B5.out.size hg) (by rw [LN4.out]; decide); rw [LN4.out] at h; exact h
  clear cc ha hg hb
  go_wp2_with (first
    | (refine wpList_slice_arr (by rfl) 23 _ (by rfl) 32 5 w.heap.size 4 (by rfl) Try.underlying23 infoB ?_)
    | (at_builtin; refine wpList_append_bytes (by rfl) _ _ (by rfl) w1.heap.size (.slice (some ⟨g, 0, none⟩) 8 8) (.slice (some ⟨w.heap.size, 4, none⟩) 32 32) M4 a.head (by rfl) OO.out (by rfl) (sl_head AA.out WF.out) (by rw [LN4.out, HL.out]; decide) B6.out.size ?_; intro v9 w7 ho9 _ hb9; have B7 : Hid (Below w1.heap.size w1 w7) := B6.out.trans hb9; replace AA := Lib.hid (AX2.out.below B7.out AX2.out.lt); replace SS : Hid (Sl w7 v9 M5) := (by rw [HM5.out]; exact ho9.sl); have cc := (AA.out.cell 36).trans (anc36 WF.out); clear ho9 hb9 OO)
    | (refine wpList_conv (by rfl) _ _ _ _ (.int .u64 (nrp : Int)) (by rfl) (by rfl) CVrp.out ?_))
  refine (NU6.out _ _ SS.out).mono ?_
  rintro e w8 ⟨g, rfl, ha, hg, hb⟩
  have B8 : Hid (Below w1.heap.size w1 w8) := B7.out.trans (hb.mono B7.out.size)
  replace AA := Lib.hid (AA.out.below hb AA.out.lt)
  replace SS := Lib.hid (at_sl ha rfl)
  rw [LN6.out]
  rw [LN6.out] at SS
  clear cc ha hg hb
  have cc : w8.cell? ⟨w.heap.size, 37, none⟩ = some (.int .u32 (a.re : Int)) := (AA.out.cell 37).trans (anc37 WF.out)
  go_wp2_with (refine wpList_conv (by rfl) _ _ _ _ (.int .u64 (a.re : Int)) (by rfl) (by rfl) (fun wx => conv_uu a.re (by omega) wx) ?_)
  refine (NU7.out _ _ SS.out).mono ?_
  rintro e w9 ⟨g, rfl, ha, hg, hb⟩
  have B9 : Hid (Below w1.heap.size w1 w9) := B8.out.trans (hb.mono B8.out.size)
  replace AA := Lib.hid (AA.out.below hb AA.out.lt)
  replace SS := Lib.hid (at_sl ha rfl)
  rw [LN7.out]
  rw [LN7.out] at SS
  have OO : Hid (OwnB w9 w1.heap.size (.slice (some ⟨g, 0, none⟩) 45 45) M7) := by have h := own_fulls ha (Nat.le_trans B8.out.size hg) (by rw [LN7.out]; decide); rw [LN7.out] at h; exact h
  clear cc ha hg hb
  go_wp2_with (first
    | (refine wpList_slice_arr (by rfl) 23 _ (by rfl) 32 5 w.heap.size 38 (by rfl) Try.underlying23 infoB ?_)
    | (at_builtin; refine wpList_append_bytes (by rfl) _ _ (by rfl) w1.heap.size (.slice (some ⟨g, 0, none⟩) 45 45) (.slice (some ⟨w.heap.size, 38, none⟩) 32 32) M7 a.root (by rfl) OO.out (by rfl) (sl_root AA.out WF.out) (by rw [LN7.out, RL.out]; decide) B9.out.size ?_; intro v9 w10 ho9 _ hb9; have B10 : Hid (Below w1.heap.size w1 w10) := B9.out.trans hb9; replace AA := Lib.hid (AX2.out.below B10.out AX2.out.lt); replace SS : Hid (Sl w10 v9 M8) := (by rw [HM8.out]; exact ho9.sl); have cc := (AA.out.cell 70).trans (anc70 WF.out); clear ho9 hb9 OO))
  refine (NU9.out _ _ SS.out).mono ?_
  rintro e w11 ⟨g, rfl, ha, hg, hb⟩
  have B11 : Hid (Below w1.heap.size w1 w11) := B10.out.trans (hb.mono B10.out.size)
  replace AA := Lib.hid (AA.out.below hb AA.out.lt)
  replace SS := Lib.hid (at_sl ha rfl)
  rw [LN9.out]
  rw [LN9.out] at SS
  clear cc ha hg hb
  go_wp2_with fail
  refine (FI.out _ _ SS.out).mono ?_
  rintro e w12 ⟨g, rfl, ha, hg, hb⟩
  have BQ : Hid (Below w1.heap.size w1 w12) := B11.out.trans (hb.mono B11.out.size)
  have HA := Lib.hid ha; have HG := Lib.hid (Nat.le_trans HB.out.size (Nat.le_trans B11.out.size hg))
  clear ha hg hb
  go_wp2_with fail
  go_ret2
  exact ⟨g, rfl, HA.out, HG.out, HB.out.trans (BQ.out.mono HB.out.size)⟩
set_option maxRecDepth 100000 in
set_option maxHeartbeats 2000000 in
theorem play_bad (a : Anc) (h : a.Wf) (hm : mayA a = false) (w : World) : Calls Try.prog 7 #[.agg (ancC a)] w fun e w' => e = .returned (.tuple #[.slice none 0 0, .int .i64 1]) ∧ Below w.heap.size w w' := by
  have hmay := fun wx => pmay_any a h wx
  rw [hm] at hmay
  have hA := at_new w (ancC a) 31
  have hb : Below w.heap.size w (w.alloc (.cells (ancC a) 31)) := (Below.refl _ _).alloc (Nat.le_refl _) _
  obtain ⟨w1, hw1⟩ : ∃ w1, w1 = w.alloc (.cells (ancC a) 31) := ⟨_, rfl⟩
  rw [← hw1] at hA hb
  have MAY := Lib.hid hmay; have AX := Lib.hid hA; have HB := Lib.hid hb
  have AS := Lib.hid (ancC_size h)
  clear hmay hA hb hm h
  go_enter Try.func7, Try.ntmps7
  go_upto_region 1 with fail
  rw [← hw1]
  clear hw1
  go_wp2_with (refine wpList_load_all (by rfl) 31 _ (by rfl) w.heap.size (by rfl) _ Try.underlying31 (by rfl) (ancC a) _ AX.out (by rw [AS.out]; exact infoAncP) ?_)
  refine (MAY.out w1).mono ?_
  rintro e w2 ⟨rfl, hb2⟩
  have B2 : Hid (Below w.heap.size w w2) := HB.out.trans (hb2.mono HB.out.size)
  clear hb2 MAY
  go_wp2_with fail
  go_ret2
  exact ⟨rfl, B2.out⟩
end Sha
end Go.Proofs.Ytknaimpnkflfnaa
