/- The document's cache: Unpin. -/
import Derived.Test.YteiffdccfmfdbaaLruRGet
namespace Go.Proofs.Yteiffdccfmfdbaa
namespace Sha
open Go.RowKit Mem Lru
theorem infoBl : (Try.prog.info? 4).map (·.size) = some 1 := by kernel_rfl
set_option maxRecDepth 100000 in
set_option maxHeartbeats 1000000 in
theorem runp_no {F : Foot} {b : Nat} {room n : Nat} {l : List Hd} (x : Int) (w : World) (h : RCa F b w room l) (ok : Ok n l) (hn : n ≤ 1000000) (hp : pinOf l x = false) :
    Calls Try.prog 16 #[rq b, .int .i64 x] w fun e w' => e = .returned (.tuple #[.int .i64 (-1), .bool false]) ∧ w' = w := by
  have hf := RCa.find x h ok hn
  cases hk : lkH l x with
  | none =>
    have hm : x ∉ items l := fun hm => by rw [← look_isSome, hk] at hm; cases hm
    rw [idx_none hm] at hf
    have HF := Lib.hid hf
    clear h hf hm hk ok hn hp
    go_enter Try.func16, Try.ntmps16
    go_wp2_with (go_at_call 25; refine HF.out.mono ?_; rintro e w2 ⟨rfl, rfl⟩)
    go_ret2
    exact ⟨rfl, rfl⟩
  | some g =>
    obtain ⟨k, h1, h2, h3, h4⟩ := idx_at ok.nd 0 hk
    rw [h2, Nat.zero_add] at hf
    have hgp : g.pin = false := by unfold pinOf at hp; rw [hk] at hp; exact hp
    obtain ⟨n1, k1, bb, oo, a, m, c, hat⟩ := RCa.at h h1 h3
    have c1 := hat.c1
    have c2 : w.cell? ⟨bb, oo + k * 3 + 2, none⟩ = some (.bool false) := hat.rg 2 _ (by simp [hvA, hvC, hgp])
    have hkk : ¬ (k : Int) < 0 := by omega
    have hlt : k < n1 := hat.lt
    have hlt' : (k : Int) < (n1 : Int) := by omega
    have HF := Lib.hid hf
    clear h hf hat hk ok hn h1 h2 h3 h4 hp hgp
    go_enter Try.func16, Try.ntmps16
    go_wp2_with (go_at_call 25; refine HF.out.mono ?_; rintro e w2 ⟨rfl, rfl⟩)
    go_ret2
    exact ⟨rfl, rfl⟩
set_option maxRecDepth 100000 in
set_option maxHeartbeats 1000000 in
theorem runp_any {F : Foot} {b : Nat} {room n : Nat} {l : List Hd} (x : Int) (w : World) (h : RCa F b w room l) (ok : Ok n l) (hn : n ≤ 100000) (hr : room ≤ 100000) :
    Calls Try.prog 16 #[rq b, .int .i64 x] w fun e w' => e = .returned (.tuple #[.int .i64 (unpH room l x).2.1, .bool (unpH room l x).2.2]) ∧ LEnd F b w room (unpH room l x).1 w' := by
  cases hs : pinOf l x with
  | false =>
    have e1 : unpH room l x = (l, -1, false) := by
      unfold unpH
      unfold pinOf at hs
      split
      · rename_i g e; rw [e] at hs; rw [if_neg (by simp [hs])]
      · rfl
    rw [e1]
    refine (runp_no x w h ok (by omega) hs).mono ?_
    rintro e w' ⟨rfl, rfl⟩
    exact ⟨rfl, lend_same h (Below.refl _ _)⟩
  | true =>
    have hf := RCa.find x h ok (by omega)
    obtain ⟨g, hk⟩ : ∃ g, lkH l x = some g := by
      unfold pinOf at hs
      cases e : lkH l x with
      | none => rw [e] at hs; cases hs
      | some g => exact ⟨g, rfl⟩
    have hgp : g.pin = true := by unfold pinOf at hs; rw [hk] at hs; exact hs
    have e1 : unpH room l x = ((fit room (⟨x, g.page, false⟩ :: rsH l x)).1, (fit room (⟨x, g.page, false⟩ :: rsH l x)).2, true) := by
      unfold unpH; rw [hk]; simp [hgp]
    rw [e1]
    have hok := ok_cons ok (look_isI ok hk) (ok.pg g (look_some hk).1) false
    obtain ⟨k, h1, h2, h3, h4⟩ := idx_at ok.nd 0 hk
    rw [h2, Nat.zero_add] at hf
    have hx : g.item = x := (look_some hk).2
    obtain ⟨n1, k1, bb, oo, a, m, c, hat⟩ := RCa.at h h1 h3
    have c1 := hat.c1
    have c2 : w.cell? ⟨bb, oo + k * 3 + 2, none⟩ = some (.bool true) := hat.rg 2 _ (by simp [hvA, hvC, hgp])
    have hkk : ¬ (k : Int) < 0 := by omega
    have hlt : k < n1 := hat.lt
    have hlt' : (k : Int) < (n1 : Int) := by omega
    have hbl := h.lt.1 _ h.lt.2
    have hone := hvA_one g a m c
    have hsz : (hvA (g, .slice a m c)).size = 3 := by simp [hvA, hvC]
    have hset : (hvA (g, .slice a m c)).setIfInBounds 2 (.bool false) = hvA (⟨x, g.page, false⟩, .slice a m c) := by rw [← hx]; simp [hvA, hvC]
    have hsz2 : (hvA ((⟨x, g.page, false⟩ : Hd), .slice a m c)).size = 3 := by simp [hvA, hvC]
    have hfi := fun w' (hb : Below w.heap.size w w') => rfirst_l (n := n) (⟨x, g.page, false⟩ : Hd) (.slice a m c) (h.below hb) ok (by omega) (hat.pg.keep hb.size fun k hk hlt => hb.block k hlt)
    have hrg := hat.rg
    obtain ⟨M, hM⟩ : ∃ M, M = hvA (g, .slice a m c) := ⟨_, rfl⟩
    obtain ⟨M2, hM2⟩ : ∃ M2, M2 = hvA ((⟨x, g.page, false⟩ : Hd), .slice a m c) := ⟨_, rfl⟩
    rw [← hM] at hone hsz hset hrg
    rw [← hM2] at hset hsz2
    have hfi : ∀ w', Below w.heap.size w w' → Calls Try.prog 29 #[rq b, .agg M2] w' fun e w'' => e = .returned (.tuple #[]) ∧ LEnd F b w' room (⟨x, g.page, false⟩ :: rsH l x) w'' := fun w' hb => by rw [hM2]; exact hfi w' hb
    have hnew := at_new w M 52
    have hb4 : Below w.heap.size w (w.alloc (.cells M 52)) := (Below.refl _ _).alloc (Nat.le_refl _) _
    have HF := Lib.hid hf; have RG := Lib.hid hrg; have B4 := Lib.hid hb4; have NW := Lib.hid hnew; have FI := Lib.hid hfi; have ONE := Lib.hid hone; have SZ := Lib.hid hsz; have SZ2 := Lib.hid hsz2; have SET := Lib.hid hset; have BL := Lib.hid hbl; have OK2 := Lib.hid hok; have RR := Lib.hid hr; have HN := Lib.hid hn
    clear h hf hrg hb4 hnew hfi hone hsz hsz2 hset hat hbl hM hM2 e1 hk ok hn hr hok hx h1 h2 h3 h4 hs hgp
    go_enter Try.func16, Try.ntmps16
    go_wp2_with (first
      | (go_at_call 25; refine HF.out.mono ?_; rintro e w2 ⟨rfl, hw2⟩; have hw3 := hw2.symm; clear hw2; subst hw3)
      | (refine wpList_load_mid (by rfl) 52 _ (by rfl) bb (oo + k * 3) (by rfl) M.toList _ RG.out Try.underlying52 (by rfl) (by rw [infoHd, Array.length_toList, SZ.out]) ?_; rw [Array.toArray_toList])
      | (refine wpList_store_new (by rfl) 52 _ _ (by rfl) (by rfl) M _ 52 (by rfl) (by rfl) (by rw [infoHd, SZ.out]) (by rw [SZ.out]; rfl) ONE.out ?_; clear c1 c2)
      | (refine Mem.wpList_store_one (by rfl) 4 _ _ (by rfl) (by rfl) w.heap.size 2 (.bool false) (by rfl) (by rfl) (by rfl) infoBl _ 52 NW.out (by rw [SZ.out]; omega) ?_; intro w8 ha ho hk; have A8 : Hid (At w8 w.heap.size M2 52) := Lib.hid (by rw [← SET.out]; exact ha); have B8 : Hid (Below w.heap.size w w8) := Lib.hid (hk _ _ B4.out (Nat.le_refl _)); clear ha ho hk)
      | (refine wpList_load_all (by rfl) 52 _ (by rfl) w.heap.size (by rfl) _ Try.underlying52 (by rfl) M2 52 A8.out (by rw [infoHd, SZ2.out]) ?_)
      | (go_at_call 29; refine (FI.out w8 B8.out).mono ?_; rintro e w6 ⟨rfl, hr⟩; have HR := Lib.hid (LEnd.trans (F := F) (F1 := F) (fun k hk => .inl hk) (Chg.of_below B8.out) hr); clear hr)
      | fail)
    obtain ⟨⟨F1, h1, hF1⟩, hc1⟩ := HR.out
    have hq := rfit_any _ h1 OK2.out (by have := HN.out; omega) RR.out
    have HQ := Lib.hid hq; have HF1 := Lib.hid hF1; have HC1 := Lib.hid hc1
    clear hq hF1 hc1 h1 HR
    refine HQ.out.mono ?_
    rintro e w7 ⟨rfl, hr⟩
    have HR := Lib.hid (LEnd.trans HF1.out HC1.out hr)
    clear hr
    go_wp2_with fail
    go_ret2
    exact ⟨rfl, HR.out⟩
end Sha
end Go.Proofs.Yteiffdccfmfdbaa
