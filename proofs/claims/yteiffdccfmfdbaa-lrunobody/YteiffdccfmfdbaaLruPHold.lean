/- The program's cache: hold, Drop. -/
import Derived.Test.YteiffdccfmfdbaaLruPUse
namespace Go.Proofs.Yteiffdccfmfdbaa
namespace Sha
open Go.RowKit Mem
theorem below0 {F : Foot} {w w' : World} (h : Chg F w w') : Below 0 w w' := ⟨h.os, h.tape, h.output, h.size, fun _k hk => absurd hk (Nat.not_lt_zero _)⟩
theorem undrew {w w' : World} (h : Below w.drew.heap.size w.drew w') : Below w.heap.size w w' := ⟨h.os, h.tape, h.output, h.size, h.block⟩
set_option maxRecDepth 100000 in
set_option maxHeartbeats 2000000 in
theorem phold_raw {F : Foot} {b room n : Nat} {pg : Int → Option (List (BitVec 8))} {pn : Int → Bool} {os : List Int} (x : Int) (p : List (BitVec 8)) (vp : Value) (w : World) (h : PRaw F b w room n pg pn os) (hx : wfI x) (hp : Sl w vp p) (hpl : p.length ≤ 1000000) (hnn : n ≤ 1000000) (hn : os.Nodup) (hl : os.length ≤ 1000000) :
    Calls Try.prog 31 #[cq b, .int .i64 x, vp] w fun e w' => e = .returned (.tuple #[]) ∧ REnd F b w room (n + 1) (updP pg x (some p)) pn (unl x os ++ [x]) w' := by
  obtain ⟨bm, bp, v, f, h⟩ := h
  have c1 : w.drew.cell? ⟨b, 1, none⟩ = some (.map (some bm)) := by show w.cell? _ = _; rw [h.row.cell]; rfl
  have hcl := pclone_any p vp w.drew hpl hp
  have H := Lib.hid h; have HX := Lib.hid hx; have HN := Lib.hid hnn; have HO := Lib.hid hn; have HL := Lib.hid hl; have CL := Lib.hid hcl
  clear h hx hp hpl hnn hn hl hcl
  go_enter Try.func31, Try.ntmps31
  go_wp2_with fail
  refine wp_region_plan_in (fun x => x.cell? ⟨b, 1, none⟩ = some (.map (some bm))) (.take 0 (.take 1 (.take 2 (.take 3 (.take 4 (.take 5 (.sole 6 (.sole 7 .done)))))))) (by kernel_rfl) (by kernel_rfl) (by kernel_rfl) c1 ?_
  (first | (refine plan_move _ _ (by rfl) (by rfl) (.inl (by rfl)) Mem.ev_a ?_) | (refine plan_move _ _ (by rfl) (by rfl) (.inr (by rfl)) Mem.ev_a ?_) | (refine plan_pick_t _ _ _ _ (by rfl) (by rfl) (by rfl) Mem.ev_a Mem.ev_a ?_) | (refine plan_pick_f _ _ _ _ (by rfl) (by rfl) (by rfl) Mem.ev_a Mem.ev_a ?_))
  (simp only [Act.put, List.setIfInBounds_toArray, List.set_cons_zero, List.set_cons_succ])
  refine plan_nilcheck _ ⟨b, 0, none⟩ (by rfl) (by rfl) (by rfl) Mem.ev_a ?_
  (simp only [Act.put, List.setIfInBounds_toArray, List.set_cons_zero, List.set_cons_succ])
  refine plan_field 59 _ 1 b 0 ⟨b, 1, none⟩ (by rfl) (by rfl) (by rfl) Mem.ev_a (fun wx => by go_simp) ?_
  (simp only [Act.put, List.setIfInBounds_toArray, List.set_cons_zero, List.set_cons_succ])
  refine plan_cell 54 _ _ (.map (some bm)) _ (by rfl) (by rfl) (by rfl) Mem.ev_a (fun w' hw' => hw') Try.underlying54 (by rfl) ?_
  (simp only [Act.put, List.setIfInBounds_toArray, List.set_cons_zero, List.set_cons_succ])
  (first | (refine plan_move _ _ (by rfl) (by rfl) (.inl (by rfl)) Mem.ev_a ?_) | (refine plan_move _ _ (by rfl) (by rfl) (.inr (by rfl)) Mem.ev_a ?_) | (refine plan_pick_t _ _ _ _ (by rfl) (by rfl) (by rfl) Mem.ev_a Mem.ev_a ?_) | (refine plan_pick_f _ _ _ _ (by rfl) (by rfl) (by rfl) Mem.ev_a Mem.ev_a ?_))
  (simp only [Act.put, List.setIfInBounds_toArray, List.set_cons_zero, List.set_cons_succ])
  (first | (refine plan_move _ _ (by rfl) (by rfl) (.inl (by rfl)) Mem.ev_a ?_) | (refine plan_move _ _ (by rfl) (by rfl) (.inr (by rfl)) Mem.ev_a ?_) | (refine plan_pick_t _ _ _ _ (by rfl) (by rfl) (by rfl) Mem.ev_a Mem.ev_a ?_) | (refine plan_pick_f _ _ _ _ (by rfl) (by rfl) (by rfl) Mem.ev_a Mem.ev_a ?_))
  (simp only [Act.put, List.setIfInBounds_toArray, List.set_cons_zero, List.set_cons_succ])
  refine plan_call 28 _ _ _ (by kernel_rfl) (by rfl) (by rfl) (by rfl) (by first | exact Mem.ev_none _ | (simp only [List.map_toArray, List.map_cons, List.map_nil, Mem.ev_tmp, List.getD_cons_succ, List.getD_cons_zero] <;> rfl)) ?_
  refine CL.out.mono ?_
  rintro e w1 ⟨u, rfl, hu, hb⟩
  refine ⟨u, rfl, (hb.cell (p := ⟨b, 1, none⟩) (by have := H.out.row.lt; exact this)).trans c1, ?_⟩
  (simp only [Act.put, List.setIfInBounds_toArray, List.set_cons_zero, List.set_cons_succ])
  have hb1 := undrew hb
  refine plan_mapV_put 54 _ _ _ 32 x u (by rfl) (by rfl) (by rfl) Mem.ev_a Mem.ev_a Mem.ev_a (H.out.mm.below hb1 H.out.mm.lt) uInt uPg (by have := HN.out; unfold maxLen; omega) HX.out ?_
  intro w2 hm2 hc2 hz2
  have bnm : bm ≠ b := H.out.mm.ne_at H.out.row
  have hc : Chg (fun k => k = bm) w w2 := (Chg.of_below hb1).trans hc2 fun k hk => .inl hk
  have hr : REnd F b w room (n + 1) (updP pg x (some p)) pn os w2 := by
    refine pc_turn H.out (below0 hc) (fun k hk _ h2 _ _ => hc.block k hk h2) (H.out.row.chg hc fun e => bnm e.symm) hm2 ((H.out.mp.chg hc fun e => H.out.ne e.symm).mono (Nat.le_succ _)) (ownsRow_keep H.out.own fun g hg => hc.block g (World.ownsRow.lt H.out.own g hg).2 fun e => H.out.mm.ne_own H.out.own (e ▸ hg)) (fun k hk => .inl hk) (fun y q hq => ?_) (fun y => ?_)
    · by_cases e : y = x
      · subst e
        rw [upd_same] at hq
        injection hq with hq
        subst hq
        refine .inr ⟨p, by simp [updP], ?_, fun k hk => (hu.lt k hk).1⟩
        exact ownsRow_base (hu.keep fun g hg => hc2.block g (hu.lt g hg).2 fun e => by have := (hu.lt g hg).1; have := H.out.mm.lt; have e : g = bm := e; have e2 : w.drew.heap.size = w.heap.size := rfl; omega) (Nat.zero_le _)
      · rw [upd_other _ _ e] at hq
        exact .inl ⟨hq, by simp [updP, e]⟩
    · by_cases e : y = x
      · subst e; simp [upd, updP]
      · rw [upd_other _ _ e, H.out.same y]; simp [updP, e]
  refine ⟨by rw [(H.out.row.chg hc fun e => bnm e.symm).cell]; rfl, ?_⟩
  simp only [Act.put]
  refine plan_nil ?_
  obtain ⟨⟨F1, h1, hF1⟩, hc1⟩ := hr
  have hU := puse_raw x w2 h1 HO.out HL.out
  have HU := Lib.hid hU; have HF := Lib.hid hF1; have HC := Lib.hid hc1
  clear hU hF1 hc1 h1 hc hm2 hc2 hz2 hb1 hu hb c1
  go_wp2_with fail
  refine HU.out.mono ?_
  rintro e w3 ⟨rfl, hr⟩
  have HR := Lib.hid (REnd.trans HF.out HC.out hr)
  clear hr
  go_wp2_with fail
  go_end0
  exact ⟨rfl, HR.out⟩
set_option maxRecDepth 100000 in
set_option maxHeartbeats 2000000 in
theorem pdrop_raw {F : Foot} {b room n : Nat} {pg : Int → Option (List (BitVec 8))} {pn : Int → Bool} {os : List Int} (x : Int) (w : World) (h : PRaw F b w room n pg pn os) (hx : wfI x) (hn : os.Nodup) (hs : (pg x).isSome = true) :
    Calls Try.prog 17 #[cq b, .int .i64 x] w fun e w' => e = .returned (.bool true) ∧ REnd F b w room n (updP pg x none) (updB pn x false) (unl x os) w' := by
  have hh := phas_raw x w h hx
  rw [hs] at hh
  obtain ⟨bm, bp, v, f, h⟩ := h
  have c1 : w.cell? ⟨b, 1, none⟩ = some (.map (some bm)) := by rw [h.row.cell]; rfl
  have bnm : bm ≠ b := h.mm.ne_at h.row
  have bnp : bp ≠ b := h.mp.ne_at h.row
  have H := Lib.hid h; have HX := Lib.hid hx; have HO := Lib.hid hn; have HH := Lib.hid hh; have NM := Lib.hid bnm; have NP := Lib.hid bnp
  clear h hx hn hh hs bnm bnp
  go_enter Try.func17, Try.ntmps17
  go_wp2_with (first
    | (go_at_call 24; refine HH.out.mono ?_; rintro e w2 ⟨rfl, rfl⟩)
    | (at_delete; refine wpList_mapV_drop (by rfl) 54 _ _ (by rfl) 32 H.out.mm x (by rfl) (by rfl) uInt uPg HX.out ?_; intro w8 hm8 hc8 hz8; have d2 : w8.cell? ⟨b, 2, none⟩ = some (.map (some bp)) := (by rw [(H.out.row.chg hc8 fun e => NM.out e.symm).cell]; rfl); have M8 := Lib.hid hm8; have C8 := Lib.hid hc8; clear hm8 hc8 hz8 c1)
    | (at_delete; refine wpList_mapV_drop (by rfl) 57 _ _ (by rfl) 69 (H.out.mp.chg C8.out fun e => H.out.ne e.symm) x (by rfl) (by rfl) uInt uPn HX.out ?_; intro w9 hm9 hc9 hz9; have M9 := Lib.hid hm9; have C9 := Lib.hid hc9; clear hm9 hc9 hz9 d2)
    | fail)
  have hr : REnd F b w2 room n (updP pg x none) (updB pn x false) os w9 := by
    have hc : Chg (fun k => k = bm ∨ k = bp) w2 w9 := (C8.out.mono fun k hk => .inl (.inl hk)).trans (C9.out.mono fun k hk => .inl hk) fun k hk => .inl (.inr hk)
    refine pc_turn H.out (below0 hc) (fun k hk _ h2 h3 _ => hc.block k hk fun e => e.elim h2 h3) (H.out.row.chg hc fun e => e.elim (fun e => NM.out e.symm) fun e => NP.out e.symm) (M8.out.chg C9.out H.out.ne) (by rw [unitF_upd]; exact M9.out) (ownsRow_keep H.out.own fun g hg => hc.block g (World.ownsRow.lt H.out.own g hg).2 fun e => e.elim (fun e => H.out.mm.ne_own H.out.own (e ▸ hg)) fun e => H.out.mp.ne_own H.out.own (e ▸ hg)) (fun k hk => .inl hk) (fun y q hq => ?_) (fun y => ?_)
    · by_cases e : y = x
      · subst e; rw [upd_same] at hq; cases hq
      · rw [upd_other _ _ e] at hq
        exact .inl ⟨hq, by simp [updP, e]⟩
    · by_cases e : y = x
      · subst e; simp [upd, updP]
      · rw [upd_other _ _ e, H.out.same y]; simp [updP, e]
  obtain ⟨⟨F1, h1, hF1⟩, hc1⟩ := hr
  have hU := punl_raw x w9 h1 HO.out
  have HU := Lib.hid hU; have HF := Lib.hid hF1; have HC := Lib.hid hc1
  clear hU hF1 hc1 h1
  refine HU.out.mono ?_
  rintro e w3 ⟨rfl, hr⟩
  have HR := Lib.hid (REnd.trans HF.out HC.out hr)
  clear hr
  go_wp2_with fail
  go_ret
  exact ⟨rfl, HR.out⟩
set_option maxRecDepth 100000 in
set_option maxHeartbeats 2000000 in
theorem pdrop_no {F : Foot} {b room n : Nat} {pg : Int → Option (List (BitVec 8))} {pn : Int → Bool} {os : List Int} (x : Int) (w : World) (h : PRaw F b w room n pg pn os) (hx : wfI x) (hs : (pg x).isSome = false) :
    Calls Try.prog 17 #[cq b, .int .i64 x] w fun e w' => e = .returned (.bool false) ∧ w' = w := by
  have hh := phas_raw x w h hx
  rw [hs] at hh
  have HH := Lib.hid hh
  clear h hx hh hs
  go_enter Try.func17, Try.ntmps17
  go_wp2_with (go_at_call 24; refine HH.out.mono ?_; rintro e w2 ⟨rfl, rfl⟩)
  go_ret
  exact ⟨rfl, rfl⟩
end Sha
end Go.Proofs.Yteiffdccfmfdbaa
