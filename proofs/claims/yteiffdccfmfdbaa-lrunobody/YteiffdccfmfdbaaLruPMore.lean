/- The program's cache: Get, Has, Pin, Unpin, Drop, Order, Len, New. -/
import Derived.Test.YteiffdccfmfdbaaLruPTop
namespace Go.Proofs.Yteiffdccfmfdbaa
namespace Sha
open Go.RowKit Mem Lru
theorem chas_any {F : Foot} {b room n : Nat} {l : List Hd} (x : Int) (w : World) (h : PCa F b w room n l) (hx : wfI x) : Calls Try.prog 24 #[cq b, .int .i64 x] w fun e w' => e = .returned (.bool (lkH l x).isSome) ∧ w' = w := by
  have := phas_raw x w h.raw hx
  rw [pgOf_some] at this
  exact this
theorem cdrop_any {F : Foot} {b room n : Nat} {l : List Hd} (x : Int) (w : World) (h : PCa F b w room n l) (hx : wfI x) : Calls Try.prog 17 #[cq b, .int .i64 x] w fun e w' => e = .returned (.bool (drpH l x).2) ∧ CEnd PCa F b w room n (drpH l x).1 w' := by
  cases hs : (lkH l x).isSome with
  | true =>
    refine (pdrop_raw x w h.raw hx (osOf_nodup h.ok.nd) (by rw [pgOf_some]; exact hs)).mono ?_
    rintro e w' ⟨rfl, hr⟩
    exact ⟨by simp [drpH, hs], cend_of hr (pgOf_rest _ _) (pinOf_rest _ _) (osOf_rest _ _) (ok_rest h.ok _) h.r1 h.r2⟩
  | false =>
    refine (pdrop_no x w h.raw hx (by rw [pgOf_some]; exact hs)).mono ?_
    rintro e w' ⟨rfl, rfl⟩
    have hm : x ∉ items l := fun hm => by rw [← look_isSome, hs] at hm; cases hm
    refine ⟨by simp [drpH, hs], ?_⟩
    have : (drpH l x).1 = l := rest_of_not hm
    rw [this]
    exact cend_same h (Below.refl _ _)
set_option maxRecDepth 100000 in
set_option maxHeartbeats 2000000 in
theorem cpin_any {F : Foot} {b room n : Nat} {l : List Hd} (x : Int) (p : List (BitVec 8)) (vp : Value) (w : World) (h : PCa F b w room n l) (hp : Sl w vp p) (hpl : p.length ≤ 1000000) (hn : n ≤ 100000) :
    Calls Try.prog 13 #[cq b, .int .i64 x, vp] w fun e w' => e = .returned (.int .i64 (pinH l x p).2) ∧ CEnd PCa F b w room (n + 2) (pinH l x p).1 w' := by
  have hc := ccheck_any x w h
  cases hi : isI x with
  | false =>
    rw [hi] at hc
    have e1 : pinH l x p = (l, 1) := by unfold pinH; rw [hi]; rfl
    rw [e1]
    have HC := Lib.hid hc; have H := Lib.hid h
    clear hc h e1 hi hp hpl hn
    go_enter Try.func13, Try.ntmps13
    go_wp2_with (go_at_call 30; refine HC.out.mono ?_; rintro e w2 ⟨rfl, rfl⟩)
    go_ret
    exact ⟨rfl, cend_same (H.out.mono (by omega)) (Below.refl _ _)⟩
  | true =>
    rw [hi] at hc
    have hx := isI_iff.1 hi
    have e1 : pinH l x p = (⟨x, p, true⟩ :: rsH l x, 0) := by unfold pinH; rw [hi]; rfl
    rw [e1]
    have hh := phold_raw x p vp w h.raw (wf_it hx) hp hpl (by omega) (osOf_nodup h.ok.nd) (by rw [osOf_len]; have := h.ok.len; omega)
    have HC := Lib.hid hc; have H := Lib.hid h; have HH := Lib.hid hh; have HX := Lib.hid hx; have HP := Lib.hid hpl; have HN := Lib.hid hn
    clear hc h e1 hi hp hh hx hpl hn
    go_enter Try.func13, Try.ntmps13
    go_wp2_with (first
      | (go_at_call 30; refine HC.out.mono ?_; rintro e w2 ⟨rfl, rfl⟩)
      | fail)
    refine HH.out.mono ?_
    rintro e w3 ⟨rfl, ⟨⟨F1, ⟨bm, bp, v, f, h1⟩, hF1⟩, hc1⟩⟩
    have c2 : w3.cell? ⟨b, 2, none⟩ = some (.map (some bp)) := by rw [h1.row.cell]; rfl
    have bnp : bp ≠ b := h1.mp.ne_at h1.row
    have H1 := Lib.hid h1; have HF := Lib.hid hF1; have HC1 := Lib.hid hc1; have NP := Lib.hid bnp
    clear h1 hF1 hc1 bnp HH HC
    go_wp2_with (at_mapUpdate; refine wpList_mapV_put (by rfl) 57 _ _ _ (by rfl) 69 H1.out.mp x (.agg #[]) (by rfl) (by rfl) (by rfl) uInt uPn (by have := HN.out; unfold maxLen; omega) (wf_it HX.out) ?_; intro w8 hm8 hc8 hz8; have M8 := Lib.hid hm8; have C8 := Lib.hid hc8; clear hm8 hc8 hz8 c2)
    go_ret
    refine ⟨rfl, ?_⟩
    have hr : REnd F1 b w3 room (n + 1 + 1) (updP (pgOf l) x (some p)) (updB (pinOf l) x true) (unl x (osOf l) ++ [x]) w8 :=
      pc_turn H1.out (below0 C8.out) (fun k hk _ _ h3 _ => C8.out.block k hk h3) (H1.out.row.chg C8.out fun e => NP.out e.symm) ((H1.out.mm.chg C8.out H1.out.ne).mono (Nat.le_succ _)) (by rw [unitF_upd]; exact M8.out) (ownsRow_keep H1.out.own fun g hg => C8.out.block g (World.ownsRow.lt H1.out.own g hg).2 fun e => H1.out.mp.ne_own H1.out.own (e ▸ hg)) (fun k hk => .inl hk) (fun y q hq => .inl ⟨hq, rfl⟩) H1.out.same
    exact cend_of (REnd.trans HF.out HC1.out hr) (pgOf_cons _ _ _ _) (pinOf_cons _ _ _ _) (osOf_cons _ _ _ _) ((ok_cons H.out.ok HX.out HP.out _).mono (Nat.le_succ _)) H.out.r1 H.out.r2
/-- What Get tells. -/
def GotH (w : World) (o : Option (List (BitVec 8))) (e : Ending) (w' : World) : Prop := ∃ v, e = .returned (.tuple #[v, .bool o.isSome]) ∧ OwnB w' w.heap.size v (o.getD [])
set_option maxRecDepth 100000 in
set_option maxHeartbeats 2000000 in
theorem cget_any {F : Foot} {b room n : Nat} {l : List Hd} (x : Int) (w : World) (h : PCa F b w room n l) (hx : wfI x) (hn : n ≤ 100000) :
    Calls Try.prog 10 #[cq b, .int .i64 x] w fun e w' => GotH w (getH l x).2 e w' ∧ CEnd PCa F b w room (n + 1) (getH l x).1 w' := by
  have hh := chas_any x w h hx
  cases hs : lkH l x with
  | none =>
    rw [hs] at hh
    have e1 : getH l x = (l, none) := by unfold getH; rw [hs]
    rw [e1]
    have HH := Lib.hid hh; have H := Lib.hid h
    clear hh h e1 hs hx hn
    go_enter Try.func10, Try.ntmps10
    go_wp2_with (go_at_call 24; refine HH.out.mono ?_; rintro e w2 ⟨rfl, rfl⟩)
    go_ret2
    exact ⟨⟨_, rfl, OwnB.nil _ _⟩, cend_same (H.out.mono (Nat.le_succ _)) (Below.refl _ _)⟩
  | some g =>
    rw [hs] at hh
    have e1 : getH l x = (g :: rsH l x, some g.page) := by unfold getH; rw [hs]
    rw [e1]
    have hu := puse_raw x w h.raw (osOf_nodup h.ok.nd) (by rw [osOf_len]; have := h.ok.len; omega)
    have hok : Ok (n + 1) (g :: rsH l x) := by have := ok_get h.ok x; rw [e1] at this; exact this
    have hpl := h.ok.pg g (look_some hs).1
    have HH := Lib.hid hh; have H := Lib.hid h; have HU := Lib.hid hu; have HX := Lib.hid hx; have HS := Lib.hid hs; have OK := Lib.hid hok; have PL := Lib.hid hpl
    clear hh h e1 hs hx hn hu hok hpl
    go_enter Try.func10, Try.ntmps10
    go_wp2_with (first
      | (go_at_call 24; refine HH.out.mono ?_; rintro e w2 ⟨rfl, rfl⟩)
      | fail)
    refine HU.out.mono ?_
    rintro e w3 ⟨rfl, ⟨⟨F1, ⟨bm, bp, v, f, h1⟩, hF1⟩, hc1⟩⟩
    have c1 : w3.cell? ⟨b, 1, none⟩ = some (.map (some bm)) := by rw [h1.row.cell]; rfl
    have hfx : (f x).isSome = true := by rw [h1.same x, pgOf_some, HS.out]; rfl
    obtain ⟨u, hu⟩ := Option.isSome_iff_exists.1 hfx
    obtain ⟨p, hp1, hp2, _⟩ := h1.pages x u hu
    have e3 : pgOf l x = some g.page := by unfold pgOf; rw [HS.out]; rfl
    rw [e3] at hp1
    injection hp1 with hp1
    subst hp1
    have hcl := pclone_any g.page u w3 PL.out hp2.sl
    have hget : (f x).getD (.slice none 0 0) = u := by rw [hu]; rfl
    have H1 := Lib.hid h1; have HF := Lib.hid hF1; have HC1 := Lib.hid hc1; have CL := Lib.hid hcl; have GT := Lib.hid hget
    clear h1 hF1 hc1 hcl hget hfx hu hp2 e3 HU HH
    go_wp2_with (first
      | (at_lookup; refine wpList_mapV_look (by rfl) 54 _ _ (by rfl) 32 H1.out.mm x (by rfl) (by rfl) uInt uPg (.slice none 0 0) (zeroSB _) HX.out u GT.out ?_)
      | (go_at_call 28; refine CL.out.mono ?_; rintro e w4 ⟨v4, rfl, ho4, hb4⟩; have O4 := Lib.hid ho4; have B4 := Lib.hid hb4; clear ho4 hb4 c1)
      | fail)
    go_ret2
    refine ⟨⟨_, rfl, ?_⟩, ?_⟩
    · exact ownsRow_base O4.out HC1.out.size
    · obtain ⟨u1, u2, u3⟩ := used_eq HS.out
      exact cend_of (REnd.trans HF.out HC1.out (rend_same ⟨bm, bp, v, f, H1.out⟩ B4.out)|>.mono (Nat.le_succ _)) u1 u2 u3 OK.out H.out.r1 H.out.r2
set_option maxRecDepth 100000 in
set_option maxHeartbeats 2000000 in
theorem cunpin_any {F : Foot} {b room n : Nat} {l : List Hd} (x : Int) (w : World) (h : PCa F b w room n l) (hx : wfI x) (hn : n ≤ 100000) :
    Calls Try.prog 15 #[cq b, .int .i64 x] w fun e w' => e = .returned (.tuple #[.int .i64 (unpH room l x).2.1, .bool (unpH room l x).2.2]) ∧ CEnd PCa F b w room (n + 1) (unpH room l x).1 w' := by
  have hh := pisp_raw x w h.raw hx
  cases hs : pinOf l x with
  | false =>
    rw [hs] at hh
    have e1 : unpH room l x = (l, -1, false) := by
      unfold unpH
      unfold pinOf at hs
      split
      · rename_i g e; rw [e] at hs; rw [if_neg (by simp [hs])]
      · rfl
    rw [e1]
    have HH := Lib.hid hh; have H := Lib.hid h
    clear hh h e1 hs hx hn
    go_enter Try.func15, Try.ntmps15
    go_wp2_with (go_at_call 33; refine HH.out.mono ?_; rintro e w2 ⟨rfl, hb2⟩; have HB := Lib.hid hb2; clear hb2)
    go_ret2
    exact ⟨rfl, cend_same (H.out.mono (Nat.le_succ _)) HB.out⟩
  | true =>
    rw [hs] at hh
    obtain ⟨g, hg⟩ : ∃ g, lkH l x = some g := by
      unfold pinOf at hs
      cases e : lkH l x with
      | none => rw [e] at hs; cases hs
      | some g => exact ⟨g, rfl⟩
    have hgp : g.pin = true := by unfold pinOf at hs; rw [hg] at hs; exact hs
    have e1 : unpH room l x = ((fit room (⟨x, g.page, false⟩ :: rsH l x)).1, (fit room (⟨x, g.page, false⟩ :: rsH l x)).2, true) := by
      unfold unpH; rw [hg]; simp [hgp]
    rw [e1]
    have hpg : pgOf l x = some g.page := by unfold pgOf; rw [hg]; rfl
    have hok := ok_cons h.ok (look_isI h.ok hg) (h.ok.pg g (look_some hg).1) false
    have HH := Lib.hid hh; have H := Lib.hid h; have HX := Lib.hid hx; have PG := Lib.hid hpg; have OK := Lib.hid hok; have HN := Lib.hid hn
    clear hh h e1 hs hx hn hg hgp hpg hok
    go_enter Try.func15, Try.ntmps15
    go_wp2_with fail
    refine HH.out.mono ?_
    rintro e w2 ⟨rfl, hb2⟩
    obtain ⟨⟨bm, bp, v, f, h1⟩, _, _, _⟩ := H.out.keep hb2.size fun k _ hlt => hb2.block k hlt
    have c2 : w2.cell? ⟨b, 2, none⟩ = some (.map (some bp)) := by rw [h1.row.cell]; rfl
    have bnp : bp ≠ b := h1.mp.ne_at h1.row
    have H1 := Lib.hid h1; have HB := Lib.hid hb2; have NP := Lib.hid bnp
    clear h1 hb2 bnp HH
    go_wp2_with (first
      | (at_delete; refine wpList_mapV_drop (by rfl) 57 _ _ (by rfl) 69 H1.out.mp x (by rfl) (by rfl) uInt uPn HX.out ?_; intro w9 hm9 hc9 hz9; have M9 := Lib.hid hm9; have C9 := Lib.hid hc9; clear hm9 hc9 hz9 c2)
      | fail)
    have hr : REnd F b w2 room n (pgOf l) (updB (pinOf l) x false) (osOf l) w9 :=
      pc_turn H1.out (below0 C9.out) (fun k hk _ _ h3 _ => C9.out.block k hk h3) (H1.out.row.chg C9.out fun e => NP.out e.symm) (H1.out.mm.chg C9.out H1.out.ne) (by rw [unitF_upd]; exact M9.out) (ownsRow_keep H1.out.own fun g hg => C9.out.block g (World.ownsRow.lt H1.out.own g hg).2 fun e => H1.out.mp.ne_own H1.out.own (e ▸ hg)) (fun k hk => .inl hk) (fun y q hq => .inl ⟨hq, rfl⟩) H1.out.same
    obtain ⟨⟨F1, h2, hF1⟩, hc1⟩ := REnd.trans (F := F) (F1 := F) (fun k hk => .inl hk) (Chg.of_below HB.out) hr
    have hu := puse_raw x w9 h2 (osOf_nodup H.out.ok.nd) (by rw [osOf_len]; have := H.out.ok.len; have := HN.out; omega)
    have HU := Lib.hid hu; have HF := Lib.hid hF1; have HC1 := Lib.hid hc1
    clear hu hF1 hc1 h2 hr
    refine HU.out.mono ?_
    rintro e w3 ⟨rfl, hr⟩
    have hce : CEnd PCa F b w room (n + 1) (⟨x, g.page, false⟩ :: rsH l x) w3 := by
      have hr := (REnd.trans HF.out HC1.out hr).mono (Nat.le_succ n)
      refine cend_of hr ?_ (pinOf_cons _ _ _ _) (osOf_cons _ _ _ _) OK.out H.out.r1 H.out.r2
      rw [pgOf_cons, ← PG.out, updP_self]
    obtain ⟨⟨F2, h3, hF2⟩, hc2⟩ := hce
    have hq := proom_any _ h3 (by have := HN.out; omega)
    have HQ := Lib.hid hq; have HF2 := Lib.hid hF2; have HC2 := Lib.hid hc2
    clear hq hF2 hc2 h3 hr HU
    go_wp2_with (go_at_call 34; refine HQ.out.mono ?_; rintro e w4 ⟨rfl, hr⟩; have HR := Lib.hid (CEnd.trans HF2.out HC2.out hr); clear hr)
    go_ret2
    exact ⟨rfl, HR.out⟩
end Sha
end Go.Proofs.Yteiffdccfmfdbaa
