/- The program's cache: what Get tells lies apart from all that the cache reaches. -/
import Derived.Test.YteiffdccfmfdbaaLruPr
namespace Go.Proofs.Yteiffdccfmfdbaa
namespace Sha
open Go.RowKit Mem Lru
set_option maxRecDepth 100000 in
set_option maxHeartbeats 2000000 in
theorem cget_far {F : Foot} {b room n : Nat} {l : List Hd} {g : Hd} (x : Int) (w : World) (h : PCa F b w room n l) (hx : wfI x) (hn : n ≤ 100000) (hs : lkH l x = some g) :
    Calls Try.prog 10 #[cq b, .int .i64 x] w fun e w' => ∃ v, e = .returned (.tuple #[v, .bool true]) ∧ OwnB w' w.heap.size v g.page ∧ Chg F w w' ∧ ∃ F', PCa F' b w' room (n + 1) (g :: rsH l x) ∧ (∀ k, F' k → F k ∨ w.heap.size ≤ k) ∧ ∀ k, v.ownBlock = some k → ¬ F' k := by
  have hh := chas_any x w h hx
  rw [hs] at hh
  have e1 : getH l x = (g :: rsH l x, some g.page) := by unfold getH; rw [hs]
  have hu := puse_raw x w h.raw (osOf_nodup h.ok.nd) (by rw [osOf_len]; have := h.ok.len; omega)
  have hok : Ok (n + 1) (g :: rsH l x) := by have := ok_get h.ok x; rw [e1] at this; exact this
  have hpl := h.ok.pg g (look_some hs).1
  have HH := Lib.hid hh; have H := Lib.hid h; have HU := Lib.hid hu; have HX := Lib.hid hx; have HS := Lib.hid hs; have OK := Lib.hid hok; have PL := Lib.hid hpl
  clear hh h e1 hs hx hn hu hok hpl
  go_enter Try.func10, Try.ntmps10
  go_wp2_with (first
    | (go_at_call 24; refine HH.out.mono ?_; rintro e w2 ⟨rfl, rfl⟩)
    | fail)
  refine HU.out.mono ?_
  rintro e w3 ⟨rfl, ⟨⟨F1, ⟨bm, bp, v, f, h1⟩, hF1⟩, hc1⟩⟩
  have c1 : w3.cell? ⟨b, 1, none⟩ = some (.map (some bm)) := by rw [h1.row.cell]; rfl
  have hfx : (f x).isSome = true := by rw [h1.same x, pgOf_some, HS.out]; rfl
  obtain ⟨u, hu⟩ := Option.isSome_iff_exists.1 hfx
  obtain ⟨p, hp1, hp2, _⟩ := h1.pages x u hu
  have e3 : pgOf l x = some g.page := by unfold pgOf; rw [HS.out]; rfl
  rw [e3] at hp1
  injection hp1 with hp1
  subst hp1
  have hcl := pclone_any g.page u w3 PL.out hp2.sl
  have hget : (f x).getD (.slice none 0 0) = u := by rw [hu]; rfl
  have H1 := Lib.hid h1; have HF := Lib.hid hF1; have HC1 := Lib.hid hc1; have CL := Lib.hid hcl; have GT := Lib.hid hget
  clear h1 hF1 hc1 hcl hget hfx hu hp2 e3 HU HH
  go_wp2_with (first
    | (at_lookup; refine wpList_mapV_look (by rfl) 54 _ _ (by rfl) 32 H1.out.mm x (by rfl) (by rfl) uInt uPg (.slice none 0 0) (zeroSB _) HX.out u GT.out ?_)
    | (go_at_call 28; refine CL.out.mono ?_; rintro e w4 ⟨v4, rfl, ho4, hb4⟩; have O4 := Lib.hid ho4; have B4 := Lib.hid hb4; clear ho4 hb4 c1)
    | fail)
  go_ret2
  obtain ⟨u1, u2, u3⟩ := used_eq HS.out
  have hraw : PRaw F1 b w4 room n (pgOf l) (pinOf l) (unl x (osOf l) ++ [x]) := PRaw.keep ⟨bm, bp, v, f, H1.out⟩ B4.out.size fun k _ hk => B4.out.block k hk
  refine ⟨_, rfl, ownsRow_base O4.out HC1.out.size, HC1.out.trans (Chg.of_below (F := F) B4.out) (fun k hk => .inl hk), F1, ⟨?_, OK.out, H.out.r1, H.out.r2⟩, HF.out, fun k hk hF => ?_⟩
  · rw [u1, u2, u3]
    exact hraw.mono (Nat.le_succ _)
  · have h1 := (OwnB.lt O4.out k hk).1
    have h2 := H1.out.lt k hF
    omega
theorem q_get_far {b room n : Nat} {l : List Hd} {w wr : World} {Pr : Foot} {g : Hd} (h : CPr b room n l w wr Pr) (x : Int) (hx : wfI x) (hn : n ≤ 100000) (hs : lkH l x = some g) :
    Calls Try.prog 10 #[cq b, .int .i64 x] wr fun e w' => ∃ v, e = .returned (.tuple #[v, .bool true]) ∧ OwnB w' wr.heap.size v g.page ∧ CPr b room (n + 1) (g :: rsH l x) w w' (fun k => Pr k ∨ v.ownBlock = some k) ∧ ∀ k, Pr k → w'.heap[k]? = wr.heap[k]? := by
  obtain ⟨F, h1, h2, h3⟩ := h.h
  refine (cget_far x wr h1 hx hn hs).mono ?_
  rintro e w' ⟨v, rfl, ho, hc, F', h4, h5, h6⟩
  refine ⟨v, rfl, ho, ⟨⟨F', h4, fun k hk => (h5 k hk).elim (h2 k) fun h9 => Nat.le_trans h.b.size h9, fun k hk hp => ?_⟩, fun k hk => ?_, fun k hk => ?_, hc.below h.b h2 h.b.size⟩, fun k hk => hc.block k (h.lt k hk) fun e => h3 k e hk⟩
  · rcases hp with hp | hp
    · rcases h5 k hk with h7 | h7
      · exact h3 k h7 hp
      · have := h.lt k hp; omega
    · exact h6 k hp hk
  · rcases hk with hk | hk
    · exact Nat.lt_of_lt_of_le (h.lt k hk) hc.size
    · exact (OwnB.lt ho k hk).2
  · rcases hk with hk | hk
    · exact h.lo k hk
    · exact Nat.le_trans h.b.size (OwnB.lt ho k hk).1
end Sha
end Go.Proofs.Yteiffdccfmfdbaa
