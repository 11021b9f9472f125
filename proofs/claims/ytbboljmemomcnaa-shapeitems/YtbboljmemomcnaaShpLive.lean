/- Layer 12: alive, over the contracts. -/
import Derived.Test.YtbboljmemomcnaaShpC
import Derived.Deep.DeepCutAuto
namespace Go.Proofs.Ytbboljmemomcnaa
namespace Sha
open Go.RowKit Mem
set_option maxRecDepth 100000
set_option maxHeartbeats 4000000 in
theorem alive12_any (S : ShP) (w : World) : Calls Try.prog 19 #[] w fun e w' => e = .returned (.bool true) ∧ Below w.heap.size w w' := by
  have nw := S.good 7 w (by decide) (by decide)
  have pr : ∀ wx C, S.R wx C 7 → Calls Try.prog 20 #[.agg C, .int .i64 6] wx fun e w' => e = .returned (.tuple #[.int .i64 8, .int .i64 0, .bool true]) ∧ Below wx.heap.size wx w' := fun wx C h => by
    have h2 := S.parent wx C 7 6 (by decide) h
    rw [show PZ 7 6 = (8, 0, true) by decide] at h2
    exact h2
  have it : ∀ wx C, S.R wx C 7 → Calls Try.prog 10 #[.agg C] wx (VEnd (.int .i64 10) wx) := fun wx C h => S.items wx C 7 (by decide) h
  have rt : ∀ wx C, S.R wx C 7 → Calls Try.prog 13 #[.agg C] wx (VEnd (.int .i64 9) wx) := fun wx C h => S.root wx C 7 (by decide) h
  have bk : ∀ wx C, S.R wx C 7 → Calls Try.prog 11 #[.agg C] wx (VEnd (.int .i64 22) wx) := fun wx C h => S.blocks wx C 7 (by decide) h
  have lv : ∀ wx C, S.R wx C 7 → Calls Try.prog 12 #[.agg C] wx (VEnd (.int .i64 3) wx) := fun wx C h => S.levels wx C 7 (by decide) h
  have kd : ∀ wx C, S.R wx C 7 → Calls Try.prog 15 #[.agg C, .int .i64 7] wx (IEnd wx (KZ 7 7)) := fun wx C h => S.kids wx C 7 7 (by decide) h
  have HX := Lib.hid S.zero; have ZS := Lib.hid S.zsize; have INF := Lib.hid S.info
  have NW := Lib.hid nw; have PR := Lib.hid pr; have IT := Lib.hid it; have RT := Lib.hid rt; have BK := Lib.hid bk; have LV := Lib.hid lv; have KD := Lib.hid kd
  have G0 := Lib.hid (Below.refl w.heap.size w)
  clear nw pr it rt bk lv kd
  go_enter Try.func19, Try.ntmps19
  go_wp2_with fail
  refine (NW.out).mono ?_
  rintro e x1 ⟨C, rfl, hr, hb⟩
  have G1 : Hid (Below w.heap.size w x1) := Lib.hid (G0.out.trans (hb.mono G0.out.size))
  have RR := Lib.hid hr; have CS := Lib.hid (S.size _ _ _ hr); have CO := Lib.hid (S.one _ _ _ hr)
  clear hr
  clear hb
  clear G0
  have RR_2 := Lib.hid (S.below _ _ _ _ RR.out ((Below.refl _ _).alloc (Nat.le_refl _) (.cells C 23)))
  have G2 : Hid (Below w.heap.size w (x1.alloc (.cells C 23))) := Lib.hid (G1.out.alloc G1.out.size _)
  have K1 := Lib.hid (at_new x1 C 23)
  have hz := HX.out
  go_upto_region 2 with (refine wpList_store_new (by rfl) 23 _ _ (by rfl) (by rfl) C _ _ (by rfl) (by rfl) (by rw [CS.out]; exact INF.out) (by first | rfl | rw [CS.out, ZS.out]) CO.out ?_)
  clear hz
  obtain ⟨g2, hg⟩ : ∃ g, g = x1.heap.size := ⟨_, rfl⟩
  rw [← hg] at K1 ⊢
  clear hg
  generalize (x1.alloc (.cells C 23)) = y2 at *
  clear RR G1
  go_wp2_with (first
    | (refine wpList_load_wanted (by rfl) 23 _ (by rfl) g2 (by rfl) _ Try.underlying23 (by rfl) C _ K1.out (by rw [CS.out]; exact INF.out) ?_))
  refine (PR.out _ _ RR_2.out).mono ?_
  rintro e x3 ⟨rfl, hb⟩
  have G3 : Hid (Below w.heap.size w x3) := Lib.hid (G2.out.trans (hb.mono G2.out.size))
  have K1_3 := Lib.hid (K1.out.below hb K1.out.lt)
  have RR_3 := Lib.hid (S.below _ _ _ _ RR_2.out hb)
  clear hb
  clear K1 RR_2 G2
  go_wp2_with (first
    | (refine wpList_load_wanted (by rfl) 23 _ (by rfl) g2 (by rfl) _ Try.underlying23 (by rfl) C _ K1_3.out (by rw [CS.out]; exact INF.out) ?_))
  refine (IT.out _ _ RR_3.out).mono ?_
  rintro e x4 ⟨rfl, hb⟩
  have G4 : Hid (Below w.heap.size w x4) := Lib.hid (G3.out.trans (hb.mono G3.out.size))
  have K1_4 := Lib.hid (K1_3.out.below hb K1_3.out.lt)
  have RR_4 := Lib.hid (S.below _ _ _ _ RR_3.out hb)
  clear hb
  clear K1_3 RR_3 G3
  go_wp2_with (first
    | (refine wpList_load_wanted (by rfl) 23 _ (by rfl) g2 (by rfl) _ Try.underlying23 (by rfl) C _ K1_4.out (by rw [CS.out]; exact INF.out) ?_))
  refine (RT.out _ _ RR_4.out).mono ?_
  rintro e x5 ⟨rfl, hb⟩
  have G5 : Hid (Below w.heap.size w x5) := Lib.hid (G4.out.trans (hb.mono G4.out.size))
  have K1_5 := Lib.hid (K1_4.out.below hb K1_4.out.lt)
  have RR_5 := Lib.hid (S.below _ _ _ _ RR_4.out hb)
  clear hb
  clear K1_4 RR_4 G4
  go_wp2_with (first
    | (refine wpList_load_wanted (by rfl) 23 _ (by rfl) g2 (by rfl) _ Try.underlying23 (by rfl) C _ K1_5.out (by rw [CS.out]; exact INF.out) ?_))
  refine (BK.out _ _ RR_5.out).mono ?_
  rintro e x6 ⟨rfl, hb⟩
  have G6 : Hid (Below w.heap.size w x6) := Lib.hid (G5.out.trans (hb.mono G5.out.size))
  have K1_6 := Lib.hid (K1_5.out.below hb K1_5.out.lt)
  have RR_6 := Lib.hid (S.below _ _ _ _ RR_5.out hb)
  clear hb
  clear K1_5 RR_5 G5
  go_wp2_with (first
    | (refine wpList_load_wanted (by rfl) 23 _ (by rfl) g2 (by rfl) _ Try.underlying23 (by rfl) C _ K1_6.out (by rw [CS.out]; exact INF.out) ?_))
  refine (LV.out _ _ RR_6.out).mono ?_
  rintro e x7 ⟨rfl, hb⟩
  have G7 : Hid (Below w.heap.size w x7) := Lib.hid (G6.out.trans (hb.mono G6.out.size))
  have K1_7 := Lib.hid (K1_6.out.below hb K1_6.out.lt)
  have RR_7 := Lib.hid (S.below _ _ _ _ RR_6.out hb)
  clear hb
  clear K1_6 RR_6 G6
  go_wp2_with (first
    | (refine wpList_load_wanted (by rfl) 23 _ (by rfl) g2 (by rfl) _ Try.underlying23 (by rfl) C _ K1_7.out (by rw [CS.out]; exact INF.out) ?_))
  refine (KD.out _ _ RR_7.out).mono ?_
  rintro e x8 ⟨v, rfl, hs, hb⟩
  have G8 : Hid (Below w.heap.size w x8) := Lib.hid (G7.out.trans (hb.mono G7.out.size))
  have K1_8 := Lib.hid (K1_7.out.below hb K1_7.out.lt)
  have RR_8 := Lib.hid (S.below _ _ _ _ RR_7.out hb)
  obtain ⟨a, c, rfl⟩ := hs.hdn (n := 6) (by decide)
  clear hs
  clear hb
  clear K1_7 RR_7 G7
  go_wp2_with (first
    | (refine wpList_load_wanted (by rfl) 23 _ (by rfl) g2 (by rfl) _ Try.underlying23 (by rfl) C _ K1_8.out (by rw [CS.out]; exact INF.out) ?_))
  go_ret
  exact ⟨rfl, G8.out⟩
end Sha
end Go.Proofs.Ytbboljmemomcnaa
