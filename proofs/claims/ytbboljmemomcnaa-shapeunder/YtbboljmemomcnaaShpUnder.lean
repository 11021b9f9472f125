/- Layer 12: ShapeUnder, over the contracts: what is refused, and no page. -/
import Derived.Test.YtbboljmemomcnaaShpItems
import Derived.Test.YtbboljmemomcnaaShpMath3
import Derived.Deep.DeepCutAuto
namespace Go.Proofs.Ytbboljmemomcnaa
namespace Sha
open Go.RowKit Mem
set_option maxRecDepth 100000
set_option maxHeartbeats 8000000 in
theorem under12_bad (S : ShP) (z : Int) (y : Int) (w : World) (hz : z < 1 ∨ 216 < z) : Calls Try.prog 6 #[.int .i64 z, .int .i64 y] w fun e w' => e = .returned (.bool true) ∧ Below w.heap.size w w' := by
  have al := fun wx => alive12_any S wx
  have nw := S.bad z w hz
  have pt := fun wx C h => S.path wx C 0 y (by decide) h
  rw [show WZ 0 y = [] from if_neg (by omega)] at pt
  have rz := S.nil w
  have zo := S.one w _ _ rz
  obtain ⟨Z, hZ⟩ : ∃ Z, Z = S.Z := ⟨_, rfl⟩
  have zs := S.zsize; have zx := S.zero
  rw [← hZ] at zs zx rz zo nw
  have HX := Lib.hid zx; have ZS := Lib.hid zs; have INF := Lib.hid S.info
  have AL := Lib.hid al; have NW := Lib.hid nw; have PT := Lib.hid pt
  have G0 := Lib.hid (Below.refl w.heap.size w)
  have RR := Lib.hid rz; have CO := Lib.hid zo; have CS := ZS
  clear rz zo hz
  clear al nw pt zs zx hZ
  go_enter Try.func6, Try.ntmps6
  go_wp2_with fail
  refine (NW.out).mono ?_
  rintro e x1 ⟨rfl, hb⟩
  have G1 : Hid (Below w.heap.size w x1) := Lib.hid (G0.out.trans (hb.mono G0.out.size))
  clear hb
  clear G0
  have RR_x := Lib.hid (S.below _ _ _ _ RR.out G1.out)
  have RR_2 := Lib.hid (S.below _ _ _ _ RR_x.out ((Below.refl _ _).alloc (Nat.le_refl _) (.cells Z 23)))
  have G2 : Hid (Below w.heap.size w (x1.alloc (.cells Z 23))) := Lib.hid (G1.out.alloc G1.out.size _)
  have K1 := Lib.hid (at_new x1 Z 23)
  have hz := HX.out
  go_upto_region 2 with (refine wpList_store_new (by rfl) 23 _ _ (by rfl) (by rfl) Z _ _ (by rfl) (by rfl) (by rw [CS.out]; exact INF.out) (by first | rfl | rw [CS.out, ZS.out]) CO.out ?_)
  clear hz
  obtain ⟨g2, hg⟩ : ∃ g, g = x1.heap.size := ⟨_, rfl⟩
  rw [← hg] at K1 ⊢
  clear hg
  generalize (x1.alloc (.cells Z 23)) = y2 at *
  clear RR_x G1
  go_wp2_with (first
    | (refine wpList_load_wanted (by rfl) 23 _ (by rfl) g2 (by rfl) _ Try.underlying23 (by rfl) Z _ K1.out (by rw [CS.out]; exact INF.out) ?_))
  refine (PT.out _ _ RR_2.out).mono ?_
  rintro e x3 ⟨v, rfl, hs, hb⟩
  have G3 : Hid (Below w.heap.size w x3) := Lib.hid (G2.out.trans (hb.mono G2.out.size))
  have K1_3 := Lib.hid (K1.out.below hb K1.out.lt)
  have RR_3 := Lib.hid (S.below _ _ _ _ RR_2.out hb)
  obtain ⟨a, c, rfl⟩ := hs.hd0
  clear hs
  clear hb
  clear K1 RR_2 G2
  go_wp2_with (first
    | (refine wpList_load_wanted (by rfl) 23 _ (by rfl) g2 (by rfl) _ Try.underlying23 (by rfl) Z _ K1_3.out (by rw [CS.out]; exact INF.out) ?_))
  refine (AL.out _).mono ?_
  rintro e x4 ⟨rfl, hb⟩
  have G4 : Hid (Below w.heap.size w x4) := Lib.hid (G3.out.trans (hb.mono G3.out.size))
  have K1_4 := Lib.hid (K1_3.out.below hb K1_3.out.lt)
  have RR_4 := Lib.hid (S.below _ _ _ _ RR_3.out hb)
  clear hb
  clear K1_3 RR_3 G3
  go_wp2_with (first
    | (refine wpList_load_wanted (by rfl) 23 _ (by rfl) g2 (by rfl) _ Try.underlying23 (by rfl) Z _ K1_4.out (by rw [CS.out]; exact INF.out) ?_))
  go_ret
  exact ⟨rfl, G4.out⟩
set_option maxHeartbeats 8000000 in
theorem under12_out (S : ShP) (p : Nat) (y : Int) (w : World) (h0 : 1 ≤ p) (h1 : p ≤ 216) (hy : ¬ (0 ≤ y ∧ y < (p : Int))) : Calls Try.prog 6 #[.int .i64 p, .int .i64 y] w fun e w' => e = .returned (.bool true) ∧ Below w.heap.size w w' := by
  have al := fun wx => alive12_any S wx
  have nw := S.good p w h0 h1
  have pt := fun wx C h => S.path wx C p y h1 h
  rw [show WZ p y = [] from if_neg hy] at pt
  obtain ⟨Z, hZ⟩ : ∃ Z, Z = S.Z := ⟨_, rfl⟩
  have zs := S.zsize; have zx := S.zero
  rw [← hZ] at zs zx
  have HX := Lib.hid zx; have ZS := Lib.hid zs; have INF := Lib.hid S.info
  have AL := Lib.hid al; have NW := Lib.hid nw; have PT := Lib.hid pt
  have G0 := Lib.hid (Below.refl w.heap.size w)
  clear al nw pt zs zx hZ
  have hcase : y < 0 ∨ (0 ≤ y ∧ (p : Int) ≤ y) := by omega
  clear hy h0 h1
  go_enter Try.func6, Try.ntmps6
  go_wp2_with fail
  refine (NW.out).mono ?_
  rintro e x1 ⟨C, rfl, hr, hb⟩
  have G1 : Hid (Below w.heap.size w x1) := Lib.hid (G0.out.trans (hb.mono G0.out.size))
  have RR := Lib.hid hr; have CS := Lib.hid (S.size _ _ _ hr); have CO := Lib.hid (S.one _ _ _ hr)
  clear hr
  clear hb
  clear G0
  have RR_2 := Lib.hid (S.below _ _ _ _ RR.out ((Below.refl _ _).alloc (Nat.le_refl _) (.cells C 23)))
  have G2 : Hid (Below w.heap.size w (x1.alloc (.cells C 23))) := Lib.hid (G1.out.alloc G1.out.size _)
  have K1 := Lib.hid (at_new x1 C 23)
  have hz := HX.out
  go_upto_region 2 with (refine wpList_store_new (by rfl) 23 _ _ (by rfl) (by rfl) C _ _ (by rfl) (by rfl) (by rw [CS.out]; exact INF.out) (by first | rfl | rw [CS.out, ZS.out]) CO.out ?_)
  clear hz
  obtain ⟨g2, hg⟩ : ∃ g, g = x1.heap.size := ⟨_, rfl⟩
  rw [← hg] at K1 ⊢
  clear hg
  generalize (x1.alloc (.cells C 23)) = y2 at *
  clear RR G1
  rcases hcase with hy | ⟨hy, hy2⟩
  · skip
    go_wp2_with (first
      | (refine wpList_load_wanted (by rfl) 23 _ (by rfl) g2 (by rfl) _ Try.underlying23 (by rfl) C _ K1.out (by rw [CS.out]; exact INF.out) ?_))
    refine (PT.out _ _ RR_2.out).mono ?_
    rintro e x3 ⟨v, rfl, hs, hb⟩
    have G3 : Hid (Below w.heap.size w x3) := Lib.hid (G2.out.trans (hb.mono G2.out.size))
    have K1_3 := Lib.hid (K1.out.below hb K1.out.lt)
    have RR_3 := Lib.hid (S.below _ _ _ _ RR_2.out hb)
    obtain ⟨a, c, rfl⟩ := hs.hd0
    clear hs
    clear hb
    clear K1 RR_2 G2
    go_wp2_with (first
      | (refine wpList_load_wanted (by rfl) 23 _ (by rfl) g2 (by rfl) _ Try.underlying23 (by rfl) C _ K1_3.out (by rw [CS.out]; exact INF.out) ?_))
    refine (AL.out _).mono ?_
    rintro e x4 ⟨rfl, hb⟩
    have G4 : Hid (Below w.heap.size w x4) := Lib.hid (G3.out.trans (hb.mono G3.out.size))
    have K1_4 := Lib.hid (K1_3.out.below hb K1_3.out.lt)
    have RR_4 := Lib.hid (S.below _ _ _ _ RR_3.out hb)
    clear hb
    clear K1_3 RR_3 G3
    go_wp2_with (first
      | (refine wpList_load_wanted (by rfl) 23 _ (by rfl) g2 (by rfl) _ Try.underlying23 (by rfl) C _ K1_4.out (by rw [CS.out]; exact INF.out) ?_))
    go_ret
    exact ⟨rfl, G4.out⟩
  · have hy3 : ¬ y < 0 := by omega
    go_wp2_with (first
      | (refine wpList_load_wanted (by rfl) 23 _ (by rfl) g2 (by rfl) _ Try.underlying23 (by rfl) C _ K1.out (by rw [CS.out]; exact INF.out) ?_))
    refine (PT.out _ _ RR_2.out).mono ?_
    rintro e x3 ⟨v, rfl, hs, hb⟩
    have G3 : Hid (Below w.heap.size w x3) := Lib.hid (G2.out.trans (hb.mono G2.out.size))
    have K1_3 := Lib.hid (K1.out.below hb K1.out.lt)
    have RR_3 := Lib.hid (S.below _ _ _ _ RR_2.out hb)
    obtain ⟨a, c, rfl⟩ := hs.hd0
    clear hs
    clear hb
    clear K1 RR_2 G2
    go_wp2_with (first
      | (refine wpList_load_wanted (by rfl) 23 _ (by rfl) g2 (by rfl) _ Try.underlying23 (by rfl) C _ K1_3.out (by rw [CS.out]; exact INF.out) ?_))
    refine (AL.out _).mono ?_
    rintro e x4 ⟨rfl, hb⟩
    have G4 : Hid (Below w.heap.size w x4) := Lib.hid (G3.out.trans (hb.mono G3.out.size))
    have K1_4 := Lib.hid (K1_3.out.below hb K1_3.out.lt)
    have RR_4 := Lib.hid (S.below _ _ _ _ RR_3.out hb)
    clear hb
    clear K1_3 RR_3 G3
    go_wp2_with (first
      | (refine wpList_load_wanted (by rfl) 23 _ (by rfl) g2 (by rfl) _ Try.underlying23 (by rfl) C _ K1_4.out (by rw [CS.out]; exact INF.out) ?_))
    go_ret
    exact ⟨rfl, G4.out⟩
end Sha
end Go.Proofs.Ytbboljmemomcnaa
