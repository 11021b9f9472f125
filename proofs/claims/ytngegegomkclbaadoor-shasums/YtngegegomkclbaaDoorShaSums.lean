/- The walk of the law ShaSums: the digest of any bytes is the document's. -/
import Derived.Test.YtngegegomkclbaaDoorRefSum
namespace Go.Proofs.YtngegegomkclbaaDoor
namespace Sha
open Go.RowKit Mem
set_option maxRecDepth 100000 in
set_option maxHeartbeats 1000000 in
theorem sums_any (b : List (BitVec 8)) (vb : Value) (w : World) (hb : Sl w vb b) (lb : b.length ≤ 9223372036854775807) (hL : Tabs w) :
    Calls Tryd.prog 3 #[vb] w fun e w' => e = .returned (.bool true) ∧ Below w.heap.size w w' := by
  by_cases h6 : 600 < b.length
  · have HAL := Lib.hid (alive_any w hL)
    obtain ⟨a1, c1, rfl, _, _⟩ := hb
    have FB := Lib.hid (fun wx => far_yes b.length a1 c1 wx h6 lb)
    generalize b.length = n at *
    clear hL
    go_enter Tryd.func3, Tryd.ntmps3
    go_wp2_with fail
    refine (FB.out _).mono ?_
    rintro e w1 ⟨rfl, rfl⟩
    go_wp2_with fail
    refine HAL.out.mono ?_
    rintro e w1 ⟨rfl, hb1⟩
    go_wp2_with fail
    go_ret
    exact ⟨rfl, hb1⟩
  · have hal := fun wx (h : Below w.heap.size w wx) => alive_any wx (hL.below h (Nat.le_refl _))
    have hone := fun (wx : World) (vp : Value) (hx : Below w.heap.size w wx) (h2 : Sls wx vp [b]) => sumAll_any [b] vp wx (by simp; omega) (by simp) h2 (hL.below hx (Nat.le_refl _))
    rw [show [b].flatten = b by simp] at hone
    have href := fun (wx : World) (hx : Below w.heap.size w wx) => rsum_any b vb wx (hb.below hx) (by omega)
    have heq := eql_dg b
    unfold dgOf at href heq
    generalize (u8s (digestOf b)).toArray = G at *
    have HB := Lib.hid hb
    obtain ⟨a1, c1, rfl, _, _⟩ := hb
    have FB := Lib.hid (fun wx => far_no b.length a1 c1 wx (by omega))
    have HAL := Lib.hid hal; have HONE := Lib.hid hone; have HREF := Lib.hid href; have HEQ := Lib.hid heq
    clear hal hone href heq hL
    obtain ⟨n, hn⟩ : ∃ n, n = b.length := ⟨_, rfl⟩
    rw [← hn] at HB FB HREF ⊢
    have HN := Lib.hid hn; clear hn
    go_enter Tryd.func3, Tryd.ntmps3
    go_wp2_with fail
    refine (FB.out _).mono ?_
    rintro e w1 ⟨rfl, rfl⟩
    go_wp2_with fail
    have hsl := sls_lit1 HB.out
    have hbl := (Below.refl w.heap.size w).alloc (Nat.le_refl _) (.cells #[.slice a1 n c1] 22)
    refine (HONE.out _ _ hbl hsl).mono ?_
    rintro e w2 ⟨rfl, hb2⟩
    have B2 := Lib.hid (hbl.trans (hb2.mono hbl.size))
    clear hbl hsl hb2
    go_wp2_with fail
    refine (HREF.out _ B2.out).mono ?_
    rintro e w3 ⟨rfl, hb3⟩
    have B3 := Lib.hid (B2.out.trans (hb3.mono B2.out.size))
    clear hb3
    go_wp2_with (refine Mem.wpList_bin (by rfl) _ _ _ _ _ _ _ (.bool true) (by rfl) (by rfl) (by rfl) (HEQ.out _ _) ?_)
    refine (HAL.out _ B3.out).mono ?_
    rintro e w4 ⟨rfl, hb4⟩
    have B4 := Lib.hid (B3.out.trans (hb4.mono B3.out.size))
    clear hb4
    go_wp2_with fail
    go_ret
    exact ⟨rfl, B4.out⟩
end Sha
end Go.Proofs.YtngegegomkclbaaDoor
