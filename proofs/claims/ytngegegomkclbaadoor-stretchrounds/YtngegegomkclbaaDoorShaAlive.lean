/- The walks of New, of Sum of parts, and of the law's own check that the digest of three bytes is right. -/
import Derived.Test.YtngegegomkclbaaDoorShaAll
namespace Go.Proofs.YtngegegomkclbaaDoor
namespace Sha
open Go.RowKit Mem

def fed0 : Fed := ⟨List.replicate 8 0, zs64, 0⟩
theorem fed0_ok : Ok fed0 := ⟨by simp [fed0], by simp [fed0, zs64], by simp [fed0]⟩
/-- The digest of bytes. -/
def digestOf (l : List (BitVec 8)) : List (BitVec 8) := digest (feeds fed0 l) l.length
theorem digestOf_length (l : List (BitVec 8)) : (digestOf l).length = 32 := dRow_length _ _
theorem Zst_one : Zst.all (·.oneCell') = true := stRow_one
set_option maxHeartbeats 400000 in
theorem new_any (w : World) :
    Calls Tryd.prog 30 #[] w fun e w' => e = .returned (.agg (stRow fed0.H fed0.T 0)) ∧ Below w.heap.size w w' := by
  obtain ⟨Z, hZ⟩ : ∃ Z, Z = Zst := ⟨_, rfl⟩
  have hz := zeroSt
  rw [← hZ] at hz
  have hs : Z.size = 73 := by rw [hZ]; exact Zst_size
  have ho : Z.all (·.oneCell') = true := by rw [hZ]; exact Zst_one
  have HZ := Lib.hid hZ; have HS := Lib.hid hs; have HO := Lib.hid ho
  clear hZ hs ho
  go_enter Tryd.func30, Tryd.ntmps30
  go_wp2_with (refine wpList_store_new (by rfl) 55 _ _ (by rfl) (by rfl) Z _ _ (by rfl) (by rfl) (by rw [HS.out]; exact infoSt) (by rfl) HO.out ?_)
  try simp only [Exit.inBlock, Exit.then]
  refine ret_row (by rfl) w.heap.size 55 Z _ (by rfl) (at_new w Z _) Tryd.underlying55 (by rfl) (by rw [HS.out]; exact infoSt) ?_
  exact ⟨by rw [HZ.out]; rfl, (Below.refl _ _).alloc (Nat.le_refl _) _⟩
theorem Sls.below {w wr : World} {v : Value} {ps : List (List (BitVec 8))} (h : Sls w v ps) (hb : Below w.heap.size w wr) : Sls wr v ps := by
  obtain ⟨a, cap, e, hc, hr⟩ := h
  refine ⟨a, cap, e, hc, fun hne => ?_⟩
  obtain ⟨pb, po, ea, hlt, hcell⟩ := hr hne
  refine ⟨pb, po, ea, Nat.lt_of_lt_of_le hlt hb.size, fun i hi => ?_⟩
  obtain ⟨vi, h1, h2⟩ := hcell i hi
  exact ⟨vi, by rw [hb.cell (p := ⟨pb, po + i, none⟩) hlt]; exact h1, h2.below hb⟩
set_option maxHeartbeats 400000 in
theorem sumAll_any (ps : List (List (BitVec 8))) (v : Value) (w : World) (hN : ps.flatten.length ≤ 1152921504606846975) (hp : ps.length ≤ 9223372036854775806) (hv : Sls w v ps) (hL : Tabs w) :
    Calls Tryd.prog 11 #[v] w fun e w' => e = .returned (.agg (u8s (digestOf ps.flatten)).toArray) ∧ Below w.heap.size w w' := by
  obtain ⟨X, hX⟩ : ∃ X, X = Z32 := ⟨_, rfl⟩
  have hx := zero32
  rw [← hX] at hx
  obtain ⟨S0, hS0⟩ : ∃ S0, S0 = stRow fed0.H fed0.T 0 := ⟨_, rfl⟩
  obtain ⟨S1, hS1⟩ : ∃ S1, S1 = stRow (feeds fed0 ps.flatten).H (feeds fed0 ps.flatten).T (0 + ps.flatten.length) := ⟨_, rfl⟩
  obtain ⟨G, hG⟩ : ∃ G, G = (u8s (digestOf ps.flatten)).toArray := ⟨_, rfl⟩
  have hGs : G.size = 32 := by rw [hG]; simp [u8s, digestOf_length]
  have hGo : G.all (·.oneCell') = true := by rw [hG]; exact u8s_one _
  have h1 := fun w => new_any w
  have h2 := fun wx (hvx : Sls wx v ps) (ht : Tabs wx) => writeAll_any fed0 fed0_ok 0 rfl ps v wx (by omega) hp hvx ht
  have h3 := fun wx (ht : Tabs wx) => sum_any (feeds fed0 ps.flatten) (feeds_ok _ fed0_ok) (0 + ps.flatten.length) (feeds_mod fed0 fed0_ok ps.flatten 0 rfl) wx (by omega) ht
  rw [← hS0] at h1 h2
  rw [← hS1] at h2 h3
  have e3 : digest (feeds fed0 ps.flatten) (0 + ps.flatten.length) = digestOf ps.flatten := by rw [Nat.zero_add]; rfl
  rw [e3, ← hG] at h3
  rw [← hG]
  have b0 : Below w.heap.size w (w.alloc (.cells X 25)) := (Below.refl _ _).alloc (Nat.le_refl _) _
  have a0 : At (w.alloc (.cells X 25)) w.heap.size X 25 := at_new w X _
  have HX := Lib.hid hX; have HGS := Lib.hid hGs; have HGO := Lib.hid hGo; have H1 := Lib.hid h1; have H2 := Lib.hid h2; have H3 := Lib.hid h3; have B0 := Lib.hid b0; have A0 := Lib.hid a0; have HV := Lib.hid hv; have HL := Lib.hid hL
  clear hX hGs hGo h1 h2 h3 b0 a0 hv hL e3 hS0 hS1 hG
  go_enter Tryd.func11, Tryd.ntmps11
  go_wp2_with (first | (go_at_call 30; refine (H1.out _).mono ?_; rintro e w2 ⟨rfl, hb2⟩; have bb2 := B0.out.trans (hb2.mono B0.out.size); have aa2 := A0.out.below hb2 A0.out.lt; have B2 := Lib.hid bb2; have A2 := Lib.hid aa2; clear hb2 bb2 aa2) | (go_at_call 31; refine (H2.out _ (HV.out.below B2.out) (HL.out.below B2.out (Nat.le_refl _))).mono ?_; rintro e w3 ⟨rfl, hb3⟩; have bb3 := B2.out.trans (hb3.mono B2.out.size); have aa3 := A2.out.below hb3 A2.out.lt; have B3 := Lib.hid bb3; have A3 := Lib.hid aa3; clear hb3 bb3 aa3) | (go_at_call 32; refine (H3.out _ (HL.out.below B3.out (Nat.le_refl _))).mono ?_; rintro e w4 ⟨rfl, hb4⟩; have bb4 := B3.out.trans (hb4.mono B3.out.size); have aa4 := A3.out.below hb4 A3.out.lt; have B4 := Lib.hid bb4; have A4 := Lib.hid aa4; clear hb4 bb4 aa4) | (refine wpList_store_all (by rfl) 25 _ _ (by rfl) (by rfl) w.heap.size G (by rfl) (by rfl) (by rw [HGS.out]; exact info32) X _ A4.out (by rw [HGS.out, HX.out]; simp [Z32, u8s]) HGO.out ?_))
  try simp only [Exit.inBlock, Exit.then]
  refine ret_row (by rfl) w.heap.size 25 G _ (by rfl) (A4.out.row G) Tryd.underlying25 (by rfl) (by rw [HGS.out]; exact info32) ?_
  exact ⟨rfl, below_row B4.out (Nat.le_refl _) G⟩
theorem abc0 : (digestOf [97, 98, 99]).getD 0 0 = 186 := by decide +kernel
theorem abc1 : (digestOf [97, 98, 99]).getD 1 0 = 120 := by decide +kernel
theorem abc31 : (digestOf [97, 98, 99]).getD 31 0 = 173 := by decide +kernel
end Sha
end Go.Proofs.YtngegegomkclbaaDoor
