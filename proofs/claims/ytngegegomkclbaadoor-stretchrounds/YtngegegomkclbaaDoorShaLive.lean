/- The walk of the law's own check (alive): the digest of three bytes, a turned word, the first constant. -/
import Derived.Test.YtngegegomkclbaaDoorShaAlive
import Derived.Lib.SlBytesConst
namespace Go.Proofs.YtngegegomkclbaaDoor
namespace Sha
open Go.RowKit Mem

set_option maxRecDepth 100000 in
set_option maxHeartbeats 400000 in
theorem alive_any (w : World) (hL : Tabs w) :
    Calls Tryd.prog 10 #[] w fun e w' => e = .returned (.bool true) ∧ Below w.heap.size w w' := by
  obtain ⟨G, hG⟩ : ∃ G, G = (u8s (digestOf [97, 98, 99])).toArray := ⟨_, rfl⟩
  have hGs : G.size = 32 := by rw [hG]; simp [u8s, digestOf_length]
  have hGo : G.all (·.oneCell') = true := by rw [hG]; exact u8s_one _
  have g0 : G[0]? = some (.int .u8 186) := by
    rw [hG, List.getElem?_toArray, u8s_get _ 0 (by rw [digestOf_length]; decide), abc0]; rfl
  have g1 : G[1]? = some (.int .u8 120) := by
    rw [hG, List.getElem?_toArray, u8s_get _ 1 (by rw [digestOf_length]; decide), abc1]; rfl
  have g31 : G[31]? = some (.int .u8 173) := by
    rw [hG, List.getElem?_toArray, u8s_get _ 31 (by rw [digestOf_length]; decide), abc31]; rfl
  have h2 := fun (wx : World) (v : Value) (hv : Sls wx v [[97, 98], [99]]) (ht : Tabs wx) => sumAll_any [[97, 98], [99]] v wx (by decide) (by decide) hv ht
  have ef : ([[97, 98], [99]] : List (List (BitVec 8))).flatten = [97, 98, 99] := rfl
  rw [ef, ← hG] at h2
  have ht := fun wx => turn_any 1 1 1 wx rfl (by decide) (by decide)
  have et : V ((1 : BitVec 32).rotateRight 1) = 2147483648 := by decide
  have e1 : V (1 : BitVec 32) = 1 := by decide
  rw [et, e1] at ht
  have hk := fun (wx : World) (h : Tabs wx) => const_at 0 wx (Kl.getD 0 0) (by decide) (h.k.2 0 (by decide))
  have ek : V (Kl.getD 0 0) = 1116352408 := by decide
  have hx := zero32
  have HG := Lib.hid hG; have HGS := Lib.hid hGs; have HGO := Lib.hid hGo; have G0 := Lib.hid g0; have G1 := Lib.hid g1; have G31 := Lib.hid g31; have H2 := Lib.hid h2; have HT := Lib.hid ht; have HK := Lib.hid hk; have EK := Lib.hid ek; have HL := Lib.hid hL
  clear hG hGs hGo g0 g1 g31 h2 ef ht et e1 hk ek hL hx
  go_enter Tryd.func10, Tryd.ntmps10
  have hcv := fun (wx : World) (C : Array Value) (n c : Nat) => Lib.run_convert_bytes_const (P := Tryd.prog) wx 22 5 C n c Tryd.underlying22 Tryd.underlying5
  have hcv2 := hcv (w.alloc (.cells #[.int .u8 97, .int .u8 98] 5 (2, 3))) #[.int .u8 99] 1 1
  have e1 : (w.alloc (.cells #[.int .u8 97, .int .u8 98] 5 (2, 3))).heap.size = w.heap.size + 1 := by simp
  rw [e1] at hcv2
  clear e1
  go_wp2_with fail
  clear hcv hcv2
  have ca : ∀ i v, (#[.int .u8 97, .int .u8 98] : Array Value)[i]? = some v → (((w.alloc (.cells #[.int .u8 97, .int .u8 98] 5 (2, 3))).alloc (.cells #[.int .u8 99] 5 (1, 2))).alloc (.cells #[.slice (some ⟨w.heap.size, 0, none⟩) 2 2, .slice (some ⟨w.heap.size + 1, 0, none⟩) 1 1] 22)).cell? ⟨w.heap.size, i, none⟩ = some v := fun i v h =>
    Lib.cell?_alloc_marked _ (Lib.cell?_alloc_marked _ (by rw [← h]; exact cell_of_row _ _ _ _ _ _ (heap_alloc_new w _)))
  have cb : ∀ i v, (#[.int .u8 99] : Array Value)[i]? = some v → (((w.alloc (.cells #[.int .u8 97, .int .u8 98] 5 (2, 3))).alloc (.cells #[.int .u8 99] 5 (1, 2))).alloc (.cells #[.slice (some ⟨w.heap.size, 0, none⟩) 2 2, .slice (some ⟨w.heap.size + 1, 0, none⟩) 1 1] 22)).cell? ⟨w.heap.size + 1, i, none⟩ = some v := fun i v h => by
    have e : (w.alloc (.cells #[.int .u8 97, .int .u8 98] 5 (2, 3))).heap.size = w.heap.size + 1 := by simp
    have h' := heap_alloc_new (w.alloc (.cells #[.int .u8 97, .int .u8 98] 5 (2, 3))) (.cells #[.int .u8 99] 5 (1, 2))
    rw [e] at h'
    exact Lib.cell?_alloc_marked _ (by rw [← h]; exact cell_of_row _ _ _ _ _ _ h')
  have ac : At (((w.alloc (.cells #[.int .u8 97, .int .u8 98] 5 (2, 3))).alloc (.cells #[.int .u8 99] 5 (1, 2))).alloc (.cells #[.slice (some ⟨w.heap.size, 0, none⟩) 2 2, .slice (some ⟨w.heap.size + 1, 0, none⟩) 1 1] 22)) (w.heap.size + 1 + 1) #[.slice (some ⟨w.heap.size, 0, none⟩) 2 2, .slice (some ⟨w.heap.size + 1, 0, none⟩) 1 1] 22 := by
    have := at_new ((w.alloc (.cells #[.int .u8 97, .int .u8 98] 5 (2, 3))).alloc (.cells #[.int .u8 99] 5 (1, 2))) #[.slice (some ⟨w.heap.size, 0, none⟩) 2 2, .slice (some ⟨w.heap.size + 1, 0, none⟩) 1 1] 22
    have e : ((w.alloc (.cells #[.int .u8 97, .int .u8 98] 5 (2, 3))).alloc (.cells #[.int .u8 99] 5 (1, 2))).heap.size = w.heap.size + 1 + 1 := by simp
    rw [e] at this; exact this
  have bb : Below w.heap.size w (((w.alloc (.cells #[.int .u8 97, .int .u8 98] 5 (2, 3))).alloc (.cells #[.int .u8 99] 5 (1, 2))).alloc (.cells #[.slice (some ⟨w.heap.size, 0, none⟩) 2 2, .slice (some ⟨w.heap.size + 1, 0, none⟩) 1 1] 22)) := (((Below.refl _ _).alloc (Nat.le_refl _) _).alloc (by simp) _).alloc (by simp; omega) _
  generalize ((w.alloc (.cells #[.int .u8 97, .int .u8 98] 5 (2, 3))).alloc (.cells #[.int .u8 99] 5 (1, 2))).alloc (.cells #[.slice (some ⟨w.heap.size, 0, none⟩) 2 2, .slice (some ⟨w.heap.size + 1, 0, none⟩) 1 1] 22) = w3 at *
  have l2 : w.heap.size + 1 + 1 < w3.heap.size := ac.lt
  have sa : Sl w3 (.slice (some ⟨w.heap.size, 0, none⟩) 2 2) [97, 98] := by
    refine ⟨_, _, rfl, by decide, fun _ => ⟨_, _, rfl, by omega, fun i hi => ?_⟩⟩
    match i, hi with
    | 0, _ => exact ca 0 _ rfl
    | 1, _ => exact ca 1 _ rfl
  have sb : Sl w3 (.slice (some ⟨w.heap.size + 1, 0, none⟩) 1 1) [99] := by
    refine ⟨_, _, rfl, by decide, fun _ => ⟨_, _, rfl, by omega, fun i hi => ?_⟩⟩
    match i, hi with
    | 0, _ => exact cb 0 _ rfl
  have sl : Sls w3 (.slice (some ⟨w.heap.size + 1 + 1, 0, none⟩) 2 2) [[97, 98], [99]] := by
    refine ⟨_, _, rfl, by decide, fun _ => ⟨_, _, rfl, ac.lt, fun i hi => ?_⟩⟩
    match i, hi with
    | 0, _ => exact ⟨_, by rw [ac.cell]; rfl, sa⟩
    | 1, _ => exact ⟨_, by rw [ac.cell]; rfl, sb⟩
  have hcall := H2.out w3 _ sl (HL.out.below bb (Nat.le_refl _))
  have BB := Lib.hid bb
  clear ca cb ac bb l2 sa sb sl
  refine hcall.mono ?_
  rintro e w4 ⟨rfl, hb4⟩
  have bb4 := BB.out.trans (hb4.mono BB.out.size)
  have B4 := Lib.hid bb4
  obtain ⟨X, hX⟩ : ∃ X, X = Z32 := ⟨_, rfl⟩
  have hx := zero32
  rw [← hX] at hx
  have c0 : (w4.alloc (.cells G 25)).cell? ⟨w4.heap.size, 0, none⟩ = some (.int .u8 186) := by rw [(at_new w4 G _).cell]; exact G0.out
  have c1 : (w4.alloc (.cells G 25)).cell? ⟨w4.heap.size, 1, none⟩ = some (.int .u8 120) := by rw [(at_new w4 G _).cell]; exact G1.out
  have c31 : (w4.alloc (.cells G 25)).cell? ⟨w4.heap.size, 31, none⟩ = some (.int .u8 173) := by rw [(at_new w4 G _).cell]; exact G31.out
  have b5 : Below w.heap.size w (w4.alloc (.cells G 25)) := B4.out.alloc B4.out.size _
  have hk5 := HK.out _ (HL.out.below b5 (Nat.le_refl _))
  rw [EK.out, Int.natCast_zero] at hk5
  have HX := Lib.hid hX; have B5 := Lib.hid b5; have C0 := Lib.hid c0; have C1 := Lib.hid c1; have C31 := Lib.hid c31; have HK5 := Lib.hid hk5
  clear hcall hb4 bb4 hX b5 c0 c1 c31 hk5
  go_wp2_with (refine wpList_store_new (by rfl) 25 _ _ (by rfl) (by rfl) G _ _ (by rfl) (by rfl) (by rw [HGS.out]; exact info32) (by rw [HGS.out, HX.out]; simp [Z32, u8s]) HGO.out ?_; have c0 := C0.out; have c1 := C1.out; have c31 := C31.out; generalize w4.alloc (.cells G 25) = w5 at *)
  refine (HT.out _).mono ?_
  rintro e w6 ⟨rfl, rfl⟩
  go_wp2_with fail
  refine HK5.out.mono ?_
  rintro e w6 ⟨rfl, rfl⟩
  go_wp2_with fail
  go_ret
  exact ⟨rfl, B5.out⟩
end Sha
end Go.Proofs.YtngegegomkclbaaDoor
