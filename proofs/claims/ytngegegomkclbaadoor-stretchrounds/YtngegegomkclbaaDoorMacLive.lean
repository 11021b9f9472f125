/- The walks of Check, of the law's own far, and of its check that a mac is right (alive). -/
import Derived.Test.YtngegegomkclbaaDoorMacSum
import Derived.Lib.SlBytesConst
namespace Go.Proofs.YtngegegomkclbaaDoor
namespace Sha
open Go.RowKit Mem

set_option maxRecDepth 100000 in
set_option maxHeartbeats 400000 in
theorem check_any (k : List (BitVec 8)) (m : List (BitVec 8)) (ps : List (List (BitVec 8))) (vk vm vp : Value) (w : World) (hk : Sl w vk k) (hm : Sl w vm m) (hv : Sls w vp ps) (bk : k.length ≤ 1152921504606846975) (bm : m.length ≤ 9223372036854775807) (hN : ps.flatten.length ≤ 576460752303423487) (hp : ps.length ≤ 9223372036854775806) (hL : Tabs w) :
    Calls Tryd.prog 36 #[vk, vm, vp] w fun e w' => e = .returned (.bool (sameB (macOf k ps.flatten) m)) ∧ Below w.heap.size w w' := by
  have hx := zero32
  obtain ⟨X, hX⟩ : ∃ X, X = Z32 := ⟨_, rfl⟩
  rw [← hX] at hx
  have hXs : X.size = 32 := by rw [hX]; simp [Z32, u8s]
  have hmac := mac_any k ps vk vp w hk hv bk hN hp hL
  obtain ⟨M, hM⟩ : ∃ M, M = mcOf k ps.flatten := ⟨_, rfl⟩
  rw [← hM] at hmac
  have hMs : M.size = 32 := by rw [hM]; exact mcOf_size _ _
  have hMo : M.all (·.oneCell') = true := by rw [hM]; exact mcOf_one _ _
  have heq := fun (wx : World) (va : Value) (h1 : Sl wx va (macOf k ps.flatten)) (h2 : Sl wx vm m) => equal_any (macOf k ps.flatten) m va vm wx h1 h2 (by rw [macOf_length]; omega) bm
  have MAC := Lib.hid hmac; have XS := Lib.hid hXs; have MS := Lib.hid hMs; have MO := Lib.hid hMo; have KM := Lib.hid hM; have EQ := Lib.hid heq; have HM := Lib.hid hm
  clear hmac hXs hMs hMo hM heq hm hk hv bk bm hN hp hL hX
  go_enter Tryd.func36, Tryd.ntmps36
  go_wp2_with fail
  refine MAC.out.mono ?_
  rintro e w2 ⟨rfl, hb2⟩
  have B2 := Lib.hid hb2; clear hb2
  go_wp2_with (refine wpList_store_new (by rfl) 25 _ _ (by rfl) (by rfl) M _ _ (by rfl) (by rfl) (by rw [MS.out]; exact info32) (by rw [MS.out, XS.out]) MO.out ?_)
  have s3 : Sl (w2.alloc (.cells M 25)) (.slice (some ⟨w2.heap.size, 0, none⟩) 32 32) (macOf k ps.flatten) := at_sl (by rw [KM.out]; exact at_new w2 _ _) (macOf_length _ _)
  have b3 : Below w.heap.size w (w2.alloc (.cells M 25)) := B2.out.alloc B2.out.size _
  have B3 := Lib.hid b3
  refine (EQ.out _ _ s3 (HM.out.below b3)).mono ?_
  rintro e w4 ⟨rfl, rfl⟩
  clear s3 b3
  go_wp2_with fail
  go_ret
  exact ⟨rfl, B3.out⟩
set_option maxHeartbeats 400000 in
theorem far2_yes (n : Nat) (a : Option Addr) (cap : Nat) (w : World) (h : 400 < n) (hn : n ≤ 9223372036854775807) : Calls Tryd.prog 13 #[.slice a n cap] w fun e w' => e = .returned (.bool true) ∧ w = w' := by
  have h' : (400 : Int) < (n : Int) := by omega
  go_enter Tryd.func13, Tryd.ntmps13
  go_wp2
  go_ret
  exact ⟨rfl, rfl⟩
set_option maxHeartbeats 400000 in
theorem far2_no (n : Nat) (a : Option Addr) (cap : Nat) (w : World) (h : n ≤ 400) : Calls Tryd.prog 13 #[.slice a n cap] w fun e w' => e = .returned (.bool false) ∧ w = w' := by
  have h' : ¬ (400 : Int) < (n : Int) := by omega
  go_enter Tryd.func13, Tryd.ntmps13
  go_wp2
  go_ret
  exact ⟨rfl, rfl⟩
theorem sl_nil0 (w : World) (cap : Nat) : Sl w (.slice none 0 cap) [] := ⟨none, cap, rfl, by simp, fun h => absurd rfl h⟩
/-- The world behind two literals of one byte and a list of the second. -/
def litW (w : World) (x y : Int) : World := ((w.alloc (.cells #[.int .u8 x] 5 (1, 2))).alloc (.cells #[.int .u8 y] 5 (1, 2))).alloc (.cells #[.slice (some ⟨w.heap.size + 1, 0, none⟩) 1 1] 22)
theorem lit_facts (w : World) (x y : BitVec 8) :
    Sl (litW w x.toNat y.toNat) (.slice (some ⟨w.heap.size, 0, none⟩) 1 1) [x] ∧ Sls (litW w x.toNat y.toNat) (.slice (some ⟨w.heap.size + 1 + 1, 0, none⟩) 1 1) [[y]] ∧ Below w.heap.size w (litW w x.toNat y.toNat) := by
  have bb : Below w.heap.size w (litW w x.toNat y.toNat) := (((Below.refl _ _).alloc (Nat.le_refl _) _).alloc (by simp) _).alloc (by simp; omega) _
  have e1 : (w.alloc (.cells #[.int .u8 x.toNat] 5 (1, 2))).heap.size = w.heap.size + 1 := by simp
  have e2 : ((w.alloc (.cells #[.int .u8 x.toNat] 5 (1, 2))).alloc (.cells #[.int .u8 y.toNat] 5 (1, 2))).heap.size = w.heap.size + 1 + 1 := by simp
  have ca : (litW w x.toNat y.toNat).cell? ⟨w.heap.size, 0, none⟩ = some (.int .u8 x.toNat) :=
    Lib.cell?_alloc_marked _ (Lib.cell?_alloc_marked _ (by rw [cell_of_row _ _ _ _ _ _ (heap_alloc_new w _)]; rfl))
  have cb : (litW w x.toNat y.toNat).cell? ⟨w.heap.size + 1, 0, none⟩ = some (.int .u8 y.toNat) := by
    have h' := heap_alloc_new (w.alloc (.cells #[.int .u8 x.toNat] 5 (1, 2))) (.cells #[.int .u8 y.toNat] 5 (1, 2))
    rw [e1] at h'
    exact Lib.cell?_alloc_marked _ (by rw [cell_of_row _ _ _ _ _ _ h']; rfl)
  have ac : At (litW w x.toNat y.toNat) (w.heap.size + 1 + 1) #[.slice (some ⟨w.heap.size + 1, 0, none⟩) 1 1] 22 := by
    have := at_new ((w.alloc (.cells #[.int .u8 x.toNat] 5 (1, 2))).alloc (.cells #[.int .u8 y.toNat] 5 (1, 2))) #[.slice (some ⟨w.heap.size + 1, 0, none⟩) 1 1] 22
    rw [e2] at this; exact this
  have hl : w.heap.size + 1 + 1 < (litW w x.toNat y.toNat).heap.size := ac.lt
  refine ⟨⟨_, _, rfl, by simp, fun _ => ⟨_, _, rfl, by omega, fun i hi => ?_⟩⟩, ⟨_, _, rfl, by simp, fun _ => ⟨_, _, rfl, hl, fun i hi => ?_⟩⟩, bb⟩
  · have h0 : i = 0 := by simpa using hi
    subst h0
    exact ca
  · have h0 : i = 0 := by simpa using hi
    subst h0
    refine ⟨_, by rw [ac.cell]; rfl, ⟨_, _, rfl, by simp, fun _ => ⟨_, _, rfl, by omega, fun i hi => ?_⟩⟩⟩
    have h0 : i = 0 := by simpa using hi
    subst h0
    exact cb
theorem conv1 (w : World) (x : Int) (n c : Nat) : (convert 22 22 (.slice (some ⟨w.heap.size, 0, none⟩) n c)).run Tryd.prog (w.alloc (.cells #[.int .u8 x] 5)) = .ok (.slice (some ⟨w.heap.size, 0, none⟩) n c) (w.alloc (.cells #[.int .u8 x] 5 (1, 2))) :=
  Lib.run_convert_bytes_const (P := Tryd.prog) w 22 5 #[.int .u8 x] n c Tryd.underlying22 Tryd.underlying5
theorem conv2 (w : World) (x y : Int) (n c : Nat) : (convert 22 22 (.slice (some ⟨w.heap.size + 1, 0, none⟩) n c)).run Tryd.prog ((w.alloc (.cells #[.int .u8 x] 5 (1, 2))).alloc (.cells #[.int .u8 y] 5)) = .ok (.slice (some ⟨w.heap.size + 1, 0, none⟩) n c) ((w.alloc (.cells #[.int .u8 x] 5 (1, 2))).alloc (.cells #[.int .u8 y] 5 (1, 2))) := by
  have h := conv1 (w.alloc (.cells #[.int .u8 x] 5 (1, 2))) y n c
  have e : (w.alloc (.cells #[.int .u8 x] 5 (1, 2))).heap.size = w.heap.size + 1 := by simp
  rw [e] at h
  exact h
set_option maxRecDepth 100000 in
set_option maxHeartbeats 1000000 in
theorem alive2_any (w : World) (hL : Tabs w) : Calls Tryd.prog 14 #[] w fun e w' => e = .returned (.bool true) ∧ Below w.heap.size w w' := by
  have hx := zero32
  obtain ⟨X, hX⟩ : ∃ X, X = Z32 := ⟨_, rfl⟩
  rw [← hX] at hx
  have hXs : X.size = 32 := by rw [hX]; simp [Z32, u8s]
  obtain ⟨M, hM⟩ : ∃ M, M = mcOf [107] [98] := ⟨_, rfl⟩
  have hMs : M.size = 32 := by rw [hM]; exact mcOf_size _ _
  have hMo : M.all (·.oneCell') = true := by rw [hM]; exact mcOf_one _ _
  have hmac := fun (wx : World) (vk vp : Value) (h1 : Sl wx vk [107]) (h2 : Sls wx vp [[98]]) (ht : Tabs wx) => mac_any [107] [[98]] vk vp wx h1 h2 (by simp) (by simp) (by simp) ht
  rw [show ([[98]] : List (List (BitVec 8))).flatten = [98] from rfl, ← hM] at hmac
  have XS := Lib.hid hXs; have MS := Lib.hid hMs; have MO := Lib.hid hMo; have KM := Lib.hid hM; have MAC := Lib.hid hmac; have HL := Lib.hid hL
  clear hXs hMs hMo hM hmac hL hX
  have c1 := conv1 w 107
  have c2 := conv2 w 107 98
  go_enter Tryd.func14, Tryd.ntmps14
  go_wp2_with fail
  clear c1 c2
  obtain ⟨f1, f2, f3⟩ := lit_facts w 107 98
  refine (MAC.out (litW w 107 98) _ _ f1 f2 (HL.out.below f3 (Nat.le_refl _))).mono ?_
  rintro e w2 ⟨rfl, hb2⟩
  have B2 := Lib.hid (f3.trans (hb2.mono f3.size))
  clear f1 f2 f3 hb2
  go_wp2_with (refine wpList_store_new (by rfl) 25 _ _ (by rfl) (by rfl) M _ _ (by rfl) (by rfl) (by rw [MS.out]; exact info32) (by rw [MS.out, XS.out]) MO.out ?_; have A3 := Lib.hid (at_new w2 M 25); have B3 := Lib.hid (B2.out.alloc B2.out.size (.cells M 25)); generalize w2.alloc (.cells M 25) = w3 at *; generalize w2.heap.size = bm at *; have c1 := conv1 w3 107; have c2 := conv2 w3 107 98)
  clear c1 c2
  have hc1 := fun (wx : World) (vk vm vp : Value) (h1 : Sl wx vk [107]) (h2 : Sls wx vp [[98]]) (h3 : Sl wx vm (macOf [107] [98])) (ht : Tabs wx) => check_any [107] (macOf [107] [98]) [[98]] vk vm vp wx h1 h3 h2 (by simp) (by rw [macOf_length]; omega) (by simp) (by simp) ht
  have hc2 := fun (wx : World) (vk vm vp : Value) (h1 : Sl wx vk [107]) (h2 : Sls wx vp [[98]]) (h3 : Sl wx vm ((macOf [107] [98]).take 31)) (ht : Tabs wx) => check_any [107] ((macOf [107] [98]).take 31) [[98]] vk vm vp wx h1 h3 h2 (by simp) (by rw [List.length_take]; omega) (by simp) (by simp) ht
  rw [show ([[98]] : List (List (BitVec 8))).flatten = [98] from rfl, sameB_self] at hc1
  rw [show ([[98]] : List (List (BitVec 8))).flatten = [98] from rfl, sameB_len _ _ (by rw [List.length_take, macOf_length]; decide)] at hc2
  have hm3 : ∀ wx, Below w3.heap.size w3 wx → Sl wx (.slice (some ⟨bm, 0, none⟩) 32 32) (macOf [107] [98]) := fun wx hb => at_sl (by have := A3.out.below hb A3.out.lt; rw [KM.out] at this; exact this) (macOf_length _ _)
  have hm4 : ∀ wx, Below w3.heap.size w3 wx → Sl wx (.slice (some ⟨bm, 0, none⟩) 31 32) ((macOf [107] [98]).take 31) := fun wx hb => by
    obtain ⟨a', c', e, _, hr⟩ := hm3 wx hb
    have hl : ((macOf [107] [98]).take 31).length = 31 := by rw [List.length_take, macOf_length]; rfl
    refine ⟨some ⟨bm, 0, none⟩, 32, by rw [hl], by rw [hl]; decide, fun _ => ?_⟩
    obtain ⟨bb, oo, ea, hlt, hcell⟩ := hr (by intro e; have := macOf_length [107] [98]; rw [e] at this; cases this)
    injection e with e1 _ _
    refine ⟨bb, oo, e1.trans ea, hlt, fun i hi => ?_⟩
    rw [hl] at hi
    rw [hcell i (by rw [macOf_length]; omega)]
    simp [List.getD_eq_getElem?_getD, hi]
  have HC1 := Lib.hid hc1; have HC2 := Lib.hid hc2; have M3 := Lib.hid hm3; have M4 := Lib.hid hm4
  clear hc1 hc2 hm3 hm4
  obtain ⟨f1, f2, f3⟩ := lit_facts w3 107 98
  refine (HC1.out (litW w3 107 98) _ _ _ f1 f2 (M3.out _ f3) (HL.out.below (B3.out.trans (f3.mono B3.out.size)) (Nat.le_refl _))).mono ?_
  rintro e w4 ⟨rfl, hb4⟩
  have G4 := Lib.hid (f3.trans (hb4.mono f3.size))
  clear f1 f2 f3 hb4
  have c1 := conv1 w4 107
  have c2 := conv2 w4 107 98
  go_wp2_with fail
  clear c1 c2
  obtain ⟨f1, f2, f3⟩ := lit_facts w4 107 98
  have g5 := G4.out.trans (f3.mono G4.out.size)
  refine (HC2.out (litW w4 107 98) _ _ _ f1 f2 (M4.out _ g5) (HL.out.below (B3.out.trans (g5.mono B3.out.size)) (Nat.le_refl _))).mono ?_
  rintro e w5 ⟨rfl, hb5⟩
  have G5 := Lib.hid (g5.trans (hb5.mono (Nat.le_trans G4.out.size f3.size)))
  clear f1 f2 f3 hb5 g5
  go_wp2_with fail
  refine (equal_any [] [] _ _ _ (sl_nil0 _ _) (sl_nil0 _ _) (by simp) (by simp)).mono ?_
  rintro e w6 ⟨rfl, rfl⟩
  rw [sameB_self]
  go_wp2_with fail
  have s6 : Sl (w5.alloc (.cells #[.int .u8 5] 5)) (.slice (some ⟨w5.heap.size, 0, none⟩) 1 1) [5] := at_sl (l := [5]) (at_new w5 #[.int .u8 5] 5) rfl
  have g6 : Below w3.heap.size w3 (w5.alloc (.cells #[.int .u8 5] 5)) := G5.out.alloc G5.out.size _
  have G6 := Lib.hid g6
  have b6 := B3.out.trans (g6.mono B3.out.size)
  obtain ⟨K, hK⟩ : ∃ K, K = kyOf [5] := ⟨_, rfl⟩
  have hkey := key_any [5] _ _ s6 (by simp) (HL.out.below b6 (Nat.le_refl _))
  rw [← hK] at hkey
  have hk0 : K[0]? = some (.int .u8 5) := by
    rw [hK, kyOf, List.getElem?_toArray, u8s_get _ 0 (by rw [keyOf_length]; decide)]; rfl
  have hix : ∀ w : World, (Instr.index 28 (.agg K) (.int .i64 0)).run Tryd.prog w = .ok (.int .u8 5) w := fun w =>
    run_index_row Tryd.underlying28 Tryd.underlying5 (by rfl) infoB K 0 (by decide) _ hk0 w
  clear hK hk0 s6 g6 b6
  refine hkey.mono ?_
  rintro e w7 ⟨rfl, hb7⟩
  have B7 := Lib.hid (B3.out.trans ((G6.out.trans (hb7.mono G6.out.size)).mono B3.out.size))
  clear hb7 hkey
  go_wp2_with fail
  go_ret
  exact ⟨rfl, B7.out⟩
end Sha
end Go.Proofs.YtngegegomkclbaaDoor
