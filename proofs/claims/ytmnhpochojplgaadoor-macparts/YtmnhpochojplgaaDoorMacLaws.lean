/- The walks of the laws MacEquals and MacFills. -/
import Derived.Test.YtmnhpochojplgaaDoorMacLive
import Derived.Test.YtmnhpochojplgaaDoorZeros
namespace Go.Proofs.YtmnhpochojplgaaDoor
namespace Sha
open Go.RowKit Mem

set_option maxRecDepth 100000 in
set_option maxHeartbeats 400000 in
theorem equals_any (a b : List (BitVec 8)) (va vb : Value) (w : World) (ha : Sl w va a) (hb : Sl w vb b) (la : a.length ≤ 9223372036854775807) (lb : b.length ≤ 9223372036854775807) (hL : Tabs w) :
    Calls Tryd.prog 9 #[va, vb] w fun e w' => e = .returned (.bool true) ∧ Below w.heap.size w w' := by
  have hab := fun wx (h : Below w.heap.size w wx) => equal_any a b va vb wx (ha.below h) (hb.below h) la lb
  have hba := fun wx (h : Below w.heap.size w wx) => equal_any b a vb va wx (hb.below h) (ha.below h) lb la
  have haa := fun wx (h : Below w.heap.size w wx) => equal_any a a va va wx (ha.below h) (ha.below h) la la
  have hsm := fun wx (h : Below w.heap.size w wx) => same_any a b va vb wx (ha.below h) (hb.below h) la lb
  have hal := fun wx (h : Below w.heap.size w wx) => alive2_any wx (hL.below h (Nat.le_refl _))
  rw [sameB_comm b a] at hba
  rw [sameB_self] at haa
  generalize sameB a b = s at *
  have HAB := Lib.hid hab; have HBA := Lib.hid hba; have HAA := Lib.hid haa; have HSM := Lib.hid hsm; have HAL := Lib.hid hal
  clear hab hba haa hsm hal ha hb hL
  go_enter Tryd.func9, Tryd.ntmps9
  go_wp2_with fail
  refine (HAB.out _ (Below.refl _ _)).mono ?_
  rintro e w1 ⟨rfl, rfl⟩
  go_wp2_with fail
  refine (HSM.out _ (Below.refl _ _)).mono ?_
  rintro e w1 ⟨rfl, hb1⟩
  have B1 := Lib.hid hb1
  clear hb1
  go_wp2_with fail
  refine (HAA.out _ B1.out).mono ?_
  rintro e w2 ⟨rfl, rfl⟩
  go_wp2_with fail
  refine (HAB.out _ B1.out).mono ?_
  rintro e w2 ⟨rfl, rfl⟩
  go_wp2_with fail
  refine (HBA.out _ B1.out).mono ?_
  rintro e w2 ⟨rfl, rfl⟩
  go_wp2_with fail
  refine (HAL.out _ B1.out).mono ?_
  rintro e w2 ⟨rfl, hb2⟩
  have B2 := Lib.hid (B1.out.trans (hb2.mono B1.out.size))
  clear hb2
  go_wp2_with fail
  go_ret
  exact ⟨rfl, B2.out⟩
set_option maxRecDepth 100000 in
set_option maxHeartbeats 1000000 in
theorem fills_near (k b : List (BitVec 8)) (m : Nat) (vk vb : Value) (w : World) (hk : Sl w vk k) (hb : Sl w vb b) (hm : m ≤ 255) (lk : k.length ≤ 64) (lb : b.length ≤ 400) (hL : Tabs w) :
    Calls Tryd.prog 11 #[vk, vb, .int .u8 (m : Int)] w fun e w' => e = .returned (.bool true) ∧ Below w.heap.size w w' := by
  obtain ⟨q, hq⟩ : ∃ q, q = min m (64 - k.length) := ⟨_, rfl⟩
  have hkq : k.length + q ≤ 64 := by omega
  have hfill : keyOf (k ++ List.replicate q 0) = keyOf k := keyOf_fill k q hkq
  have HK := Lib.hid hk; have HB := Lib.hid hb; have HL := Lib.hid hL
  have hmac1 := fun (wx : World) (vp : Value) (hx : Below w.heap.size w wx) (h2 : Sls wx vp [b]) => mac_any k [b] vk vp wx (hk.below hx) h2 (by omega) (by simp; omega) (by simp) (hL.below hx (Nat.le_refl _))
  have hmac2 := fun (wx : World) (v vp : Value) (hx : Below w.heap.size w wx) (h1 : Sl wx v (k ++ List.replicate q 0)) (h2 : Sls wx vp [b]) => mac_any (k ++ List.replicate q 0) [b] v vp wx h1 h2 (by simp; omega) (by simp; omega) (by simp) (hL.below hx (Nat.le_refl _))
  have hkey1 := fun (wx : World) (hx : Below w.heap.size w wx) => key_any k vk wx (hk.below hx) (by omega) (hL.below hx (Nat.le_refl _))
  have hkey2 := fun (wx : World) (v : Value) (hx : Below w.heap.size w wx) (h1 : Sl wx v (k ++ List.replicate q 0)) => key_any (k ++ List.replicate q 0) v wx h1 (by simp; omega) (hL.below hx (Nat.le_refl _))
  have em : mcOf (k ++ List.replicate q 0) [b].flatten = mcOf k [b].flatten := by unfold mcOf macOf; rw [hfill]
  have ek : kyOf (k ++ List.replicate q 0) = kyOf k := by unfold kyOf; rw [hfill]
  rw [em] at hmac2
  rw [ek] at hkey2
  have eqm : ∀ (x y : Operand) (wx : World), (do eqGuard .eql 25 x y (.agg (mcOf k [b].flatten)) (.agg (mcOf k [b].flatten)); binOp .eql 25 (.agg (mcOf k [b].flatten)) (.agg (mcOf k [b].flatten)) : Sem Value).run Tryd.prog wx = .ok (.bool true) wx := fun x y wx => by
    have := eql_bytes (P := Tryd.prog) wx 25 5 32 x y Tryd.underlying25 Tryd.underlying5 infoB (by kernel_rfl) _ _ (macOf_length k [b].flatten) (macOf_length k [b].flatten)
    unfold mcOf
    rw [this]; simp
  have eqk : ∀ (x y : Operand) (wx : World), (do eqGuard .eql 31 x y (.agg (kyOf k)) (.agg (kyOf k)); binOp .eql 31 (.agg (kyOf k)) (.agg (kyOf k)) : Sem Value).run Tryd.prog wx = .ok (.bool true) wx := fun x y wx => by
    have := eql_bytes (P := Tryd.prog) wx 31 5 64 x y Tryd.underlying31 Tryd.underlying5 infoB (by kernel_rfl) _ _ (keyOf_length k) (keyOf_length k)
    unfold kyOf
    rw [this]; simp
  generalize mcOf k [b].flatten = M at *
  generalize kyOf k = F at *
  have hal := fun wx (h : Below w.heap.size w wx) => alive2_any wx (hL.below h (Nat.le_refl _))
  obtain ⟨a1, c1, rfl, hc1, _⟩ := hk
  obtain ⟨a2, c2, rfl, hc2, _⟩ := hb
  have fb := fun wx => far2_no b.length a2 c2 wx lb
  obtain ⟨n, hn⟩ : ∃ n, n = k.length := ⟨_, rfl⟩
  obtain ⟨nb, hnb⟩ : ∃ n, n = b.length := ⟨_, rfl⟩
  rw [← hn] at hmac1 hkey1 lk HK hkq hq ⊢
  rw [← hnb] at fb lb HB ⊢
  have h64 : ¬ (64 : Int) < (n : Int) := by omega
  have hmin : min (m : Int) (64 - (n : Int)) = (q : Int) := by omega
  have HM1 := Lib.hid hmac1; have HM2 := Lib.hid hmac2; have HK1 := Lib.hid hkey1; have HK2 := Lib.hid hkey2; have EQM := Lib.hid eqm; have EQK := Lib.hid eqk; have HAL := Lib.hid hal; have FB := Lib.hid fb; have HN := Lib.hid hn; have HNB := Lib.hid hnb; have HMIN := Lib.hid hmin; have HKQ := Lib.hid hkq
  clear hmac1 hmac2 hkey1 hkey2 eqm eqk hal fb hn hnb hfill em ek hL hq hmin hkq hc1 hc2
  go_enter Tryd.func11, Tryd.ntmps11
  go_wp2_with fail
  refine (FB.out _).mono ?_
  rintro e w1 ⟨rfl, rfl⟩
  have hmin := HMIN.out
  go_wp2_with (first
    | (at_builtin; refine wpList_append_bytes (by rfl) _ _ (by rfl) w.heap.size (.slice none 0 0) (.slice a1 n c1) [] k (by rfl) (OwnB.nil _ _) (by rfl) HK.out (by have := HN.out; simp; omega) (Nat.le_refl _) ?_; intro v5 w5 ho5 hk5 hb5; have HO5 := Lib.hid ho5; have B5 := Lib.hid hb5; clear ho5 hk5 hb5)
    | (at_builtin; refine wpList_append_zeros (by rfl) _ _ (by rfl) w.heap.size v5 ([] ++ k) q (by rfl) HO5.out (by rfl) (by have := HN.out; have := HKQ.out; simp; omega) B5.out.size ?_; intro v6 w6 ho6 hk6 hb6; have HO6 := Lib.hid ho6; have B6 := Lib.hid (B5.out.trans hb6); clear ho6 hk6 hb6))
  clear hmin
  have sl6 : Sl w6 v6 (k ++ List.replicate q 0) := HO6.out.sl
  have S6 := Lib.hid sl6
  have sb6 := sls_lit1 (HB.out.below B6.out)
  have b7 := B6.out.alloc B6.out.size (.cells #[.slice a2 nb c2] 22)
  have S7 := Lib.hid (sl6.below ((Below.refl _ _).alloc (Nat.le_refl _) (.cells #[.slice a2 nb c2] 22)))
  have B7 := Lib.hid b7
  clear sl6
  refine (HM1.out _ _ b7 sb6).mono ?_
  rintro e w8 ⟨rfl, hb8⟩
  have S8 := Lib.hid (S7.out.below hb8)
  have B8' := Lib.hid (B7.out.trans (hb8.mono B7.out.size))
  clear sb6 b7 hb8
  go_wp2_with fail
  have sb8 := sls_lit1 (HB.out.below B8'.out)
  have b9 := B8'.out.alloc B8'.out.size (.cells #[.slice a2 nb c2] 22)
  have S9 := Lib.hid (S8.out.below ((Below.refl _ _).alloc (Nat.le_refl _) (.cells #[.slice a2 nb c2] 22)))
  have B9 := Lib.hid b9
  refine (HM2.out _ _ _ b9 S9.out sb8).mono ?_
  rintro e w10 ⟨rfl, hb10⟩
  have S10 := Lib.hid (S9.out.below hb10)
  have B10 := Lib.hid (B9.out.trans (hb10.mono B9.out.size))
  clear sb8 b9 hb10
  go_wp2_with (refine Mem.wpList_bin (by rfl) _ _ _ _ _ _ _ (.bool true) (by rfl) (by rfl) (by rfl) (EQM.out _ _) ?_)
  refine (HK1.out _ B10.out).mono ?_
  rintro e w11 ⟨rfl, hb11⟩
  have S11 := Lib.hid (S10.out.below hb11)
  have B11 := Lib.hid (B10.out.trans (hb11.mono B10.out.size))
  clear hb11
  go_wp2_with fail
  refine (HK2.out _ _ B11.out S11.out).mono ?_
  rintro e w12 ⟨rfl, hb12⟩
  have B12 := Lib.hid (B11.out.trans (hb12.mono B11.out.size))
  clear hb12
  go_wp2_with (refine Mem.wpList_bin (by rfl) _ _ _ _ _ _ _ (.bool true) (by rfl) (by rfl) (by rfl) (EQK.out _ _) ?_)
  refine (HAL.out _ B12.out).mono ?_
  rintro e w13 ⟨rfl, hb13⟩
  have B13 := Lib.hid (B12.out.trans (hb13.mono B12.out.size))
  clear hb13
  go_wp2_with fail
  go_ret
  exact ⟨rfl, B13.out⟩
set_option maxRecDepth 100000 in
set_option maxHeartbeats 400000 in
theorem fills_any (k b : List (BitVec 8)) (m : Nat) (vk vb : Value) (w : World) (hk : Sl w vk k) (hb : Sl w vb b) (hm : m ≤ 255) (lk : k.length ≤ 9223372036854775807) (lb : b.length ≤ 9223372036854775807) (hL : Tabs w) :
    Calls Tryd.prog 11 #[vk, vb, .int .u8 (m : Int)] w fun e w' => e = .returned (.bool true) ∧ Below w.heap.size w w' := by
  by_cases h64 : 64 < k.length
  · have HAL := Lib.hid (alive2_any w hL)
    obtain ⟨a1, c1, rfl, hc1, _⟩ := hk
    generalize k.length = n at *
    have h64' : (64 : Int) < (n : Int) := by omega
    clear hL hb
    go_enter Tryd.func11, Tryd.ntmps11
    go_wp2_with fail
    refine HAL.out.mono ?_
    rintro e w1 ⟨rfl, hb1⟩
    go_wp2_with fail
    go_ret
    exact ⟨rfl, hb1⟩
  · by_cases h4 : 400 < b.length
    · have HAL := Lib.hid (alive2_any w hL)
      obtain ⟨a1, c1, rfl, hc1, _⟩ := hk
      obtain ⟨a2, c2, rfl, hc2, _⟩ := hb
      have FB := Lib.hid (fun wx => far2_yes b.length a2 c2 wx h4 lb)
      generalize k.length = n at *
      generalize b.length = nb at *
      have h64' : ¬ (64 : Int) < (n : Int) := by omega
      clear hL
      go_enter Tryd.func11, Tryd.ntmps11
      go_wp2_with fail
      refine (FB.out _).mono ?_
      rintro e w1 ⟨rfl, rfl⟩
      go_wp2_with fail
      refine HAL.out.mono ?_
      rintro e w1 ⟨rfl, hb1⟩
      go_wp2_with fail
      go_ret
      exact ⟨rfl, hb1⟩
    · exact fills_near k b m vk vb w hk hb hm (by omega) (by omega) hL
end Sha
end Go.Proofs.YtmnhpochojplgaaDoor
