/- The document's key of 64 bytes, its turned bytes and its mac: their walks; they are the program's. | The document's mac: its walk; it is the program's. -/
import Derived.Test.YtngegegomkclbaaDoorRefSum
import Derived.Test.YtngegegomkclbaaDoorMacSum
namespace Go.Proofs.YtngegegomkclbaaDoor
namespace Sha
open Go.RowKit Mem
theorem sl_rd {w : World} {v : Value} {l : List (BitVec 8)} (h : Sl w v l) : Rd w v (u8s l) := by
  obtain ⟨a, c, rfl, _, hr⟩ := h
  refine ⟨a, c, by rw [u8s_length], fun hne => ?_⟩
  obtain ⟨b, o, rfl, _, hc⟩ := hr (by intro e; rw [e] at hne; exact hne rfl)
  refine ⟨_, rfl, fun i u hu => ?_⟩
  have hi : i < l.length := by
    have := (List.getElem?_eq_some_iff.1 hu).1
    rwa [u8s_length] at this
  rw [Addr.add_mid, hc i hi, ← u8s_get l i hi, hu]
theorem u8s_cells (l : List (BitVec 8)) : ∀ u ∈ u8s l, u.oneCell' = true := by
  intro u hu
  obtain ⟨x, _, rfl⟩ := List.mem_map.1 hu
  rfl
theorem turned_next (l : List (BitVec 8)) (y : BitVec 8) (j : Nat) (h : j < l.length) : (turned l y).take (j + 1) = (turned l y).take j ++ [l.getD j 0 ^^^ y] := by
  rw [List.take_succ_eq_append_getElem (by rw [turned_length]; exact h)]
  simp [turned, h]
def TRel (w : World) (L : List (BitVec 8)) (v i : Value) (wr : World) : Prop := ∃ j : Nat, j ≤ L.length ∧ i = .int .i64 j ∧ OwnB wr w.heap.size v (L.take j) ∧ Below w.heap.size w wr
set_option maxRecDepth 100000 in
set_option maxHeartbeats 1000000 in
theorem rturned_any (l : List (BitVec 8)) (y : BitVec 8) (vl : Value) (w : World) (hl : Sl w vl l) (bl : l.length ≤ 1099511627776) :
    Calls Tryd.prog 39 #[vl, .int .u8 (B8 y)] w (PadEnd w (turned l y)) := by
  obtain ⟨L, hL⟩ : ∃ L, L = turned l y := ⟨_, rfl⟩
  have hLl : L.length = l.length := by rw [hL, turned_length]
  have hnx : ∀ j, j < l.length → L.take (j + 1) = L.take j ++ [l.getD j 0 ^^^ y] := fun j hj => by rw [hL]; exact turned_next l y j hj
  rw [← hL]
  clear hL
  have hl0 := hl
  obtain ⟨a1, c1, rfl, _, _⟩ := hl
  obtain ⟨n, hn⟩ : ∃ n, n = l.length := ⟨_, rfl⟩
  rw [← hn] at hLl hnx bl
  have HL := Lib.hid hl0; have NX := Lib.hid hnx; have LL := Lib.hid hLl; have HN := Lib.hid hn
  rw [← hn]
  clear hl0 hnx hLl hn
  go_enter Tryd.func39, Tryd.ntmps39
  go_wp2_with fail
  go_loopw [5, 6] (fun v i wr => TRel w L v i wr) (fun _ i _ => n - (intOf i).toNat)
  case atStart => exact ⟨0, Nat.zero_le _, rfl, OwnB.nil _ _, Below.refl _ _⟩
  case round =>
    obtain ⟨j, hj, rfl, how, hbr⟩ := hrel
    rw [LL.out] at hj
    by_cases hlt : j < n
    · obtain ⟨b1, o1, rfl, cl⟩ := sl_at (i := j) (HL.out.below hbr) (by rw [← HN.out]; exact hlt)
      obtain ⟨x, hx⟩ : ∃ x, x = l.getD j 0 := ⟨_, rfl⟩
      rw [← hx] at cl
      have hnj := NX.out j hlt
      rw [← hx] at hnj
      have z0 : (0 : Int) ≤ (j : Int) := by omega
      have zn : (j : Int) < (n : Int) := by omega
      have hle : (u8s (L.take j)).length = j := by rw [u8s_length, List.length_take, LL.out]; omega
      have OV := Lib.hid (ownB_V how); have BR := Lib.hid hbr; have NJ := Lib.hid hnj; have LE := Lib.hid hle
      clear how hbr hnj hle hx
      go_wp2_with (at_builtin; refine wpList_append_lit (by rfl) _ _ 22 (by rfl) (.int .u8 (bits .xor .u8 (B8 x) (B8 y))) (.int .u8 0) 1 elemB8 (by rfl) (by rfl) OV.out (by rfl) (by rfl) (by rw [LE.out]; omega) (by rw [LE.out]; omega) BR.out.size ?_; intro v' w' ho' _ hb' _; have OV' := Lib.hid ho'; have BR' := Lib.hid (BR.out.trans hb'); clear ho' hb')
      go_roundw
      case rel => exact ⟨j + 1, by rw [LL.out]; exact hlt, by go_num, ownV_B (by have h := OV'.out; rw [B8_xor] at h; rw [NJ.out, u8s_snoc]; exact h), BR'.out⟩
      case measure => simp [intOf]; omega
    · have hjn : j = n := by omega
      have hall : L.take j = L := List.take_of_length_le (by rw [LL.out]; omega)
      rw [hall] at how
      have hge : ¬ (j : Int) < (n : Int) := by omega
      have OW := Lib.hid how; have BR := Lib.hid hbr
      clear how hbr hall hjn hlt hj
      go_wp2_with fail
      go_ret
      exact ⟨_, rfl, OW.out, BR.out⟩
/-- The key, filled up by z bytes 0. -/
def FRel (w : World) (K : List (BitVec 8)) (v : Value) (wr : World) : Prop := ∃ z : Nat, K.length + z ≤ 64 ∧ OwnB wr w.heap.size v (K ++ List.replicate z 0) ∧ Below w.heap.size w wr
theorem fill_next (K : List (BitVec 8)) (z : Nat) : u8s (K ++ List.replicate (z + 1) 0) = u8s (K ++ List.replicate z 0) ++ [.int .u8 0] := by
  rw [List.replicate_succ', ← List.append_assoc, u8s_snoc]; rfl
set_option maxRecDepth 100000 in
set_option maxHeartbeats 1000000 in
theorem rkey_any (k : List (BitVec 8)) (vk : Value) (w : World) (hk : Sl w vk k) (bk : k.length ≤ 1099511627776) :
    Calls Tryd.prog 19 #[vk] w (PadEnd w (keyOf k)) := by
  have hk0 := hk
  obtain ⟨a1, c1, rfl, _, _⟩ := hk
  obtain ⟨n, hn⟩ : ∃ n, n = k.length := ⟨_, rfl⟩
  by_cases h64 : 64 < k.length
  · have hko : keyOf k = digestOf k ++ List.replicate (64 - (digestOf k).length) 0 := by unfold keyOf; rw [if_pos h64]; rfl
    obtain ⟨D, hD⟩ : ∃ D, D = digestOf k := ⟨_, rfl⟩
    have hDl : D.length = 32 := by rw [hD]; exact digestOf_length k
    obtain ⟨G, hG⟩ : ∃ G, G = dgOf k := ⟨_, rfl⟩
    have eG : G = (u8s D).toArray := by rw [hG, hD]; rfl
    have hGs : G.size = 32 := by rw [hG]; exact dgOf_size _
    have hGo : G.all (·.oneCell') = true := by rw [hG]; exact dgOf_one _
    have hsum := fun (wx : World) (hx : Below w.heap.size w wx) => rsum_any k _ wx (hk0.below hx) bk
    rw [← hG] at hsum
    rw [hko, ← hD]
    rw [← hn] at hk0 hsum bk h64 ⊢
    have h64' : (64 : Int) < (n : Int) := by omega
    have HK := Lib.hid hk0; have SUM := Lib.hid hsum; have GS := Lib.hid hGs; have GO := Lib.hid hGo; have EG := Lib.hid eG; have DL := Lib.hid hDl; have HN := Lib.hid hn
    clear hk0 hsum hGs hGo eG hD hG hDl hko hn h64
    go_enter Tryd.func19, Tryd.ntmps19
    go_wp2_with (first
      | (at_builtin; refine wpList_append_bytes (by rfl) (.const (.slice none 0 0)) _ (by rfl) w.heap.size (.slice none 0 0) (.slice a1 n c1) [] k (by rfl) (OwnB.nil _ _) (by rfl) HK.out (by have := HN.out; simp; omega) (Nat.le_refl _) ?_; intro v5 w5 ho5 hk5 hb5; have B5 := Lib.hid hb5; clear ho5 hk5 hb5)
      | (go_at_call 12; refine (SUM.out _ B5.out).mono ?_; rintro e w6 ⟨rfl, hb6⟩; have B6 := Lib.hid (B5.out.trans (hb6.mono B5.out.size)); clear hb6)
      | (refine wpList_store_new (by rfl) 25 _ _ (by rfl) (by rfl) G _ _ (by rfl) (by rfl) (by rw [GS.out]; exact info32) (by rw [GS.out]; rfl) GO.out ?_; have G7 := Lib.hid (at_new w6 G 25); have B7 := Lib.hid (B6.out.alloc B6.out.size (.cells G 25)); generalize w6.alloc (.cells G 25) = w7 at *; generalize w6.heap.size = bg at *)
      | (at_builtin; refine wpList_append_bytes (by rfl) (.const (.slice none 0 0)) _ (by rfl) w.heap.size (.slice none 0 0) (.slice (some ⟨bg, 0, none⟩) 32 32) [] D (by rfl) (OwnB.nil _ _) (by rfl) (at_sl (by have h := G7.out; rw [EG.out] at h; exact h) DL.out) (by rw [DL.out]; decide) B7.out.size ?_; intro v8 w8 ho8 hk8 hb8; have OF := Lib.hid ho8; have BF := Lib.hid (B7.out.trans hb8); clear ho8 hk8 hb8))
    have DL' : Hid (D.length ≤ 64) := by have := DL.out; show D.length ≤ 64; omega
    obtain ⟨wo, rfl⟩ : ∃ wo : World, wo = w8 := ⟨_, rfl⟩
    go_loopw [3] (fun v wr => FRel w D v wr) (fun v _ => 64 - (match v with | .slice _ l _ => l | _ => 0))
    case atStart => exact ⟨0, by have := DL'.out; omega, by simpa using OF.out, BF.out⟩
    case round =>
      clear OF BF
      obtain ⟨z, hz, how, hbr⟩ := hrel
      have hov := ownB_V how
      obtain ⟨a3, c3, hv3, -, -⟩ := how.open
      have hlz : (D ++ List.replicate z 0).length = D.length + z := by simp
      rw [hlz] at hv3
      subst hv3
      obtain ⟨q, hq⟩ : ∃ q, q = D.length := ⟨_, rfl⟩
      rw [← hq] at hz hlz how hov ⊢
      by_cases hlt : q + z < 64
      · have hlt' : (q : Int) + (z : Int) < 64 := by omega
        have hle : (u8s (D ++ List.replicate z 0)).length = q + z := by rw [u8s_length, hlz]
        have OV := Lib.hid hov; have BR := Lib.hid hbr; have LE := Lib.hid hle; have HQ := Lib.hid hq
        clear hov hbr how hle hlz hq
        go_wp2_with (at_builtin; refine wpList_append_lit (by rfl) _ _ 22 (by rfl) (.int .u8 0) (.int .u8 0) 1 elemB8 (by rfl) (by rfl) OV.out (by rfl) (by rfl) (by rw [LE.out]; omega) (by rw [LE.out]; omega) BR.out.size ?_; intro v' w' ho' _ hb' _; have OV' := Lib.hid ho'; have BR' := Lib.hid (BR.out.trans hb'); clear ho' hb')
        have hV : OwnB w' w.heap.size v' (D ++ List.replicate (z + 1) 0) := ownV_B (by rw [fill_next]; exact OV'.out)
        go_roundw
        case rel => exact ⟨z + 1, by rw [← HQ.out]; omega, hV, BR'.out⟩
        case measure =>
          obtain ⟨a4, c4, hv4, -, -⟩ := hV.open
          have hl4 : (D ++ List.replicate (z + 1) 0).length = q + z + 1 := by have := HQ.out; simp; omega
          rw [hl4] at hv4
          subst hv4
          simp only
          omega
      · have hzq : z = 64 - D.length := by omega
        have hge : ¬ (q : Int) + (z : Int) < 64 := by omega
        have OW := Lib.hid how; have BR := Lib.hid hbr; have HZ := Lib.hid hzq
        clear hov how hbr hzq hlz hq hlt hz
        go_wp2_with fail
        go_ret
        exact ⟨_, rfl, by rw [← HZ.out]; exact OW.out, BR.out⟩
  · have hko : keyOf k = k ++ List.replicate (64 - k.length) 0 := by unfold keyOf; rw [if_neg h64]; rfl
    have DL' : Hid (k.length ≤ 64) := by show k.length ≤ 64; omega
    rw [hko]
    rw [← hn] at hk0 bk h64 ⊢
    have h64' : ¬ (64 : Int) < (n : Int) := by omega
    have HK := Lib.hid hk0; have HN := Lib.hid hn
    rw [hn]
    rw [← HN.out]
    clear hk0 hko hn h64
    go_enter Tryd.func19, Tryd.ntmps19
    go_wp2_with (at_builtin; refine wpList_append_bytes (by rfl) (.const (.slice none 0 0)) _ (by rfl) w.heap.size (.slice none 0 0) (.slice a1 n c1) [] k (by rfl) (OwnB.nil _ _) (by rfl) HK.out (by have := HN.out; simp; omega) (Nat.le_refl _) ?_; intro v5 w5 ho5 hk5 hb5; have OF := Lib.hid ho5; have BF := Lib.hid hb5; clear ho5 hk5 hb5)
    obtain ⟨wo, rfl⟩ : ∃ wo : World, wo = w5 := ⟨_, rfl⟩
    go_loopw [3] (fun v wr => FRel w k v wr) (fun v _ => 64 - (match v with | .slice _ l _ => l | _ => 0))
    case atStart => exact ⟨0, by have := DL'.out; omega, by simpa using OF.out, BF.out⟩
    case round =>
      clear OF BF
      obtain ⟨z, hz, how, hbr⟩ := hrel
      have hov := ownB_V how
      obtain ⟨a3, c3, hv3, -, -⟩ := how.open
      have hlz : (k ++ List.replicate z 0).length = k.length + z := by simp
      rw [hlz] at hv3
      subst hv3
      obtain ⟨q, hq⟩ : ∃ q, q = k.length := ⟨_, rfl⟩
      rw [← hq] at hz hlz how hov ⊢
      by_cases hlt : q + z < 64
      · have hlt' : (q : Int) + (z : Int) < 64 := by omega
        have hle : (u8s (k ++ List.replicate z 0)).length = q + z := by rw [u8s_length, hlz]
        have OV := Lib.hid hov; have BR := Lib.hid hbr; have LE := Lib.hid hle; have HQ := Lib.hid hq
        clear hov hbr how hle hlz hq
        go_wp2_with (at_builtin; refine wpList_append_lit (by rfl) _ _ 22 (by rfl) (.int .u8 0) (.int .u8 0) 1 elemB8 (by rfl) (by rfl) OV.out (by rfl) (by rfl) (by rw [LE.out]; omega) (by rw [LE.out]; omega) BR.out.size ?_; intro v' w' ho' _ hb' _; have OV' := Lib.hid ho'; have BR' := Lib.hid (BR.out.trans hb'); clear ho' hb')
        have hV : OwnB w' w.heap.size v' (k ++ List.replicate (z + 1) 0) := ownV_B (by rw [fill_next]; exact OV'.out)
        go_roundw
        case rel => exact ⟨z + 1, by rw [← HQ.out]; omega, hV, BR'.out⟩
        case measure =>
          obtain ⟨a4, c4, hv4, -, -⟩ := hV.open
          have hl4 : (k ++ List.replicate (z + 1) 0).length = q + z + 1 := by have := HQ.out; simp; omega
          rw [hl4] at hv4
          subst hv4
          simp only
          omega
      · have hzq : z = 64 - k.length := by omega
        have hge : ¬ (q : Int) + (z : Int) < 64 := by omega
        have OW := Lib.hid how; have BR := Lib.hid hbr; have HZ := Lib.hid hzq
        clear hov how hbr hzq hlz hq hlt hz
        go_wp2_with fail
        go_ret
        exact ⟨_, rfl, by rw [HN.out, ← HZ.out]; exact OW.out, BR.out⟩
end Sha
end Go.Proofs.YtngegegomkclbaaDoor
namespace Go.Proofs.YtngegegomkclbaaDoor
namespace Sha
open Go.RowKit Mem
set_option maxRecDepth 100000 in
set_option maxHeartbeats 1000000 in
theorem rmac_any (k m : List (BitVec 8)) (vk vm : Value) (w : World) (hk : Sl w vk k) (hm : Sl w vm m) (bk : k.length ≤ 1099511627776) (bm : m.length ≤ 1099511627000) :
    Calls Tryd.prog 17 #[vk, vm] w fun e w' => e = .returned (.agg (mcOf k m)) ∧ Below w.heap.size w w' := by
  have hx := zero32
  obtain ⟨X, hX⟩ : ∃ X, X = Z32 := ⟨_, rfl⟩
  rw [← hX] at hx
  have hXs : X.size = 32 := by rw [hX]; simp [Z32, u8s]
  have hkey := fun (wx : World) (h1 : Sl wx vk k) => rkey_any k vk wx h1 bk
  have ht1 := fun (wx : World) (v : Value) (h1 : Sl wx v (keyOf k)) => rturned_any (keyOf k) 54 v wx h1 (by rw [keyOf_length]; decide)
  have ht2 := fun (wx : World) (v : Value) (h1 : Sl wx v (keyOf k)) => rturned_any (keyOf k) 92 v wx h1 (by rw [keyOf_length]; decide)
  rw [show B8 54 = 54 from by decide] at ht1
  rw [show B8 92 = 92 from by decide] at ht2
  obtain ⟨K, hK⟩ : ∃ K, K = keyOf k := ⟨_, rfl⟩
  obtain ⟨T1, hT1⟩ : ∃ T, T = turned K 54 := ⟨_, rfl⟩
  obtain ⟨T2, hT2⟩ : ∃ T, T = turned K 92 := ⟨_, rfl⟩
  obtain ⟨I, hI⟩ : ∃ I, I = digestOf (T1 ++ m) := ⟨_, rfl⟩
  obtain ⟨G, hG⟩ : ∃ G, G = dgOf (T1 ++ m) := ⟨_, rfl⟩
  obtain ⟨M, hM⟩ : ∃ M, M = mcOf k m := ⟨_, rfl⟩
  have hMs : M.size = 32 := by rw [hM]; exact mcOf_size _ _
  have hMo : M.all (·.oneCell') = true := by rw [hM]; exact mcOf_one _ _
  have eM : dgOf (T2 ++ I) = M := by rw [hM, hI, hT1, hT2, hK]; rfl
  have eG : G = (u8s I).toArray := by rw [hG, hI]; rfl
  have hIl : I.length = 32 := by rw [hI]; exact digestOf_length _
  have hGs : G.size = 32 := by rw [hG]; exact dgOf_size _
  have hGo : G.all (·.oneCell') = true := by rw [hG]; exact dgOf_one _
  have l1 : T1.length = 64 := by rw [hT1, turned_length, hK, keyOf_length]
  have l2 : T2.length = 64 := by rw [hT2, turned_length, hK, keyOf_length]
  have hs1 := fun (wx : World) (v : Value) (h1 : Sl wx v (T1 ++ m)) => rsum_any (T1 ++ m) v wx h1 (by rw [List.length_append, l1]; omega)
  have hs2 := fun (wx : World) (v : Value) (h1 : Sl wx v (T2 ++ I)) => rsum_any (T2 ++ I) v wx h1 (by rw [List.length_append, l2, hIl]; decide)
  rw [← hK] at hkey ht1 ht2
  rw [← hT1] at ht1
  rw [← hT2] at ht2
  rw [← hG] at hs1
  rw [eM] at hs2
  rw [← hM]
  have KEY := Lib.hid hkey; have TA := Lib.hid ht1; have TB := Lib.hid ht2; have SA := Lib.hid hs1; have SB := Lib.hid hs2; have HK := Lib.hid hk; have HM := Lib.hid hm
  have XS := Lib.hid hXs; have GS := Lib.hid hGs; have GO := Lib.hid hGo; have MS := Lib.hid hMs; have MO := Lib.hid hMo; have EG := Lib.hid eG; have IL := Lib.hid hIl; have LA := Lib.hid l1; have LB := Lib.hid l2
  have R1 := Lib.hid (at_new w X 25); have B1 := Lib.hid ((Below.refl w.heap.size w).alloc (Nat.le_refl _) (.cells X 25))
  clear hkey ht1 ht2 hs1 hs2 hk hm hXs hGs hGo hMs hMo eG eM hIl l1 l2 hX hK hT1 hT2 hI hG hM bk
  go_enter Tryd.func17, Tryd.ntmps17
  go_wp2_with (first
    | (go_at_call 19; refine (KEY.out _ (HK.out.below B1.out)).mono ?_; rintro e w2 ⟨vK, rfl, ho2, hb2⟩; have R2 := Lib.hid (R1.out.below hb2 R1.out.lt); have B2 := Lib.hid (B1.out.trans (hb2.mono B1.out.size)); have OK := Lib.hid ho2; clear hb2 ho2)
    | (go_at_call 39; refine (TA.out _ _ OK.out.sl).mono ?_; rintro e w3 ⟨v3, rfl, ho3, hb3⟩; have R3 := Lib.hid (R2.out.below hb3 R2.out.lt); have B3 := Lib.hid (B2.out.trans (hb3.mono B2.out.size)); have OK3 := Lib.hid (OK.out.below hb3); have O3 := Lib.hid ho3; have Z3 := Lib.hid hb3.size; have K3 := Lib.hid (OK.out.lt); have Q3 := Lib.hid R2.out.lt; clear hb3 ho3)
    | (at_builtin; refine wpList_append_bytes (by rfl) _ _ (by rfl) w2.heap.size v3 vm T1 m (by rfl) O3.out (by rfl) (HM.out.below B3.out) (by rw [LA.out]; omega) Z3.out ?_; intro v4 w4 ho4 hk4 hb4; have R4 := Lib.hid (R3.out.below hb4 Q3.out); have O4 := Lib.hid ho4; have B4 := Lib.hid (B3.out.trans (hb4.mono (Nat.le_of_lt (Nat.lt_of_le_of_lt (Nat.le_refl _) Q3.out)))); have OK4 := Lib.hid (OK3.out.keep fun g hg => hb4.block g (K3.out g hg).2); clear ho4 hk4 hb4)
    | (go_at_call 12; refine (SA.out _ _ O4.out.sl).mono ?_; rintro e w5 ⟨rfl, hb5⟩; have R5 := Lib.hid (R4.out.below hb5 R4.out.lt); have B5 := Lib.hid (B4.out.trans (hb5.mono B4.out.size)); have OK5 := Lib.hid (OK4.out.below hb5); clear hb5)
    | (refine wpList_store_new (by rfl) 25 _ _ (by rfl) (by rfl) G _ _ (by rfl) (by rfl) (by rw [GS.out]; exact info32) (by rw [GS.out, XS.out]) GO.out ?_; have G6 := Lib.hid (at_new w5 G 25); have OK6 := Lib.hid (OK5.out.below ((Below.refl _ _).alloc (Nat.le_refl _) (.cells G 25))); have R6 := Lib.hid (R5.out.alloc (.cells G 25)); have B6 := Lib.hid (B5.out.alloc B5.out.size (.cells G 25)); generalize w5.alloc (.cells G 25) = w6 at *; generalize w5.heap.size = bg at *))
  refine wp_region_plan_in (fun w' => But w.heap.size w6 w') (.take 0 (.take 2 (.sole 1 (.sole 3 (.sole 4 (.sole 5 .done)))))) (by kernel_rfl) (by kernel_rfl) (by kernel_rfl) ⟨Nat.le_refl _, fun _ _ _ => rfl⟩ ?_
  (first | (refine plan_move _ _ (by rfl) (by rfl) (.inl (by rfl)) (by first | (with_reducible exact Mem.ev_const _ _) | (with_reducible exact Mem.ev_zero _ _ _) | (with_reducible (apply Eq.trans (Mem.ev_tmp _ _ _)); simp only [List.getD_cons_succ, List.getD_cons_zero] <;> rfl)) ?_) | (refine plan_move _ _ (by rfl) (by rfl) (.inr (by rfl)) (by first | (with_reducible exact Mem.ev_const _ _) | (with_reducible exact Mem.ev_zero _ _ _) | (with_reducible (apply Eq.trans (Mem.ev_tmp _ _ _)); simp only [List.getD_cons_succ, List.getD_cons_zero] <;> rfl)) ?_) | (refine plan_pick_t _ _ _ _ (by rfl) (by rfl) (by rfl) (by first | (with_reducible exact Mem.ev_const _ _) | (with_reducible exact Mem.ev_zero _ _ _) | (with_reducible (apply Eq.trans (Mem.ev_tmp _ _ _)); simp only [List.getD_cons_succ, List.getD_cons_zero] <;> rfl)) (by first | (with_reducible exact Mem.ev_const _ _) | (with_reducible exact Mem.ev_zero _ _ _) | (with_reducible (apply Eq.trans (Mem.ev_tmp _ _ _)); simp only [List.getD_cons_succ, List.getD_cons_zero] <;> rfl)) ?_) | (refine plan_pick_f _ _ _ _ (by rfl) (by rfl) (by rfl) (by first | (with_reducible exact Mem.ev_const _ _) | (with_reducible exact Mem.ev_zero _ _ _) | (with_reducible (apply Eq.trans (Mem.ev_tmp _ _ _)); simp only [List.getD_cons_succ, List.getD_cons_zero] <;> rfl)) (by first | (with_reducible exact Mem.ev_const _ _) | (with_reducible exact Mem.ev_zero _ _ _) | (with_reducible (apply Eq.trans (Mem.ev_tmp _ _ _)); simp only [List.getD_cons_succ, List.getD_cons_zero] <;> rfl)) ?_))
  (simp only [Act.put, List.setIfInBounds_toArray, List.set_cons_zero, List.set_cons_succ])
  refine plan_cut _ _ 32 5 bg 0 (by rfl) (by rfl) (by rfl) (by first | (with_reducible exact Mem.ev_const _ _) | (with_reducible exact Mem.ev_zero _ _ _) | (with_reducible (apply Eq.trans (Mem.ev_tmp _ _ _)); simp only [List.getD_cons_succ, List.getD_cons_zero] <;> rfl)) Tryd.underlying25 infoB ?_
  (simp only [Act.put, List.setIfInBounds_toArray, List.set_cons_zero, List.set_cons_succ])
  have B : Hid (Below w6.heap.size w6 w6.drew) := (Below.refl _ _).drew
  have sg : Hid (Sl w6.drew (.slice (some ⟨bg, 0, none⟩) 32 32) I) := at_sl (by have := G6.out; rw [EG.out] at this; exact this) IL.out
  have OKW := Lib.hid (OK6.out.keep (w' := w6.drew) fun _ _ => rfl)
  generalize w6.drew = W at *
  refine plan_call 39 _ _ _ (by kernel_rfl) (by rfl) (by rfl) (by rfl) (by first | exact Mem.ev_none _ | (simp only [List.map_toArray, List.map_cons, List.map_nil, Mem.ev_tmp, List.getD_cons_succ, List.getD_cons_zero] <;> rfl)) ?_
  refine (TB.out _ _ OKW.out.sl).mono ?_
  rintro e W2 ⟨v7, rfl, ho7, hb7⟩
  have sg2 := Lib.hid (sg.out.below hb7)
  have BW := Lib.hid B.out.size
  have B := Lib.hid (B.out.trans (hb7.mono B.out.size))
  have O7 := Lib.hid (ownB_V ho7)
  have Z7 := Lib.hid hb7.size
  clear hb7 ho7
  refine ⟨_, rfl, (But.refl _ _).below B.out, ?_⟩
  (simp only [Act.put, List.setIfInBounds_toArray, List.set_cons_zero, List.set_cons_succ])
  refine plan_append_rd _ _ 22 (by rfl) (by rfl) (by rfl) _ (u8s I) (.int .u8 0) 1 elemB8 (by rfl) (by first | (with_reducible exact Mem.ev_const _ _) | (with_reducible exact Mem.ev_zero _ _ _) | (with_reducible (apply Eq.trans (Mem.ev_tmp _ _ _)); simp only [List.getD_cons_succ, List.getD_cons_zero] <;> rfl)) O7.out (by first | (with_reducible exact Mem.ev_const _ _) | (with_reducible exact Mem.ev_zero _ _ _) | (with_reducible (apply Eq.trans (Mem.ev_tmp _ _ _)); simp only [List.getD_cons_succ, List.getD_cons_zero] <;> rfl)) (sl_rd sg2.out) (u8s_cells I) (by rw [u8s_length, u8s_length, LB.out, IL.out]; decide) (by rw [u8s_length, u8s_length, LB.out, IL.out]; decide) Z7.out ?_
  intro v8 w8 ho8 _ hb8 _
  have B := Lib.hid (B.out.trans (hb8.mono BW.out))
  have O8 : Hid (OwnB w8 W.heap.size v8 (T2 ++ I)) := ownV_B (by rw [show u8s (T2 ++ I) = u8s T2 ++ u8s I by simp [u8s]]; exact ho8)
  clear ho8 hb8
  refine ⟨(But.refl _ _).below B.out, ?_⟩
  (simp only [Act.put, List.setIfInBounds_toArray, List.set_cons_zero, List.set_cons_succ])
  refine plan_call 12 _ _ _ (by kernel_rfl) (by rfl) (by rfl) (by rfl) (by first | exact Mem.ev_none _ | (simp only [List.map_toArray, List.map_cons, List.map_nil, Mem.ev_tmp, List.getD_cons_succ, List.getD_cons_zero] <;> rfl)) ?_
  refine (SB.out _ _ O8.out.sl).mono ?_
  rintro e W3 ⟨rfl, hb9⟩
  have B := Lib.hid (B.out.trans (hb9.mono B.out.size))
  clear hb9
  refine ⟨_, rfl, (But.refl _ _).below B.out, ?_⟩
  (simp only [Act.put, List.setIfInBounds_toArray, List.set_cons_zero, List.set_cons_succ])
  refine plan_store 25 _ _ w.heap.size M X 25 (by rfl) (by rfl) (by rfl) (by rfl) (by first | (with_reducible exact Mem.ev_const _ _) | (with_reducible exact Mem.ev_zero _ _ _) | (with_reducible (apply Eq.trans (Mem.ev_tmp _ _ _)); simp only [List.getD_cons_succ, List.getD_cons_zero] <;> rfl)) (by first | (with_reducible exact Mem.ev_const _ _) | (with_reducible exact Mem.ev_zero _ _ _) | (with_reducible (apply Eq.trans (Mem.ev_tmp _ _ _)); simp only [List.getD_cons_succ, List.getD_cons_zero] <;> rfl)) (by rw [MS.out]; exact info32) (R6.out.below B.out R6.out.lt) (by rw [MS.out, XS.out]) MO.out (((But.refl _ _).below B.out).row (by simp) (fun k hk => setRow_other _ _ _ _ hk)) ?_
  refine plan_nil ?_
  go_wp2_with fail
  try simp only [Exit.inBlock, Exit.then]
  refine ret_row (by rfl) w.heap.size 25 M _ (by rfl) ((R6.out.below B.out R6.out.lt).row M) Tryd.underlying25 (by rfl) (by rw [MS.out]; exact info32) ?_
  exact ⟨rfl, below_row (B6.out.trans (B.out.mono B6.out.size)) (Nat.le_refl _) M⟩
end Sha
end Go.Proofs.YtngegegomkclbaaDoor
