/- The walk of a key of 64 bytes. -/
import Derived.Test.YtngegegomkclbaaDoorMacEq
namespace Go.Proofs.YtngegegomkclbaaDoor
namespace Sha
open Go.RowKit Mem

theorem infoK : (Tryd.prog.info? 28).map (·.size) = some 64 := by kernel_rfl
theorem zeroK (w : World) : (zeroValue 28).run Tryd.prog w = .ok (.agg ZT) w := by kernel_rfl
/-- A key filled up, as a row. -/
def kyOf (k : List (BitVec 8)) : Array Value := (u8s (keyOf k)).toArray
theorem kyOf_size (k : List (BitVec 8)) : (kyOf k).size = 64 := by simp [kyOf, u8s, keyOf_length]
theorem kyOf_one (k : List (BitVec 8)) : (kyOf k).all (·.oneCell') = true := u8s_one _
theorem splice_fill (k : List (BitVec 8)) : Mem.splice ZT 0 (u8s k) = (u8s (fill64 k)).toArray := by
  have e : ZT.toList = List.replicate 64 (Value.int .u8 0) := by simp [ZT, u8s, zs64]
  have e2 : u8s (fill64 k) = u8s k ++ List.replicate (64 - k.length) (Value.int .u8 0) := by
    unfold u8s fill64
    rw [List.map_append, List.map_replicate]; rfl
  unfold Mem.splice
  rw [e, e2, u8s_length, List.take_zero, List.nil_append, List.drop_replicate, Nat.zero_add]
theorem at_sl {w : World} {b n : Nat} {l : List (BitVec 8)} {t : TypeId} (h : At w b (u8s l).toArray t) (hn : l.length = n) : Sl w (.slice (some ⟨b, 0, none⟩) n n) l := by
  subst hn
  refine ⟨_, _, rfl, Nat.le_refl _, fun _ => ⟨b, 0, rfl, h.lt, fun i hi => ?_⟩⟩
  rw [Nat.zero_add, h.cell, List.getElem?_toArray, u8s_get l i hi]
set_option maxRecDepth 100000 in
set_option maxHeartbeats 1000000 in
theorem key_any (k : List (BitVec 8)) (v : Value) (w : World) (hk : Sl w v k) (bk : k.length ≤ 1152921504606846975) (hL : Tabs w) :
    Calls Tryd.prog 15 #[v] w fun e w' => e = .returned (.agg (kyOf k)) ∧ Below w.heap.size w w' := by
  have HK := Lib.hid hk
  obtain ⟨a1, c1, rfl, hc1, _⟩ := hk
  obtain ⟨n, hn⟩ : ∃ n, n = k.length := ⟨_, rfl⟩
  have hz := zeroK
  obtain ⟨Z, hZ⟩ : ∃ Z, Z = ZT := ⟨_, rfl⟩
  rw [← hZ] at hz
  have hx := zero32
  obtain ⟨X, hX⟩ : ∃ X, X = Z32 := ⟨_, rfl⟩
  rw [← hX] at hx
  have hZs : Z.size = 64 := by rw [hZ]; exact ZT_size
  have hXs : X.size = 32 := by rw [hX]; simp [Z32, u8s]
  rw [← hn] at bk hc1 ⊢
  rw [← hn] at HK
  obtain ⟨F, hF⟩ : ∃ F, F = kyOf k := ⟨_, rfl⟩
  have hFs : F.size = 64 := by rw [hF]; exact kyOf_size k
  have hFo : F.all (·.oneCell') = true := by rw [hF]; exact kyOf_one k
  rw [← hF]
  have ZZ := Lib.hid hZ; have XX := Lib.hid hX; have ZS := Lib.hid hZs; have XS := Lib.hid hXs; have FF := Lib.hid hF; have FS := Lib.hid hFs; have FO := Lib.hid hFo; have HN := Lib.hid hn; have HL := Lib.hid hL
  clear hZ hX hZs hXs hF hFs hFo hn hL
  have aR : At ((w.alloc (.cells Z 28)).alloc (.cells Z 28)) w.heap.size Z 28 := (at_new w Z _).alloc _
  have aF : At ((w.alloc (.cells Z 28)).alloc (.cells Z 28)) (w.heap.size + 1) Z 28 := by
    have := at_new (w.alloc (.cells Z 28)) Z 28
    simpa using this
  have b1 : Below w.heap.size w ((w.alloc (.cells Z 28)).alloc (.cells Z 28)) := ((Below.refl _ _).alloc (Nat.le_refl _) _).alloc (by simp) _
  have AR := Lib.hid aR; have AF := Lib.hid aF; have B1 := Lib.hid b1
  clear aR aF b1
  by_cases h64 : 64 < n
  · have h64' : (64 : Int) < (n : Int) := by omega
    obtain ⟨G, hG⟩ : ∃ G, G = (u8s (digestOf k)).toArray := ⟨_, rfl⟩
    have hGs : G.size = 32 := by rw [hG]; simp [u8s, digestOf_length]
    have hGo : G.all (·.oneCell') = true := by rw [hG]; exact u8s_one _
    have hsum := fun (wx : World) (vx : Value) (hx : Sls wx vx [k]) (ht : Tabs wx) => sumAll_any [k] vx wx (by have := HN.out; simp; omega) (by simp) hx ht
    rw [show [k].flatten = k by simp, ← hG] at hsum
    have hsp : Mem.splice Z 0 (u8s ((digestOf k).take 32)) = F := by
      rw [List.take_of_length_le (by rw [digestOf_length]; exact Nat.le_refl _), ZZ.out, splice_fill, FF.out, kyOf, keyOf, if_pos (by rw [← HN.out]; exact h64)]
    have SP := Lib.hid hsp; have GG := Lib.hid hG; have GS := Lib.hid hGs; have GO := Lib.hid hGo; have SUM := Lib.hid hsum
    clear hsp hG hGs hGo hsum
    go_enter Tryd.func15, Tryd.ntmps15
    go_wp2_with fail
    have hs2 : ((w.alloc (.cells Z 28)).alloc (.cells Z 28)).heap.size = w.heap.size + 1 + 1 := by simp
    have sl := sls_lit1 (HK.out.below B1.out)
    rw [hs2] at sl
    have B2 : Hid (Below w.heap.size w (((w.alloc (.cells Z 28)).alloc (.cells Z 28)).alloc (.cells #[.slice a1 n c1] 22))) := B1.out.alloc B1.out.size _
    have R2 := Lib.hid (AR.out.alloc (.cells #[.slice a1 n c1] 22)); have F2 := Lib.hid (AF.out.alloc (.cells #[.slice a1 n c1] 22))
    refine (SUM.out _ _ sl (HL.out.below B2.out (Nat.le_refl _))).mono ?_
    rintro e w3 ⟨rfl, hb3⟩
    have R3 := Lib.hid (R2.out.below hb3 R2.out.lt); have F3 := Lib.hid (F2.out.below hb3 F2.out.lt); have B3 := Lib.hid (B2.out.trans (hb3.mono B2.out.size))
    clear hb3 sl hs2 B2 R2 F2
    go_wp2_with (first
      | (refine wpList_store_new (by rfl) 25 _ _ (by rfl) (by rfl) G _ _ (by rfl) (by rfl) (by rw [GS.out]; exact info32) (by rw [GS.out, XS.out]) GO.out ?_; have G4 := Lib.hid (at_new w3 G 25); have R4 := Lib.hid (R3.out.alloc (.cells G 25)); have F4 := Lib.hid (F3.out.alloc (.cells G 25)); have B4 := Lib.hid (B3.out.alloc B3.out.size (.cells G 25)); generalize w3.alloc (.cells G 25) = w4 at *; generalize w3.heap.size = bg at *)
      | (refine wpList_copy_sl (by rfl) _ _ (by rfl) (w.heap.size + 1) 0 64 64 (.slice (some ⟨bg, 0, none⟩) 32 32) (digestOf k) (by rfl) (by rfl) (at_sl (by have := G4.out; rw [GG.out] at this; exact this) (digestOf_length k)) 32 (by rw [digestOf_length]; rfl) Z 28 F4.out (by rw [ZS.out]; decide) F SP.out ?_; intro w5 a5 s5 o5 b5; have A5 := Lib.hid a5; have R5 := Lib.hid (at_keep R4.out o5 (by omega)); have B5 := Lib.hid (b5 _ _ B4.out (by omega)); clear a5 s5 o5 b5)
      | (refine wpList_load_all (by rfl) 28 _ (by rfl) (w.heap.size + 1) (by rfl) _ Tryd.underlying28 (by rfl) F _ A5.out (by rw [FS.out]; exact infoK) ?_)
      | (refine wpList_store_all (by rfl) 28 _ _ (by rfl) (by rfl) w.heap.size F (by rfl) (by rfl) (by rw [FS.out]; exact infoK) Z _ R5.out (by rw [FS.out, ZS.out]) FO.out ?_))
    try simp only [Exit.inBlock, Exit.then]
    refine ret_row (by rfl) w.heap.size 28 F _ (by rfl) (R5.out.row F) Tryd.underlying28 (by rfl) (by rw [FS.out]; exact infoK) ?_
    exact ⟨rfl, below_row B5.out (Nat.le_refl _) F⟩
  · have h64' : ¬ (64 : Int) < (n : Int) := by omega
    have hsp : Mem.splice Z 0 (u8s (k.take n)) = F := by
      rw [HN.out, List.take_length, ZZ.out, splice_fill, FF.out, kyOf, keyOf, if_neg (by rw [← HN.out]; exact h64)]
    have hmin : n = Nat.min k.length 64 := by rw [← HN.out]; exact (Nat.min_eq_left (by omega)).symm
    have hfit : 0 + n ≤ Z.size := by rw [ZS.out]; omega
    have SP := Lib.hid hsp; have MIN := Lib.hid hmin; have FIT := Lib.hid hfit
    clear hsp hmin hfit
    go_enter Tryd.func15, Tryd.ntmps15
    go_wp2_with (first
      | (refine wpList_copy_sl (by rfl) _ _ (by rfl) (w.heap.size + 1) 0 64 64 (.slice a1 n c1) k (by rfl) (by rfl) (HK.out.below B1.out) n MIN.out Z 28 AF.out FIT.out F SP.out ?_; intro w2 a2 s2 o2 b2; have A2 := Lib.hid a2; have R2 := Lib.hid (at_keep AR.out o2 (by omega)); have B2 := Lib.hid (b2 _ _ B1.out (by omega)); clear a2 s2 o2 b2)
      | (refine wpList_load_all (by rfl) 28 _ (by rfl) (w.heap.size + 1) (by rfl) _ Tryd.underlying28 (by rfl) F _ A2.out (by rw [FS.out]; exact infoK) ?_)
      | (refine wpList_store_all (by rfl) 28 _ _ (by rfl) (by rfl) w.heap.size F (by rfl) (by rfl) (by rw [FS.out]; exact infoK) Z _ R2.out (by rw [FS.out, ZS.out]) FO.out ?_))
    try simp only [Exit.inBlock, Exit.then]
    refine ret_row (by rfl) w.heap.size 28 F _ (by rfl) (R2.out.row F) Tryd.underlying28 (by rfl) (by rw [FS.out]; exact infoK) ?_
    exact ⟨rfl, below_row B2.out (Nat.le_refl _) F⟩
end Sha
end Go.Proofs.YtngegegomkclbaaDoor
