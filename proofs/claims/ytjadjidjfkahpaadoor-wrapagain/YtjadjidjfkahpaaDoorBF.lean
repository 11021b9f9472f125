/- Plain mathematics of macs (RFC 2104) on lists of bytes. The walk of a key of 64 bytes. The walk of the digest of a turned key and of parts behind it. The walks of a mac, and of whether one is right. Equal's walk. Check's walk. The document's key of 64 bytes, its turned bytes and its mac: their walks; they are the program's. | The document's mac: its walk; it is the program's. Plain mathematics of stretched keys (RFC 8018) on lists of bytes. | Join, and the document's: their walks. | The function literal that joins macs, and the walk over a block's macs. | A block of a stretched key: its walk. Block and Key: their walks. | Key: its walk. Package stretch: Key refuses. -/
import Derived.Test.YtjadjidjfkahpaaDoorBB
import Derived.Deep.DeepCutAuto
import Derived.Test.YtjadjidjfkahpaaDoorBA
import Derived.Test.YtjadjidjfkahpaaDoorBC
namespace Go.Proofs.YtjadjidjfkahpaaDoor
namespace Sha
open Go.RowKit Mem

/-- Filled up to 64 bytes with 0. -/
def fill64 (k : List (BitVec 8)) : List (BitVec 8) := k ++ List.replicate (64 - k.length) 0
def keyOf (k : List (BitVec 8)) : List (BitVec 8) := fill64 (if 64 < k.length then digestOf k else k)
def turned (k : List (BitVec 8)) (b : BitVec 8) : List (BitVec 8) := k.map (· ^^^ b)
def macOf (k m : List (BitVec 8)) : List (BitVec 8) := digestOf (turned (keyOf k) 92 ++ digestOf (turned (keyOf k) 54 ++ m))
theorem fill64_length (k : List (BitVec 8)) (h : k.length ≤ 64) : (fill64 k).length = 64 := by simp [fill64]; omega
theorem keyOf_length (k : List (BitVec 8)) : (keyOf k).length = 64 := by
  unfold keyOf
  split
  · exact fill64_length _ (by rw [digestOf_length]; omega)
  · exact fill64_length _ (by omega)
theorem turned_length (k : List (BitVec 8)) (b : BitVec 8) : (turned k b).length = k.length := by simp [turned]
theorem macOf_length (k m : List (BitVec 8)) : (macOf k m).length = 32 := digestOf_length _
theorem macOf_bounds (k m : List (BitVec 8)) (b : BitVec 8) : (turned (keyOf k) b ++ m).length = 64 + m.length := by rw [List.length_append, turned_length, keyOf_length]
/-- A key, and it with bytes 0 behind it, up to 64, are filled up to the same. -/
theorem keyOf_fill (k : List (BitVec 8)) (n : Nat) (h : k.length + n ≤ 64) : keyOf (k ++ List.replicate n 0) = keyOf k := by
  unfold keyOf
  rw [if_neg (by simp; omega), if_neg (by omega)]
  unfold fill64
  rw [List.append_assoc, List.replicate_append_replicate]
  congr 2
  simp; omega
/-! ### bytes as the model has them -/
/-- What differs in the first i places, gathered. -/
def unlike (l m : List (BitVec 8)) : Nat → BitVec 8
  | 0 => 0
  | i + 1 => unlike l m i ||| (l.getD i 0 ^^^ m.getD i 0)
theorem or_zero_iff (a b : BitVec 8) : a ||| b = 0 ↔ a = 0 ∧ b = 0 := by
  constructor
  · intro h
    have h1 : ∀ i : Nat, (a ||| b).getLsbD i = false := fun i => by rw [h]; simp
    constructor <;> (apply BitVec.eq_of_getLsbD_eq; intro i _; have := h1 i; simp at this; simp [this])
  · rintro ⟨rfl, rfl⟩; rfl
theorem unlike_zero (l m : List (BitVec 8)) : ∀ i, i ≤ l.length → i ≤ m.length → (unlike l m i = 0 ↔ l.take i = m.take i)
  | 0, _, _ => by simp [unlike]
  | i + 1, h1, h2 => by
    have e1 : l.getD i 0 = l[i] := by simp [show i < l.length by omega]
    have e2 : m.getD i 0 = m[i] := by simp [show i < m.length by omega]
    rw [unlike, or_zero_iff, unlike_zero l m i (by omega) (by omega), List.take_succ_eq_append_getElem (by omega), List.take_succ_eq_append_getElem (by omega), e1, e2]
    constructor
    · rintro ⟨h, hx⟩
      rw [h, BitVec.xor_eq_zero_iff.1 hx]
    · intro h
      have hl : (l.take i).length = (m.take i).length := by simp; omega
      obtain ⟨h3, h4⟩ := List.append_inj h hl
      refine ⟨h3, ?_⟩
      injection h4 with h4
      rw [h4]; simp
/-- The first i bytes turned. -/
def turnTo (k : List (BitVec 8)) (b : BitVec 8) (i : Nat) : List (BitVec 8) := (turned k b).take i ++ k.drop i
theorem turnTo_length (k : List (BitVec 8)) (b : BitVec 8) (i : Nat) : (turnTo k b i).length = k.length := by
  simp [turnTo, turned]; omega
theorem turnTo_zero (k : List (BitVec 8)) (b : BitVec 8) : turnTo k b 0 = k := by simp [turnTo]
theorem turnTo_all (k : List (BitVec 8)) (b : BitVec 8) : turnTo k b k.length = turned k b := by
  unfold turnTo
  rw [List.drop_length, List.append_nil, List.take_of_length_le (by rw [turned_length]; exact Nat.le_refl _)]
theorem turnTo_get (k : List (BitVec 8)) (b : BitVec 8) (i : Nat) (hi : i < k.length) : (turnTo k b i).getD i 0 = k.getD i 0 := by
  unfold turnTo
  rw [List.getD_eq_getElem?_getD, List.getD_eq_getElem?_getD, List.getElem?_append_right (by simp [turned]; omega)]
  simp [turned, Nat.min_eq_left (Nat.le_of_lt hi)]
theorem turnTo_set (k : List (BitVec 8)) (b : BitVec 8) (i : Nat) (hi : i < k.length) : (turnTo k b i).set i (k.getD i 0 ^^^ b) = turnTo k b (i + 1) := by
  have e2 : k.drop i = k.getD i 0 :: k.drop (i + 1) := by rw [List.drop_eq_getElem_cons hi]; simp [hi]
  have e3 : (turned k b).take (i + 1) = (turned k b).take i ++ [k.getD i 0 ^^^ b] := by
    rw [List.take_succ_eq_append_getElem (by rw [turned_length]; exact hi)]
    simp [turned, hi]
  unfold turnTo
  rw [e3, e2, List.set_append_right _ _ (by simp; omega)]
  simp [turned, Nat.min_eq_left (Nat.le_of_lt hi)]
end Sha
end Go.Proofs.YtjadjidjfkahpaaDoor
namespace Go.Proofs.YtjadjidjfkahpaaDoor
namespace Sha
open Go.RowKit Mem

theorem infoK : (Tryd.prog.info? 67).map (·.size) = some 64 := by kernel_rfl
theorem zeroK (w : World) : (zeroValue 67).run Tryd.prog w = .ok (.agg ZT) w := by kernel_rfl
/-- A key filled up, as a row. -/
def kyOf (k : List (BitVec 8)) : Array Value := (u8s (keyOf k)).toArray
theorem kyOf_size (k : List (BitVec 8)) : (kyOf k).size = 64 := by simp [kyOf, u8s, keyOf_length]
theorem kyOf_one (k : List (BitVec 8)) : (kyOf k).all (·.oneCell') = true := u8s_one _
theorem splice_fill (k : List (BitVec 8)) : Mem.splice ZT 0 (u8s k) = (u8s (fill64 k)).toArray := by
  have e : ZT.toList = List.replicate 64 (Value.int .u8 0) := by simp [ZT, u8s, zs64]
  have e2 : u8s (fill64 k) = u8s k ++ List.replicate (64 - k.length) (Value.int .u8 0) := by
    unfold u8s fill64
    rw [List.map_append, List.map_replicate]; rfl
  unfold Mem.splice
  rw [e, e2, u8s_length, List.take_zero, List.nil_append, List.drop_replicate, Nat.zero_add]
set_option maxRecDepth 100000 in
set_option maxHeartbeats 1000000 in
theorem key_any (k : List (BitVec 8)) (v : Value) (w : World) (hk : Sl w v k) (bk : k.length ≤ 1152921504606846975) (hL : Tabs w) :
    Calls Tryd.prog 30 #[v] w fun e w' => e = .returned (.agg (kyOf k)) ∧ Below w.heap.size w w' := by
  have HK := Lib.hid hk
  obtain ⟨a1, c1, rfl, hc1, _⟩ := hk
  obtain ⟨n, hn⟩ : ∃ n, n = k.length := ⟨_, rfl⟩
  have hz := zeroK
  obtain ⟨Z, hZ⟩ : ∃ Z, Z = ZT := ⟨_, rfl⟩
  rw [← hZ] at hz
  have hx := zero32
  obtain ⟨X, hX⟩ : ∃ X, X = Z32 := ⟨_, rfl⟩
  rw [← hX] at hx
  have hZs : Z.size = 64 := by rw [hZ]; exact ZT_size
  have hXs : X.size = 32 := by rw [hX]; simp [Z32, u8s]
  rw [← hn] at bk hc1 ⊢
  rw [← hn] at HK
  obtain ⟨F, hF⟩ : ∃ F, F = kyOf k := ⟨_, rfl⟩
  have hFs : F.size = 64 := by rw [hF]; exact kyOf_size k
  have hFo : F.all (·.oneCell') = true := by rw [hF]; exact kyOf_one k
  rw [← hF]
  have ZZ := Lib.hid hZ; have XX := Lib.hid hX; have ZS := Lib.hid hZs; have XS := Lib.hid hXs; have FF := Lib.hid hF; have FS := Lib.hid hFs; have FO := Lib.hid hFo; have HN := Lib.hid hn; have HL := Lib.hid hL
  clear hZ hX hZs hXs hF hFs hFo hn hL
  have aR : At ((w.alloc (.cells Z 67)).alloc (.cells Z 67)) w.heap.size Z 67 := (at_new w Z _).alloc _
  have aF : At ((w.alloc (.cells Z 67)).alloc (.cells Z 67)) (w.heap.size + 1) Z 67 := by
    have := at_new (w.alloc (.cells Z 67)) Z 67
    simpa using this
  have b1 : Below w.heap.size w ((w.alloc (.cells Z 67)).alloc (.cells Z 67)) := ((Below.refl _ _).alloc (Nat.le_refl _) _).alloc (by simp) _
  have AR := Lib.hid aR; have AF := Lib.hid aF; have B1 := Lib.hid b1
  clear aR aF b1
  by_cases h64 : 64 < n
  · have h64' : (64 : Int) < (n : Int) := by omega
    obtain ⟨G, hG⟩ : ∃ G, G = (u8s (digestOf k)).toArray := ⟨_, rfl⟩
    have hGs : G.size = 32 := by rw [hG]; simp [u8s, digestOf_length]
    have hGo : G.all (·.oneCell') = true := by rw [hG]; exact u8s_one _
    have hsum := fun (wx : World) (vx : Value) (hx : Sls wx vx [k]) (ht : Tabs wx) => sumAll_any [k] vx wx (by have := HN.out; simp; omega) (by simp) hx ht
    rw [show [k].flatten = k by simp, ← hG] at hsum
    have hsp : Mem.splice Z 0 (u8s ((digestOf k).take 32)) = F := by
      rw [List.take_of_length_le (by rw [digestOf_length]; exact Nat.le_refl _), ZZ.out, splice_fill, FF.out, kyOf, keyOf, if_pos (by rw [← HN.out]; exact h64)]
    have SP := Lib.hid hsp; have GG := Lib.hid hG; have GS := Lib.hid hGs; have GO := Lib.hid hGo; have SUM := Lib.hid hsum
    clear hsp hG hGs hGo hsum
    go_enter Tryd.func30, Tryd.ntmps30
    go_wp2_with fail
    have hs2 : ((w.alloc (.cells Z 67)).alloc (.cells Z 67)).heap.size = w.heap.size + 1 + 1 := by simp
    have sl := sls_lit1 (HK.out.below B1.out)
    rw [hs2] at sl
    have B2 : Hid (Below w.heap.size w (((w.alloc (.cells Z 67)).alloc (.cells Z 67)).alloc (.cells #[.slice a1 n c1] 22))) := B1.out.alloc B1.out.size _
    have R2 := Lib.hid (AR.out.alloc (.cells #[.slice a1 n c1] 22)); have F2 := Lib.hid (AF.out.alloc (.cells #[.slice a1 n c1] 22))
    refine (SUM.out _ _ sl (HL.out.below B2.out (Nat.le_refl _))).mono ?_
    rintro e w3 ⟨rfl, hb3⟩
    have R3 := Lib.hid (R2.out.below hb3 R2.out.lt); have F3 := Lib.hid (F2.out.below hb3 F2.out.lt); have B3 := Lib.hid (B2.out.trans (hb3.mono B2.out.size))
    clear hb3 sl hs2 B2 R2 F2
    go_wp2_with (first
      | (refine wpList_store_new (by rfl) 24 _ _ (by rfl) (by rfl) G _ _ (by rfl) (by rfl) (by rw [GS.out]; exact info32) (by rw [GS.out, XS.out]) GO.out ?_; have G4 := Lib.hid (at_new w3 G 24); have R4 := Lib.hid (R3.out.alloc (.cells G 24)); have F4 := Lib.hid (F3.out.alloc (.cells G 24)); have B4 := Lib.hid (B3.out.alloc B3.out.size (.cells G 24)); generalize w3.alloc (.cells G 24) = w4 at *; generalize w3.heap.size = bg at *)
      | (refine wpList_copy_sl (by rfl) _ _ (by rfl) (w.heap.size + 1) 0 64 64 (.slice (some ⟨bg, 0, none⟩) 32 32) (digestOf k) (by rfl) (by rfl) (at_sl (by have := G4.out; rw [GG.out] at this; exact this) (digestOf_length k)) 32 (by rw [digestOf_length]; rfl) Z 67 F4.out (by rw [ZS.out]; decide) F SP.out ?_; intro w5 a5 s5 o5 b5; have A5 := Lib.hid a5; have R5 := Lib.hid (at_keep R4.out o5 (by omega)); have B5 := Lib.hid (b5 _ _ B4.out (by omega)); clear a5 s5 o5 b5)
      | (refine wpList_load_all (by rfl) 67 _ (by rfl) (w.heap.size + 1) (by rfl) _ Tryd.underlying67 (by rfl) F _ A5.out (by rw [FS.out]; exact infoK) ?_)
      | (refine wpList_store_all (by rfl) 67 _ _ (by rfl) (by rfl) w.heap.size F (by rfl) (by rfl) (by rw [FS.out]; exact infoK) Z _ R5.out (by rw [FS.out, ZS.out]) FO.out ?_))
    try simp only [Exit.inBlock, Exit.then]
    refine ret_row (by rfl) w.heap.size 67 F _ (by rfl) (R5.out.row F) Tryd.underlying67 (by rfl) (by rw [FS.out]; exact infoK) ?_
    exact ⟨rfl, below_row B5.out (Nat.le_refl _) F⟩
  · have h64' : ¬ (64 : Int) < (n : Int) := by omega
    have hsp : Mem.splice Z 0 (u8s (k.take n)) = F := by
      rw [HN.out, List.take_length, ZZ.out, splice_fill, FF.out, kyOf, keyOf, if_neg (by rw [← HN.out]; exact h64)]
    have hmin : n = Nat.min k.length 64 := by rw [← HN.out]; exact (Nat.min_eq_left (by omega)).symm
    have hfit : 0 + n ≤ Z.size := by rw [ZS.out]; omega
    have SP := Lib.hid hsp; have MIN := Lib.hid hmin; have FIT := Lib.hid hfit
    clear hsp hmin hfit
    go_enter Tryd.func30, Tryd.ntmps30
    go_wp2_with (first
      | (refine wpList_copy_sl (by rfl) _ _ (by rfl) (w.heap.size + 1) 0 64 64 (.slice a1 n c1) k (by rfl) (by rfl) (HK.out.below B1.out) n MIN.out Z 67 AF.out FIT.out F SP.out ?_; intro w2 a2 s2 o2 b2; have A2 := Lib.hid a2; have R2 := Lib.hid (at_keep AR.out o2 (by omega)); have B2 := Lib.hid (b2 _ _ B1.out (by omega)); clear a2 s2 o2 b2)
      | (refine wpList_load_all (by rfl) 67 _ (by rfl) (w.heap.size + 1) (by rfl) _ Tryd.underlying67 (by rfl) F _ A2.out (by rw [FS.out]; exact infoK) ?_)
      | (refine wpList_store_all (by rfl) 67 _ _ (by rfl) (by rfl) w.heap.size F (by rfl) (by rfl) (by rw [FS.out]; exact infoK) Z _ R2.out (by rw [FS.out, ZS.out]) FO.out ?_))
    try simp only [Exit.inBlock, Exit.then]
    refine ret_row (by rfl) w.heap.size 67 F _ (by rfl) (R2.out.row F) Tryd.underlying67 (by rfl) (by rw [FS.out]; exact infoK) ?_
    exact ⟨rfl, below_row B2.out (Nat.le_refl _) F⟩
end Sha
end Go.Proofs.YtjadjidjfkahpaaDoor
namespace Go.Proofs.YtjadjidjfkahpaaDoor
namespace Sha
open Go.RowKit Mem

structure TInv (K : List (BitVec 8)) (B : Nat) (w wr : World) : Prop where
  k : At wr B (u8s K).toArray 67
  r : At wr (B + 1) Z32 24
  b : Below B w wr
/-- One variable that was made, and holds these cells. -/
def OneAt (w : World) (C : Array Value) (t : TypeId) (x : Value) (wr : World) : Prop := ∃ b, x = .pointer (some ⟨b, 0, none⟩) ∧ w.heap.size ≤ b ∧ At wr b C t ∧ Below w.heap.size w wr
structure UInv (C : Array Value) (Bs B : Nat) (w wr : World) : Prop where
  s : At wr Bs C 81
  r : At wr (B + 1) Z32 24
  b : Below B w wr
set_option maxRecDepth 100000 in
set_option maxHeartbeats 1000000 in
theorem tsum_any (K : List (BitVec 8)) (hK : K.length = 64) (y : BitVec 8) (ps : List (List (BitVec 8))) (v : Value) (w : World) (hN : ps.flatten.length ≤ 576460752303423487) (hp : ps.length ≤ 9223372036854775806) (hv : Sls w v ps) (hL : Tabs w) :
    Calls Tryd.prog 31 #[.agg (u8s K).toArray, .int .u8 (B8 y), v] w fun e w' => e = .returned (.agg (dgOf (turned K y ++ ps.flatten))) ∧ Below w.heap.size w w' := by
  have HV := Lib.hid hv
  obtain ⟨a, cap, rfl, hcap, hcells⟩ := hv
  obtain ⟨m, hm⟩ : ∃ m, m = ps.length := ⟨_, rfl⟩
  rw [← hm] at hcap hp ⊢
  obtain ⟨C, hC⟩ : ∃ C, C = (u8s K).toArray := ⟨_, rfl⟩
  obtain ⟨X, hX⟩ : ∃ X, X = Z32 := ⟨_, rfl⟩
  have hx := zero32
  rw [← hX] at hx
  have hXs : X.size = 32 := by rw [hX]; simp [Z32, u8s]
  have hI : TInv (turnTo K y 0) w.heap.size w ((w.alloc (.cells C 67)).alloc (.cells X 24)) := by
    refine ⟨by rw [turnTo_zero, ← hC]; exact (at_new w C _).alloc _, ?_, ((Below.refl _ _).alloc (Nat.le_refl _) _).alloc (by simp) _⟩
    have := at_new (w.alloc (.cells C 67)) X 24
    rw [← hX]
    simpa using this
  rw [← hC]
  have HI := Lib.hid hI; have HC := Lib.hid hC; have HX := Lib.hid hX; have XS := Lib.hid hXs; have HM := Lib.hid hm; have HK := Lib.hid hK; have HL := Lib.hid hL; have HCE := Lib.hid hcells; have HN := Lib.hid hN
  clear hI hC hX hXs hm hK hL hcells hN
  go_enter Tryd.func31, Tryd.ntmps31
  go_wp2_with fail
  generalize (w.alloc (.cells C 67)).alloc (.cells X 24) = w2 at *
  go_loopw [11] (fun i wr => ∃ j : Nat, j ≤ 64 ∧ i = .int .i64 j ∧ TInv (turnTo K y j) w.heap.size w wr) (fun i _ => 64 - (intOf i).toNat)
  case atStart => exact ⟨0, by omega, rfl, HI.out⟩
  case round =>
    obtain ⟨j, hj, rfl, hI⟩ := hrel
    by_cases hlt : j < 64
    · have hjK : j < K.length := by rw [HK.out]; exact hlt
      have hk := hI.k
      obtain ⟨D, hD⟩ : ∃ D, D = (u8s (turnTo K y j)).toArray := ⟨_, rfl⟩
      obtain ⟨x, hxx⟩ : ∃ x, x = K.getD j 0 := ⟨_, rfl⟩
      have hset : D.setIfInBounds j (.int .u8 (B8 (x ^^^ y))) = (u8s (turnTo K y (j + 1))).toArray := by
        rw [hD, ← turnTo_set K y j hjK, ← hxx]; exact u8s_set _ _ _
      have cj : wr.cell? ⟨w.heap.size, j, none⟩ = some (.int .u8 (B8 x)) := by
        rw [hk.cell, List.getElem?_toArray, u8s_get _ _ (by rw [turnTo_length]; exact hjK), turnTo_get K y j hjK, hxx]; rfl
      rw [← hD] at hk
      have hDs : j < D.size := by rw [hD]; simp [u8s, turnTo_length]; exact hjK
      have KK := Lib.hid hk; have ST := Lib.hid hset; have DS := Lib.hid hDs; have II := Lib.hid hI
      clear hk hset hDs hI hD hxx hjK
      go_wp2_with (refine Mem.wpList_store_one (by rfl) 5 _ _ (by rfl) (by rfl) w.heap.size j (.int .u8 (B8 (x ^^^ y))) (by rfl) (by exact congrArg (Value.int .u8) (B8_xor x y)) (by rfl) infoB _ _ KK.out DS.out ?_; intro w4 a4 o4 b4; have A4 := Lib.hid a4; have R4 := Lib.hid (at_keep II.out.r o4 (by omega)); have B4 := Lib.hid (b4 _ _ II.out.b (Nat.le_refl _)); clear a4 o4 b4)
      go_roundw
      case rel => exact ⟨j + 1, by omega, by go_num, by rw [← ST.out]; exact A4.out, R4.out, B4.out⟩
      case measure => simp [intOf]; omega
    · have hj64 : j = 64 := by omega
      have hall : turnTo K y j = turned K y := by rw [hj64, ← HK.out]; exact turnTo_all K y
      rw [hall] at hI
      have hge : ¬ (j : Int) < 64 := by omega
      obtain ⟨T, hT⟩ : ∃ T, T = turned K y := ⟨_, rfl⟩
      have hTl : T.length = 64 := by rw [hT, turned_length, HK.out]
      rw [← hT] at hI
      have TT := Lib.hid hT; have TL := Lib.hid hTl; have II := Lib.hid hI
      clear hT hTl hI hall hj64 hlt hj
      go_wp2_with fail
      have TSl : Hid (∀ wx, Below wr.heap.size wr wx → Sl wx (.slice (some ⟨w.heap.size, 0, none⟩) 64 64) T) := fun wx hb => at_sl (II.out.k.below hb II.out.k.lt) TL.out
      go_cut [8] (fun x wx => OneAt wr (stOf T) 81 x wx)
      case first =>
        have ALL := Lib.hid run_allocSt
        have hw := fun (wx : World) (hx : Sl wx (.slice (some ⟨w.heap.size, 0, none⟩) 64 64) T) (ht : Tabs wx) => stWrite [] T (.slice (some ⟨w.heap.size, 0, none⟩) 64 64) wx (by rw [TL.out]; simp) hx ht
        rw [List.nil_append] at hw
        have hn : ∀ wx : World, Calls Tryd.prog 43 #[] wx fun e w' => e = .returned (.agg (stOf [])) ∧ Below wx.heap.size wx w' := fun wx => new_any wx
        obtain ⟨S0, hS0⟩ : ∃ S0, S0 = stOf [] := ⟨_, rfl⟩
        obtain ⟨S1, hS1⟩ : ∃ S1, S1 = stOf T := ⟨_, rfl⟩
        obtain ⟨Z, hZ⟩ : ∃ Z, Z = Zst := ⟨_, rfl⟩
        rw [← hS0] at hn hw
        rw [← hS1] at hw
        have KS1 := Lib.hid hS1
        have S1S : Hid (S1.size = 73) := by rw [hS1]; exact stOf_size _
        have S1O : Hid (S1.all (·.oneCell') = true) := by rw [hS1]; exact stOf_one _
        have ZS : Hid (Z.size = 73) := by rw [hZ]; exact Zst_size
        rw [← hZ] at ALL
        have HW := Lib.hid hw; have HNEW := Lib.hid hn
        clear hw hn hS0 hS1 hZ hx
        refine wp_region_plan (.take 1 (.two 0 3 (.two 2 3 (.sole 3 (.sole 4 .done)) (.sole 2 (.sole 4 .done))) (.sole 0 (.sole 2 (.sole 4 .done))))) (by kernel_rfl) (by kernel_rfl) (by kernel_rfl) ?_
        refine plan_cut _ _ 64 5 w.heap.size 0 (by rfl) (by rfl) (by rfl) (by first | (with_reducible exact Mem.ev_const _ _) | (with_reducible exact Mem.ev_zero _ _ _) | (with_reducible (apply Eq.trans (Mem.ev_tmp _ _ _)); simp only [List.getD_cons_succ, List.getD_cons_zero] <;> rfl)) Tryd.underlying67 infoB ?_
        (simp only [Act.put, List.setIfInBounds_toArray, List.set_cons_zero, List.set_cons_succ])
        have B : Hid (Below wr.heap.size wr wr.drew) := (Below.refl _ _).drew
        generalize wr.drew = W at *
        repeat' (first
          | (refine plan_two ?_ ?_)
          | (refine plan_call (i := 0) 43 _ _ #[] (by kernel_rfl) (by rfl) (by rfl) (by rfl) (by first | exact Mem.ev_none _ | (simp only [List.map_toArray, List.map_cons, List.map_nil, Mem.ev_tmp, List.getD_cons_succ, List.getD_cons_zero] <;> rfl)) ?_
             refine (HNEW.out _).mono ?_
             rintro e W ⟨rfl, hbn⟩
             have B := Lib.hid (B.out.trans (hbn.mono B.out.size))
             (try (have A8 := Lib.hid (A8.out.below hbn A8.out.lt)))
             clear hbn
             refine ⟨_, rfl, B.out, ?_⟩
             (simp only [Act.put, List.setIfInBounds_toArray, List.set_cons_zero, List.set_cons_succ]))
          | (refine plan_call (i := 2) 44 _ _ #[.agg S0, .slice (some ⟨w.heap.size, 0, none⟩) 64 64] (by kernel_rfl) (by rfl) (by rfl) (by rfl) (by first | exact Mem.ev_none _ | (simp only [List.map_toArray, List.map_cons, List.map_nil, Mem.ev_tmp, List.getD_cons_succ, List.getD_cons_zero] <;> rfl)) ?_
             refine (HW.out _ (TSl.out _ B.out) (HL.out.below (II.out.b.trans (B.out.mono II.out.b.size)) (Nat.le_refl _))).mono ?_
             rintro e W ⟨rfl, hbn⟩
             have B := Lib.hid (B.out.trans (hbn.mono B.out.size))
             (try (have A8 := Lib.hid (A8.out.below hbn A8.out.lt)))
             clear hbn
             refine ⟨_, rfl, B.out, ?_⟩
             (simp only [Act.put, List.setIfInBounds_toArray, List.set_cons_zero, List.set_cons_succ]))
          | (refine plan_alloc_any (i := 3) 81 Z (by rfl) (by rfl) (by rfl) ALL.out (fun W' h => h _ _ B.out B.out.size) ?_
             intro b8 W ha hlo _ hbb
             have LO8 := Lib.hid (Nat.le_trans B.out.size hlo)
             have B := Lib.hid (hbb _ _ B.out B.out.size)
             have A8 := Lib.hid ha
             clear ha hlo hbb
             (simp only [Act.put, List.setIfInBounds_toArray, List.set_cons_zero, List.set_cons_succ]))
          | (refine plan_store_any (i := 4) 81 _ _ b8 S1 Z 81 (by rfl) (by rfl) (by rfl) (by rfl) (by rfl) (by rfl) (by rw [S1S.out]; exact infoSt) A8.out (by rw [S1S.out, ZS.out]) S1O.out (fun W' h => h _ _ B.out LO8.out) ?_
             intro W ha _ hbb
             have B := Lib.hid (hbb _ _ B.out LO8.out)
             have A8 := Lib.hid ha
             clear ha hbb))
        all_goals (refine plan_nil ?_; go_wp2_with fail; go_meet; exact ⟨b8, rfl, LO8.out, by have h := A8.out; rw [KS1.out] at h; exact h, B.out⟩)
      case rest =>
        obtain ⟨Bs, rfl, hlo, hs, hb⟩ := hcut
        have hlo' : w.heap.size + 1 < Bs := Nat.lt_of_lt_of_le II.out.r.lt hlo
        have i0 : UInv (stOf (T ++ (ps.take 0).flatten)) Bs w.heap.size w wc := by
          rw [List.take_zero, List.flatten_nil, List.append_nil]
          exact ⟨hs, II.out.r.below hb II.out.r.lt, II.out.b.trans (hb.mono II.out.b.size)⟩
        have I0 := Lib.hid i0; have LO := Lib.hid hlo'
        clear i0 hlo' hs hb hlo
        generalize wc = w5 at *
        go_wp2_with fail
        go_loopw [26] (fun i wr => ∃ j : Nat, j ≤ m ∧ i = .int .i64 j ∧ UInv (stOf (T ++ (ps.take j).flatten)) Bs w.heap.size w wr) (fun i _ => m - (intOf i).toNat)
        case atStart => exact ⟨0, by omega, rfl, I0.out⟩
        case round =>
          obtain ⟨j, hj, rfl, hI⟩ := hrel
          by_cases hlt : j < m
          · obtain ⟨pb, po, ha, hpb, hpc⟩ := HCE.out (by intro e; have := HM.out; rw [e] at this; simp at this; omega)
            subst ha
            obtain ⟨vi, hvi, hsl⟩ := hpc j (by rw [← HM.out]; exact hlt)
            have cv : wr.cell? ⟨pb, po + j, none⟩ = some vi := by rw [hI.b.cell (p := ⟨pb, po + j, none⟩) hpb]; exact hvi
            have hft := flat_take ps j (by rw [← HM.out]; exact hlt)
            have hle := flat_take_le ps (j + 1)
            rw [hft, List.length_append] at hle
            have hcall := stWrite (T ++ (ps.take j).flatten) (ps.getD j []) vi wr (by rw [List.length_append, TL.out]; have := HN.out; omega) (hsl.below hI.b) (HL.out.below hI.b (Nat.le_refl _))
            rw [List.append_assoc, ← hft] at hcall
            obtain ⟨R, hR⟩ : ∃ R, R = stOf (T ++ (ps.take j).flatten) := ⟨_, rfl⟩
            obtain ⟨E, hE⟩ : ∃ E, E = stOf (T ++ (ps.take (j + 1)).flatten) := ⟨_, rfl⟩
            have hc := hI.s
            rw [← hR] at hcall hc
            rw [← hE] at hcall
            have hRs : R.size = 73 := by rw [hR]; exact stOf_size _
            have hEs : E.size = 73 := by rw [hE]; exact stOf_size _
            have hEo : E.all (·.oneCell') = true := by rw [hE]; exact stOf_one _
            have HRC := Lib.hid hc; have RS := Lib.hid hRs; have ES := Lib.hid hEs; have EO := Lib.hid hEo; have HCALL := Lib.hid hcall; have KE := Lib.hid hE; have HI := Lib.hid hI
            clear hc hRs hEs hEo hcall hE hI hR hft hle hpc hsl hvi
            go_wp2_with (first | (refine wpList_load_all (by rfl) 81 _ (by rfl) Bs (by rfl) _ Tryd.underlying81 (by rfl) R _ HRC.out (by rw [RS.out]; exact infoSt) ?_) | (go_at_call 44; refine HCALL.out.mono ?_; rintro e w6 ⟨rfl, hb6⟩; have C6 := Lib.hid (HRC.out.below hb6 HRC.out.lt); have HB6 := Lib.hid hb6; clear hb6) | (refine wpList_store_all (by rfl) 81 _ _ (by rfl) (by rfl) Bs E (by rfl) (by rfl) (by rw [ES.out]; exact infoSt) R _ C6.out (by rw [ES.out, RS.out]) EO.out ?_))
            go_roundw
            case rel =>
              have hlo := LO.out
              have r6 := HI.out.r.below HB6.out HI.out.r.lt
              have b6 := HI.out.b.trans (HB6.out.mono HI.out.b.size)
              exact ⟨j + 1, by omega, by go_num, by rw [← KE.out]; exact C6.out.row E, r6.row_other E (by omega), below_row b6 (by omega) E⟩
            case measure => simp [intOf]; omega
          · have hjm : j = m := by omega
            have hfl : ps.take j = ps := List.take_of_length_le (by rw [hjm, HM.out]; exact Nat.le_refl _)
            rw [hfl] at hI
            have hge : ¬ (j : Int) < (m : Int) := by omega
            have hcall := stSum (T ++ ps.flatten) wr (by rw [List.length_append, TL.out]; have := HN.out; omega) (HL.out.below hI.b (Nat.le_refl _))
            obtain ⟨R, hR⟩ : ∃ R, R = stOf (T ++ ps.flatten) := ⟨_, rfl⟩
            obtain ⟨G, hG⟩ : ∃ G, G = dgOf (T ++ ps.flatten) := ⟨_, rfl⟩
            have hc := hI.s
            rw [← hR] at hcall hc
            rw [← hG] at hcall
            have hRs : R.size = 73 := by rw [hR]; exact stOf_size _
            have hGs : G.size = 32 := by rw [hG]; exact dgOf_size _
            have hGo : G.all (·.oneCell') = true := by rw [hG]; exact dgOf_one _
            have hfin : dgOf (turned K y ++ ps.flatten) = G := by rw [hG, TT.out]
            have HRC := Lib.hid hc; have RS := Lib.hid hRs; have GS := Lib.hid hGs; have GO := Lib.hid hGo; have HCALL := Lib.hid hcall; have FIN := Lib.hid hfin; have HI := Lib.hid hI
            clear hc hRs hGs hGo hcall hfin hI hR hG hfl hjm hlt hj
            go_wp2_with (first | (refine wpList_load_all (by rfl) 81 _ (by rfl) Bs (by rfl) _ Tryd.underlying81 (by rfl) R _ HRC.out (by rw [RS.out]; exact infoSt) ?_) | (go_at_call 45; refine HCALL.out.mono ?_; rintro e w6 ⟨rfl, hb6⟩; have R6 := Lib.hid (HI.out.r.below hb6 HI.out.r.lt); have B6 := Lib.hid (HI.out.b.trans (hb6.mono HI.out.b.size)); clear hb6) | (refine wpList_store_all (by rfl) 24 _ _ (by rfl) (by rfl) (w.heap.size + 1) G (by rfl) (by rfl) (by rw [GS.out]; exact info32) _ _ R6.out (by rw [GS.out]; simp [Z32, u8s]) GO.out ?_))
            try simp only [Exit.inBlock, Exit.then]
            refine ret_row (by rfl) (w.heap.size + 1) 24 G _ (by rfl) (R6.out.row G) Tryd.underlying24 (by rfl) (by rw [GS.out]; exact info32) ?_
            exact ⟨by rw [FIN.out], below_row B6.out (by omega) G⟩
end Sha
end Go.Proofs.YtjadjidjfkahpaaDoor
namespace Go.Proofs.YtjadjidjfkahpaaDoor
namespace Sha
open Go.RowKit Mem

def mcOf (k m : List (BitVec 8)) : Array Value := (u8s (macOf k m)).toArray
theorem mcOf_size (k m : List (BitVec 8)) : (mcOf k m).size = 32 := by simp [mcOf, u8s, macOf_length]
theorem mcOf_one (k m : List (BitVec 8)) : (mcOf k m).all (·.oneCell') = true := u8s_one _
set_option maxRecDepth 100000 in
set_option maxHeartbeats 1000000 in
theorem mac_any (k : List (BitVec 8)) (ps : List (List (BitVec 8))) (vk vp : Value) (w : World) (hk : Sl w vk k) (hv : Sls w vp ps) (bk : k.length ≤ 1152921504606846975) (hN : ps.flatten.length ≤ 576460752303423487) (hp : ps.length ≤ 9223372036854775806) (hL : Tabs w) :
    Calls Tryd.prog 19 #[vk, vp] w fun e w' => e = .returned (.agg (mcOf k ps.flatten)) ∧ Below w.heap.size w w' := by
  have hx := zero32
  obtain ⟨X, hX⟩ : ∃ X, X = Z32 := ⟨_, rfl⟩
  rw [← hX] at hx
  have hz := zeroK
  obtain ⟨Z, hZ⟩ : ∃ Z, Z = ZT := ⟨_, rfl⟩
  rw [← hZ] at hz
  have hXs : X.size = 32 := by rw [hX]; simp [Z32, u8s]
  have hZs : Z.size = 64 := by rw [hZ]; exact ZT_size
  have hkey := fun (wx : World) (h1 : Sl wx vk k) (ht : Tabs wx) => key_any k vk wx h1 bk ht
  have hin := fun (wx : World) (h1 : Sls wx vp ps) (ht : Tabs wx) => tsum_any (keyOf k) (keyOf_length k) 54 ps vp wx hN hp h1 ht
  have hout := fun (wx : World) (vx : Value) (h1 : Sls wx vx [digestOf (turned (keyOf k) 54 ++ ps.flatten)]) (ht : Tabs wx) => tsum_any (keyOf k) (keyOf_length k) 92 _ vx wx (by simp [digestOf_length]) (by simp) h1 ht
  rw [show [digestOf (turned (keyOf k) 54 ++ ps.flatten)].flatten = digestOf (turned (keyOf k) 54 ++ ps.flatten) by simp] at hout
  obtain ⟨F, hF⟩ : ∃ F, F = kyOf k := ⟨_, rfl⟩
  have eF : (u8s (keyOf k)).toArray = F := by rw [hF]; rfl
  obtain ⟨I, hI⟩ : ∃ I, I = digestOf (turned (keyOf k) 54 ++ ps.flatten) := ⟨_, rfl⟩
  obtain ⟨G, hG⟩ : ∃ G, G = dgOf (turned (keyOf k) 54 ++ ps.flatten) := ⟨_, rfl⟩
  obtain ⟨M, hM⟩ : ∃ M, M = mcOf k ps.flatten := ⟨_, rfl⟩
  have hMs : M.size = 32 := by rw [hM]; exact mcOf_size _ _
  have hMo : M.all (·.oneCell') = true := by rw [hM]; exact mcOf_one _ _
  have eM : dgOf (turned (keyOf k) 92 ++ I) = M := by rw [hM, hI]; rfl
  have eG : G = (u8s I).toArray := by rw [hG, hI]; rfl
  have hIl : I.length = 32 := by rw [hI]; exact digestOf_length _
  rw [← hF] at hkey
  rw [eF, ← hG] at hin
  rw [eF, ← hI, eM] at hout
  rw [← hM]
  have hFs : F.size = 64 := by rw [hF]; exact kyOf_size k
  have hFo : F.all (·.oneCell') = true := by rw [hF]; exact kyOf_one k
  have hGs : G.size = 32 := by rw [hG]; exact dgOf_size _
  have hGo : G.all (·.oneCell') = true := by rw [hG]; exact dgOf_one _
  have e92 : B8 92 = 92 := by decide
  have e54 : B8 54 = 54 := by decide
  rw [e54] at hin
  rw [e92] at hout
  have KEY := Lib.hid hkey; have IN := Lib.hid hin; have OUT := Lib.hid hout; have HK := Lib.hid hk; have HV := Lib.hid hv; have HL := Lib.hid hL
  have XS := Lib.hid hXs; have ZS := Lib.hid hZs; have FS := Lib.hid hFs; have FO := Lib.hid hFo; have GS := Lib.hid hGs; have GO := Lib.hid hGo; have MS := Lib.hid hMs; have MO := Lib.hid hMo; have EG := Lib.hid eG; have IL := Lib.hid hIl
  have R1 := Lib.hid (at_new w X 24); have B1 := Lib.hid ((Below.refl w.heap.size w).alloc (Nat.le_refl _) (.cells X 24))
  clear hkey hin hout hk hv hL hXs hZs hFs hFo hGs hGo hMs hMo eG eF eM e92 e54 hX hZ hF hI hG hM hIl bk hN hp
  go_enter Tryd.func19, Tryd.ntmps19
  go_wp2_with (first
    | (go_at_call 30; refine (KEY.out _ (HK.out.below B1.out) (HL.out.below B1.out (Nat.le_refl _))).mono ?_; rintro e w2 ⟨rfl, hb2⟩; have R2 := Lib.hid (R1.out.below hb2 R1.out.lt); have B2 := Lib.hid (B1.out.trans (hb2.mono B1.out.size)); clear hb2)
    | (refine wpList_store_new (by rfl) 67 _ _ (by rfl) (by rfl) F _ _ (by rfl) (by rfl) (by rw [FS.out]; exact infoK) (by rw [FS.out, ZS.out]) FO.out ?_; have F3 := Lib.hid (at_new w2 F 67); have R3 := Lib.hid (R2.out.alloc (.cells F 67)); have B3 := Lib.hid (B2.out.alloc B2.out.size (.cells F 67)); have NF := Lib.hid (Nat.ne_of_gt R2.out.lt); generalize w2.alloc (.cells F 67) = w3 at *; generalize w2.heap.size = bf at *)
    | (refine wpList_load_all (by rfl) 67 _ (by rfl) bf (by rfl) _ Tryd.underlying67 (by rfl) F _ F3.out (by rw [FS.out]; exact infoK) ?_)
    | (go_at_call 31; refine (IN.out _ (HV.out.below B3.out) (HL.out.below B3.out (Nat.le_refl _))).mono ?_; rintro e w4 ⟨rfl, hb4⟩; have R4 := Lib.hid (R3.out.below hb4 R3.out.lt); have F4 := Lib.hid (F3.out.below hb4 F3.out.lt); have B4 := Lib.hid (B3.out.trans (hb4.mono B3.out.size)); clear hb4)
    | (refine wpList_store_new (by rfl) 24 _ _ (by rfl) (by rfl) G _ _ (by rfl) (by rfl) (by rw [GS.out]; exact info32) (by rw [GS.out, XS.out]) GO.out ?_; have G5 := Lib.hid (at_new w4 G 24); have F5 := Lib.hid (F4.out.alloc (.cells G 24)); have R5 := Lib.hid (R4.out.alloc (.cells G 24)); have B5 := Lib.hid (B4.out.alloc B4.out.size (.cells G 24)); have NG := Lib.hid (Nat.ne_of_gt R4.out.lt); generalize w4.alloc (.cells G 24) = w5 at *; generalize w4.heap.size = bg at *))
  refine wp_region_plan_in (fun w' => But w.heap.size w5 w') (.take 0 (.take 1 (.sole 2 (.sole 3 (.sole 4 .done))))) (by kernel_rfl) (by kernel_rfl) (by kernel_rfl) ⟨Nat.le_refl _, fun _ _ _ => rfl⟩ ?_
  refine plan_row 67 _ bf _ F 67 (by rfl) (by rfl) (by rfl) (by first | (with_reducible exact Mem.ev_const _ _) | (with_reducible exact Mem.ev_zero _ _ _) | (with_reducible (apply Eq.trans (Mem.ev_tmp _ _ _)); simp only [List.getD_cons_succ, List.getD_cons_zero] <;> rfl)) (fun w' hw' => F5.out.but hw' NF.out) Tryd.underlying67 (by rfl) (by rw [FS.out]; exact infoK) ?_
  (simp only [Act.put, List.setIfInBounds_toArray, List.set_cons_zero, List.set_cons_succ])
  refine plan_cut _ _ 32 5 bg 0 (by rfl) (by rfl) (by rfl) (by first | (with_reducible exact Mem.ev_const _ _) | (with_reducible exact Mem.ev_zero _ _ _) | (with_reducible (apply Eq.trans (Mem.ev_tmp _ _ _)); simp only [List.getD_cons_succ, List.getD_cons_zero] <;> rfl)) Tryd.underlying24 infoB ?_
  (simp only [Act.put, List.setIfInBounds_toArray, List.set_cons_zero, List.set_cons_succ])
  have B : Hid (Below w5.heap.size w5 w5.drew) := (Below.refl _ _).drew
  have sg : Hid (Sl w5.drew (.slice (some ⟨bg, 0, none⟩) 32 32) I) := at_sl (by have := G5.out; rw [EG.out] at this; exact this) IL.out
  generalize w5.drew = W at *
  refine plan_slice 52 22 1 _ #[.slice (some ⟨bg, 0, none⟩) 32 32] (by rfl) (by rfl) (by rfl) Tryd.underlying52 (by kernel_rfl) ((But.refl _ _).below (B.out.alloc B.out.size _)) ?_
  have SLS := Lib.hid (sls_lit1 sg.out)
  have B := Lib.hid (B.out.alloc B.out.size (.cells #[.slice (some ⟨bg, 0, none⟩) 32 32] 22))
  (simp only [Act.put, List.setIfInBounds_toArray, List.set_cons_zero, List.set_cons_succ])
  refine plan_call 31 _ _ _ (by kernel_rfl) (by rfl) (by rfl) (by rfl) (by first | exact Mem.ev_none _ | (simp only [List.map_toArray, List.map_cons, List.map_nil, Mem.ev_tmp, List.getD_cons_succ, List.getD_cons_zero] <;> rfl)) ?_
  refine (OUT.out _ _ SLS.out (HL.out.below (B5.out.trans (B.out.mono B5.out.size)) (Nat.le_refl _))).mono ?_
  rintro e W ⟨rfl, hbn⟩
  have B := Lib.hid (B.out.trans (hbn.mono B.out.size))
  clear hbn
  refine ⟨_, rfl, (But.refl _ _).below B.out, ?_⟩
  (simp only [Act.put, List.setIfInBounds_toArray, List.set_cons_zero, List.set_cons_succ])
  refine plan_store 24 _ _ w.heap.size M X 24 (by rfl) (by rfl) (by rfl) (by rfl) (by first | (with_reducible exact Mem.ev_const _ _) | (with_reducible exact Mem.ev_zero _ _ _) | (with_reducible (apply Eq.trans (Mem.ev_tmp _ _ _)); simp only [List.getD_cons_succ, List.getD_cons_zero] <;> rfl)) (by first | (with_reducible exact Mem.ev_const _ _) | (with_reducible exact Mem.ev_zero _ _ _) | (with_reducible (apply Eq.trans (Mem.ev_tmp _ _ _)); simp only [List.getD_cons_succ, List.getD_cons_zero] <;> rfl)) (by rw [MS.out]; exact info32) (R5.out.below B.out R5.out.lt) (by rw [MS.out, XS.out]) MO.out (((But.refl _ _).below B.out).row (by simp) (fun k hk => setRow_other _ _ _ _ hk)) ?_
  refine plan_nil ?_
  go_wp2_with fail
  try simp only [Exit.inBlock, Exit.then]
  refine ret_row (by rfl) w.heap.size 24 M _ (by rfl) ((R5.out.below B.out R5.out.lt).row M) Tryd.underlying24 (by rfl) (by rw [MS.out]; exact info32) ?_
  exact ⟨rfl, below_row (B5.out.trans (B.out.mono B5.out.size)) (Nat.le_refl _) M⟩
end Sha
end Go.Proofs.YtjadjidjfkahpaaDoor
namespace Go.Proofs.YtjadjidjfkahpaaDoor
namespace Sha
open Go.RowKit Mem
theorem sameB_unlike (l m : List (BitVec 8)) (h : l.length = m.length) : (B8 (unlike l m l.length) == 0) = sameB l m := by
  rw [B8_eq]
  unfold sameB
  rw [Bool.eq_iff_iff, beq_iff_eq, beq_iff_eq, unlike_zero l m _ (Nat.le_refl _) (by omega), List.take_length, h, List.take_length]
set_option maxRecDepth 100000 in
set_option maxHeartbeats 1000000 in
theorem equal_any (l m : List (BitVec 8)) (vl vm : Value) (w : World) (hl : Sl w vl l) (hm : Sl w vm m) (_bl : l.length ≤ 9223372036854775807) (bm : m.length ≤ 9223372036854775807) :
    Calls Tryd.prog 39 #[vl, vm] w fun e w' => e = .returned (.bool (sameB l m)) ∧ w = w' := by
  have hl0 := hl
  have hm0 := hm
  obtain ⟨a1, c1, rfl, hc1, _⟩ := hl
  obtain ⟨a2, c2, rfl, hc2, _⟩ := hm
  obtain ⟨n, hn⟩ : ∃ n, n = l.length := ⟨_, rfl⟩
  obtain ⟨k, hk⟩ : ∃ k, k = m.length := ⟨_, rfl⟩
  have HL := Lib.hid hl0; have HM := Lib.hid hm0
  clear hl0 hm0
  by_cases hne : n ≠ k
  · have hs := sameB_len l m (by omega)
    rw [hs]
    rw [← hn, ← hk]
    have hne' : ¬ (n : Int) = (k : Int) := by omega
    rw [← hn] at _bl; rw [← hk] at bm
    clear hs hn hk hc1 hc2 hne HL HM
    go_enter Tryd.func39, Tryd.ntmps39
    go_wp2
    go_ret
    exact ⟨rfl, rfl⟩
  · have hnk : n = k := by omega
    subst hnk
    have hs := sameB_unlike l m (by omega)
    rw [← hn] at hs hc1 _bl
    rw [← hk] at hc2 bm
    have heq : (n : Int) = (n : Int) := rfl
    have HS := Lib.hid hs; have HN := Lib.hid hn; have HK := Lib.hid hk
    rw [← hn, ← hk]
    clear hs hn hk hne heq
    go_enter Tryd.func39, Tryd.ntmps39
    go_wp2
    go_loop [5, 15] (fun u i => ∃ j : Nat, j ≤ n ∧ i = .int .i64 j ∧ u = .int .u8 (B8 (unlike l m j))) (fun _ i => n - (intOf i).toNat)
    case atStart => exact ⟨0, Nat.zero_le _, rfl, rfl⟩
    case round =>
      obtain ⟨j, hj, rfl, rfl⟩ := hrel
      obtain ⟨U, hU⟩ : ∃ U, U = unlike l m j := ⟨_, rfl⟩
      rw [← hU]
      have HU := Lib.hid hU; clear hU
      by_cases hlt : j < n
      · obtain ⟨b1, o1, rfl, cl⟩ := sl_at (i := j) HL.out (by rw [← HN.out]; exact hlt)
        obtain ⟨b2, o2, rfl, cm⟩ := sl_at (i := j) HM.out (by rw [← HK.out]; exact hlt)
        obtain ⟨x, hx⟩ : ∃ x, x = l.getD j 0 := ⟨_, rfl⟩
        obtain ⟨y, hy⟩ : ∃ y, y = m.getD j 0 := ⟨_, rfl⟩
        rw [← hx] at cl
        rw [← hy] at cm
        have HX := Lib.hid hx; have HY := Lib.hid hy
        clear hx hy
        go_wp2
        go_round
        case rel => exact ⟨j + 1, by omega, by go_num, by rw [B8_xor, B8_or, HU.out, HX.out, HY.out]; rfl⟩
        case measure => simp [intOf]; omega
      · have hjn : j = n := by omega
        have hge : ¬ (j : Int) < (n : Int) := by omega
        have HF : Hid ((B8 U == 0) = sameB l m) := by rw [HU.out, hjn]; exact HS.out
        clear hjn hlt
        go_wp2
        go_ret
        exact ⟨by rw [HF.out]; rfl, rfl⟩
end Sha
end Go.Proofs.YtjadjidjfkahpaaDoor
namespace Go.Proofs.YtjadjidjfkahpaaDoor
namespace Sha
open Go.RowKit Mem
set_option maxRecDepth 100000 in
set_option maxHeartbeats 400000 in
theorem check_any (k : List (BitVec 8)) (m : List (BitVec 8)) (ps : List (List (BitVec 8))) (vk vm vp : Value) (w : World) (hk : Sl w vk k) (hm : Sl w vm m) (hv : Sls w vp ps) (bk : k.length ≤ 1152921504606846975) (bm : m.length ≤ 9223372036854775807) (hN : ps.flatten.length ≤ 576460752303423487) (hp : ps.length ≤ 9223372036854775806) (hL : Tabs w) :
    Calls Tryd.prog 27 #[vk, vm, vp] w fun e w' => e = .returned (.bool (sameB (macOf k ps.flatten) m)) ∧ Below w.heap.size w w' := by
  have hx := zero32
  obtain ⟨X, hX⟩ : ∃ X, X = Z32 := ⟨_, rfl⟩
  rw [← hX] at hx
  have hXs : X.size = 32 := by rw [hX]; simp [Z32, u8s]
  have hmac := mac_any k ps vk vp w hk hv bk hN hp hL
  obtain ⟨M, hM⟩ : ∃ M, M = mcOf k ps.flatten := ⟨_, rfl⟩
  rw [← hM] at hmac
  have hMs : M.size = 32 := by rw [hM]; exact mcOf_size _ _
  have hMo : M.all (·.oneCell') = true := by rw [hM]; exact mcOf_one _ _
  have heq := fun (wx : World) (va : Value) (h1 : Sl wx va (macOf k ps.flatten)) (h2 : Sl wx vm m) => equal_any (macOf k ps.flatten) m va vm wx h1 h2 (by rw [macOf_length]; omega) bm
  have MAC := Lib.hid hmac; have XS := Lib.hid hXs; have MS := Lib.hid hMs; have MO := Lib.hid hMo; have KM := Lib.hid hM; have EQ := Lib.hid heq; have HM := Lib.hid hm
  clear hmac hXs hMs hMo hM heq hm hk hv bk bm hN hp hL hX
  go_enter Tryd.func27, Tryd.ntmps27
  go_wp2_with fail
  refine MAC.out.mono ?_
  rintro e w2 ⟨rfl, hb2⟩
  have B2 := Lib.hid hb2; clear hb2
  go_wp2_with (refine wpList_store_new (by rfl) 24 _ _ (by rfl) (by rfl) M _ _ (by rfl) (by rfl) (by rw [MS.out]; exact info32) (by rw [MS.out, XS.out]) MO.out ?_)
  have s3 : Sl (w2.alloc (.cells M 24)) (.slice (some ⟨w2.heap.size, 0, none⟩) 32 32) (macOf k ps.flatten) := at_sl (by rw [KM.out]; exact at_new w2 _ _) (macOf_length _ _)
  have b3 : Below w.heap.size w (w2.alloc (.cells M 24)) := B2.out.alloc B2.out.size _
  have B3 := Lib.hid b3
  refine (EQ.out _ _ s3 (HM.out.below b3)).mono ?_
  rintro e w4 ⟨rfl, rfl⟩
  clear s3 b3
  go_wp2_with fail
  go_ret
  exact ⟨rfl, B3.out⟩
end Sha
end Go.Proofs.YtjadjidjfkahpaaDoor
namespace Go.Proofs.YtjadjidjfkahpaaDoor
namespace Sha
open Go.RowKit Mem
theorem turned_next (l : List (BitVec 8)) (y : BitVec 8) (j : Nat) (h : j < l.length) : (turned l y).take (j + 1) = (turned l y).take j ++ [l.getD j 0 ^^^ y] := by
  rw [List.take_succ_eq_append_getElem (by rw [turned_length]; exact h)]
  simp [turned, h]
def TRel (w : World) (L : List (BitVec 8)) (v i : Value) (wr : World) : Prop := ∃ j : Nat, j ≤ L.length ∧ i = .int .i64 j ∧ OwnB wr w.heap.size v (L.take j) ∧ Below w.heap.size w wr
set_option maxRecDepth 100000 in
set_option maxHeartbeats 1000000 in
theorem rmturned_any (l : List (BitVec 8)) (y : BitVec 8) (vl : Value) (w : World) (hl : Sl w vl l) (bl : l.length ≤ 1099511627776) :
    Calls Tryd.prog 52 #[vl, .int .u8 (B8 y)] w (PadEnd w (turned l y)) := by
  obtain ⟨L, hL⟩ : ∃ L, L = turned l y := ⟨_, rfl⟩
  have hLl : L.length = l.length := by rw [hL, turned_length]
  have hnx : ∀ j, j < l.length → L.take (j + 1) = L.take j ++ [l.getD j 0 ^^^ y] := fun j hj => by rw [hL]; exact turned_next l y j hj
  rw [← hL]
  clear hL
  have hl0 := hl
  obtain ⟨a1, c1, rfl, _, _⟩ := hl
  obtain ⟨n, hn⟩ : ∃ n, n = l.length := ⟨_, rfl⟩
  rw [← hn] at hLl hnx bl
  have HL := Lib.hid hl0; have NX := Lib.hid hnx; have LL := Lib.hid hLl; have HN := Lib.hid hn
  rw [← hn]
  clear hl0 hnx hLl hn
  go_enter Tryd.func52, Tryd.ntmps52
  go_wp2_with fail
  go_loopw [5, 6] (fun v i wr => TRel w L v i wr) (fun _ i _ => n - (intOf i).toNat)
  case atStart => exact ⟨0, Nat.zero_le _, rfl, OwnB.nil _ _, Below.refl _ _⟩
  case round =>
    obtain ⟨j, hj, rfl, how, hbr⟩ := hrel
    rw [LL.out] at hj
    by_cases hlt : j < n
    · obtain ⟨b1, o1, rfl, cl⟩ := sl_at (i := j) (HL.out.below hbr) (by rw [← HN.out]; exact hlt)
      obtain ⟨x, hx⟩ : ∃ x, x = l.getD j 0 := ⟨_, rfl⟩
      rw [← hx] at cl
      have hnj := NX.out j hlt
      rw [← hx] at hnj
      have z0 : (0 : Int) ≤ (j : Int) := by omega
      have zn : (j : Int) < (n : Int) := by omega
      have hle : (u8s (L.take j)).length = j := by rw [u8s_length, List.length_take, LL.out]; omega
      have OV := Lib.hid (ownB_V how); have BR := Lib.hid hbr; have NJ := Lib.hid hnj; have LE := Lib.hid hle
      clear how hbr hnj hle hx
      go_wp2_with (at_builtin; refine wpList_append_lit (by rfl) _ _ 22 (by rfl) (.int .u8 (bits .xor .u8 (B8 x) (B8 y))) (.int .u8 0) 1 elemB8 (by rfl) (by rfl) OV.out (by rfl) (by rfl) (by rw [LE.out]; omega) (by rw [LE.out]; omega) BR.out.size ?_; intro v' w' ho' _ hb' _; have OV' := Lib.hid ho'; have BR' := Lib.hid (BR.out.trans hb'); clear ho' hb')
      go_roundw
      case rel => exact ⟨j + 1, by rw [LL.out]; exact hlt, by go_num, ownV_B (by have h := OV'.out; rw [B8_xor] at h; rw [NJ.out, u8s_snoc]; exact h), BR'.out⟩
      case measure => simp [intOf]; omega
    · have hjn : j = n := by omega
      have hall : L.take j = L := List.take_of_length_le (by rw [LL.out]; omega)
      rw [hall] at how
      have hge : ¬ (j : Int) < (n : Int) := by omega
      have OW := Lib.hid how; have BR := Lib.hid hbr
      clear how hbr hall hjn hlt hj
      go_wp2_with fail
      go_ret
      exact ⟨_, rfl, OW.out, BR.out⟩
/-- The key, filled up by z bytes 0. -/
def MFRel (w : World) (K : List (BitVec 8)) (v : Value) (wr : World) : Prop := ∃ z : Nat, K.length + z ≤ 64 ∧ OwnB wr w.heap.size v (K ++ List.replicate z 0) ∧ Below w.heap.size w wr
theorem fill_next (K : List (BitVec 8)) (z : Nat) : u8s (K ++ List.replicate (z + 1) 0) = u8s (K ++ List.replicate z 0) ++ [.int .u8 0] := by
  rw [List.replicate_succ', ← List.append_assoc, u8s_snoc]; rfl
set_option maxRecDepth 100000 in
set_option maxHeartbeats 1000000 in
theorem rkey_any (k : List (BitVec 8)) (vk : Value) (w : World) (hk : Sl w vk k) (bk : k.length ≤ 1099511627776) :
    Calls Tryd.prog 50 #[vk] w (PadEnd w (keyOf k)) := by
  have hk0 := hk
  obtain ⟨a1, c1, rfl, _, _⟩ := hk
  obtain ⟨n, hn⟩ : ∃ n, n = k.length := ⟨_, rfl⟩
  by_cases h64 : 64 < k.length
  · have hko : keyOf k = digestOf k ++ List.replicate (64 - (digestOf k).length) 0 := by unfold keyOf; rw [if_pos h64]; rfl
    obtain ⟨D, hD⟩ : ∃ D, D = digestOf k := ⟨_, rfl⟩
    have hDl : D.length = 32 := by rw [hD]; exact digestOf_length k
    obtain ⟨G, hG⟩ : ∃ G, G = dgOf k := ⟨_, rfl⟩
    have eG : G = (u8s D).toArray := by rw [hG, hD]; rfl
    have hGs : G.size = 32 := by rw [hG]; exact dgOf_size _
    have hGo : G.all (·.oneCell') = true := by rw [hG]; exact dgOf_one _
    have hsum := fun (wx : World) (hx : Below w.heap.size w wx) => rsum_any k _ wx (hk0.below hx) bk
    rw [← hG] at hsum
    rw [hko, ← hD]
    rw [← hn] at hk0 hsum bk h64 ⊢
    have h64' : (64 : Int) < (n : Int) := by omega
    have HK := Lib.hid hk0; have SUM := Lib.hid hsum; have GS := Lib.hid hGs; have GO := Lib.hid hGo; have EG := Lib.hid eG; have DL := Lib.hid hDl; have HN := Lib.hid hn
    clear hk0 hsum hGs hGo eG hD hG hDl hko hn h64
    go_enter Tryd.func50, Tryd.ntmps50
    go_wp2_with (first
      | (at_builtin; refine wpList_append_bytes (by rfl) (.const (.slice none 0 0)) _ (by rfl) w.heap.size (.slice none 0 0) (.slice a1 n c1) [] k (by rfl) (OwnB.nil _ _) (by rfl) HK.out (by have := HN.out; simp; omega) (Nat.le_refl _) ?_; intro v5 w5 ho5 hk5 hb5; have B5 := Lib.hid hb5; clear ho5 hk5 hb5)
      | (go_at_call 51; refine (SUM.out _ B5.out).mono ?_; rintro e w6 ⟨rfl, hb6⟩; have B6 := Lib.hid (B5.out.trans (hb6.mono B5.out.size)); clear hb6)
      | (refine wpList_store_new (by rfl) 24 _ _ (by rfl) (by rfl) G _ _ (by rfl) (by rfl) (by rw [GS.out]; exact info32) (by rw [GS.out]; rfl) GO.out ?_; have G7 := Lib.hid (at_new w6 G 24); have B7 := Lib.hid (B6.out.alloc B6.out.size (.cells G 24)); generalize w6.alloc (.cells G 24) = w7 at *; generalize w6.heap.size = bg at *)
      | (at_builtin; refine wpList_append_bytes (by rfl) (.const (.slice none 0 0)) _ (by rfl) w.heap.size (.slice none 0 0) (.slice (some ⟨bg, 0, none⟩) 32 32) [] D (by rfl) (OwnB.nil _ _) (by rfl) (at_sl (by have h := G7.out; rw [EG.out] at h; exact h) DL.out) (by rw [DL.out]; decide) B7.out.size ?_; intro v8 w8 ho8 hk8 hb8; have OF := Lib.hid ho8; have BF := Lib.hid (B7.out.trans hb8); clear ho8 hk8 hb8))
    have DL' : Hid (D.length ≤ 64) := by have := DL.out; show D.length ≤ 64; omega
    obtain ⟨wo, rfl⟩ : ∃ wo : World, wo = w8 := ⟨_, rfl⟩
    go_loopw [3] (fun v wr => MFRel w D v wr) (fun v _ => 64 - (match v with | .slice _ l _ => l | _ => 0))
    case atStart => exact ⟨0, by have := DL'.out; omega, by simpa using OF.out, BF.out⟩
    case round =>
      clear OF BF
      obtain ⟨z, hz, how, hbr⟩ := hrel
      have hov := ownB_V how
      obtain ⟨a3, c3, hv3, -, -⟩ := how.open
      have hlz : (D ++ List.replicate z 0).length = D.length + z := by simp
      rw [hlz] at hv3
      subst hv3
      obtain ⟨q, hq⟩ : ∃ q, q = D.length := ⟨_, rfl⟩
      rw [← hq] at hz hlz how hov ⊢
      by_cases hlt : q + z < 64
      · have hlt' : (q : Int) + (z : Int) < 64 := by omega
        have hle : (u8s (D ++ List.replicate z 0)).length = q + z := by rw [u8s_length, hlz]
        have OV := Lib.hid hov; have BR := Lib.hid hbr; have LE := Lib.hid hle; have HQ := Lib.hid hq
        clear hov hbr how hle hlz hq
        go_wp2_with (at_builtin; refine wpList_append_lit (by rfl) _ _ 22 (by rfl) (.int .u8 0) (.int .u8 0) 1 elemB8 (by rfl) (by rfl) OV.out (by rfl) (by rfl) (by rw [LE.out]; omega) (by rw [LE.out]; omega) BR.out.size ?_; intro v' w' ho' _ hb' _; have OV' := Lib.hid ho'; have BR' := Lib.hid (BR.out.trans hb'); clear ho' hb')
        have hV : OwnB w' w.heap.size v' (D ++ List.replicate (z + 1) 0) := ownV_B (by rw [fill_next]; exact OV'.out)
        go_roundw
        case rel => exact ⟨z + 1, by rw [← HQ.out]; omega, hV, BR'.out⟩
        case measure =>
          obtain ⟨a4, c4, hv4, -, -⟩ := hV.open
          have hl4 : (D ++ List.replicate (z + 1) 0).length = q + z + 1 := by have := HQ.out; simp; omega
          rw [hl4] at hv4
          subst hv4
          simp only
          omega
      · have hzq : z = 64 - D.length := by omega
        have hge : ¬ (q : Int) + (z : Int) < 64 := by omega
        have OW := Lib.hid how; have BR := Lib.hid hbr; have HZ := Lib.hid hzq
        clear hov how hbr hzq hlz hq hlt hz
        go_wp2_with fail
        go_ret
        exact ⟨_, rfl, by rw [← HZ.out]; exact OW.out, BR.out⟩
  · have hko : keyOf k = k ++ List.replicate (64 - k.length) 0 := by unfold keyOf; rw [if_neg h64]; rfl
    have DL' : Hid (k.length ≤ 64) := by show k.length ≤ 64; omega
    rw [hko]
    rw [← hn] at hk0 bk h64 ⊢
    have h64' : ¬ (64 : Int) < (n : Int) := by omega
    have HK := Lib.hid hk0; have HN := Lib.hid hn
    rw [hn]
    rw [← HN.out]
    clear hk0 hko hn h64
    go_enter Tryd.func50, Tryd.ntmps50
    go_wp2_with (at_builtin; refine wpList_append_bytes (by rfl) (.const (.slice none 0 0)) _ (by rfl) w.heap.size (.slice none 0 0) (.slice a1 n c1) [] k (by rfl) (OwnB.nil _ _) (by rfl) HK.out (by have := HN.out; simp; omega) (Nat.le_refl _) ?_; intro v5 w5 ho5 hk5 hb5; have OF := Lib.hid ho5; have BF := Lib.hid hb5; clear ho5 hk5 hb5)
    obtain ⟨wo, rfl⟩ : ∃ wo : World, wo = w5 := ⟨_, rfl⟩
    go_loopw [3] (fun v wr => MFRel w k v wr) (fun v _ => 64 - (match v with | .slice _ l _ => l | _ => 0))
    case atStart => exact ⟨0, by have := DL'.out; omega, by simpa using OF.out, BF.out⟩
    case round =>
      clear OF BF
      obtain ⟨z, hz, how, hbr⟩ := hrel
      have hov := ownB_V how
      obtain ⟨a3, c3, hv3, -, -⟩ := how.open
      have hlz : (k ++ List.replicate z 0).length = k.length + z := by simp
      rw [hlz] at hv3
      subst hv3
      obtain ⟨q, hq⟩ : ∃ q, q = k.length := ⟨_, rfl⟩
      rw [← hq] at hz hlz how hov ⊢
      by_cases hlt : q + z < 64
      · have hlt' : (q : Int) + (z : Int) < 64 := by omega
        have hle : (u8s (k ++ List.replicate z 0)).length = q + z := by rw [u8s_length, hlz]
        have OV := Lib.hid hov; have BR := Lib.hid hbr; have LE := Lib.hid hle; have HQ := Lib.hid hq
        clear hov hbr how hle hlz hq
        go_wp2_with (at_builtin; refine wpList_append_lit (by rfl) _ _ 22 (by rfl) (.int .u8 0) (.int .u8 0) 1 elemB8 (by rfl) (by rfl) OV.out (by rfl) (by rfl) (by rw [LE.out]; omega) (by rw [LE.out]; omega) BR.out.size ?_; intro v' w' ho' _ hb' _; have OV' := Lib.hid ho'; have BR' := Lib.hid (BR.out.trans hb'); clear ho' hb')
        have hV : OwnB w' w.heap.size v' (k ++ List.replicate (z + 1) 0) := ownV_B (by rw [fill_next]; exact OV'.out)
        go_roundw
        case rel => exact ⟨z + 1, by rw [← HQ.out]; omega, hV, BR'.out⟩
        case measure =>
          obtain ⟨a4, c4, hv4, -, -⟩ := hV.open
          have hl4 : (k ++ List.replicate (z + 1) 0).length = q + z + 1 := by have := HQ.out; simp; omega
          rw [hl4] at hv4
          subst hv4
          simp only
          omega
      · have hzq : z = 64 - k.length := by omega
        have hge : ¬ (q : Int) + (z : Int) < 64 := by omega
        have OW := Lib.hid how; have BR := Lib.hid hbr; have HZ := Lib.hid hzq
        clear hov how hbr hzq hlz hq hlt hz
        go_wp2_with fail
        go_ret
        exact ⟨_, rfl, by rw [HN.out, ← HZ.out]; exact OW.out, BR.out⟩
end Sha
end Go.Proofs.YtjadjidjfkahpaaDoor
namespace Go.Proofs.YtjadjidjfkahpaaDoor
namespace Sha
open Go.RowKit Mem
set_option maxRecDepth 100000 in
set_option maxHeartbeats 1000000 in
theorem rmac_any (k m : List (BitVec 8)) (vk vm : Value) (w : World) (hk : Sl w vk k) (hm : Sl w vm m) (bk : k.length ≤ 1099511627776) (bm : m.length ≤ 1099511627000) :
    Calls Tryd.prog 35 #[vk, vm] w fun e w' => e = .returned (.agg (mcOf k m)) ∧ Below w.heap.size w w' := by
  have hx := zero32
  obtain ⟨X, hX⟩ : ∃ X, X = Z32 := ⟨_, rfl⟩
  rw [← hX] at hx
  have hXs : X.size = 32 := by rw [hX]; simp [Z32, u8s]
  have hkey := fun (wx : World) (h1 : Sl wx vk k) => rkey_any k vk wx h1 bk
  have ht1 := fun (wx : World) (v : Value) (h1 : Sl wx v (keyOf k)) => rmturned_any (keyOf k) 54 v wx h1 (by rw [keyOf_length]; decide)
  have ht2 := fun (wx : World) (v : Value) (h1 : Sl wx v (keyOf k)) => rmturned_any (keyOf k) 92 v wx h1 (by rw [keyOf_length]; decide)
  rw [show B8 54 = 54 from by decide] at ht1
  rw [show B8 92 = 92 from by decide] at ht2
  obtain ⟨K, hK⟩ : ∃ K, K = keyOf k := ⟨_, rfl⟩
  obtain ⟨T1, hT1⟩ : ∃ T, T = turned K 54 := ⟨_, rfl⟩
  obtain ⟨T2, hT2⟩ : ∃ T, T = turned K 92 := ⟨_, rfl⟩
  obtain ⟨I, hI⟩ : ∃ I, I = digestOf (T1 ++ m) := ⟨_, rfl⟩
  obtain ⟨G, hG⟩ : ∃ G, G = dgOf (T1 ++ m) := ⟨_, rfl⟩
  obtain ⟨M, hM⟩ : ∃ M, M = mcOf k m := ⟨_, rfl⟩
  have hMs : M.size = 32 := by rw [hM]; exact mcOf_size _ _
  have hMo : M.all (·.oneCell') = true := by rw [hM]; exact mcOf_one _ _
  have eM : dgOf (T2 ++ I) = M := by rw [hM, hI, hT1, hT2, hK]; rfl
  have eG : G = (u8s I).toArray := by rw [hG, hI]; rfl
  have hIl : I.length = 32 := by rw [hI]; exact digestOf_length _
  have hGs : G.size = 32 := by rw [hG]; exact dgOf_size _
  have hGo : G.all (·.oneCell') = true := by rw [hG]; exact dgOf_one _
  have l1 : T1.length = 64 := by rw [hT1, turned_length, hK, keyOf_length]
  have l2 : T2.length = 64 := by rw [hT2, turned_length, hK, keyOf_length]
  have hs1 := fun (wx : World) (v : Value) (h1 : Sl wx v (T1 ++ m)) => rsum_any (T1 ++ m) v wx h1 (by rw [List.length_append, l1]; omega)
  have hs2 := fun (wx : World) (v : Value) (h1 : Sl wx v (T2 ++ I)) => rsum_any (T2 ++ I) v wx h1 (by rw [List.length_append, l2, hIl]; decide)
  rw [← hK] at hkey ht1 ht2
  rw [← hT1] at ht1
  rw [← hT2] at ht2
  rw [← hG] at hs1
  rw [eM] at hs2
  rw [← hM]
  have KEY := Lib.hid hkey; have TA := Lib.hid ht1; have TB := Lib.hid ht2; have SA := Lib.hid hs1; have SB := Lib.hid hs2; have HK := Lib.hid hk; have HM := Lib.hid hm
  have XS := Lib.hid hXs; have GS := Lib.hid hGs; have GO := Lib.hid hGo; have MS := Lib.hid hMs; have MO := Lib.hid hMo; have EG := Lib.hid eG; have IL := Lib.hid hIl; have LA := Lib.hid l1; have LB := Lib.hid l2
  have R1 := Lib.hid (at_new w X 24); have B1 := Lib.hid ((Below.refl w.heap.size w).alloc (Nat.le_refl _) (.cells X 24))
  clear hkey ht1 ht2 hs1 hs2 hk hm hXs hGs hGo hMs hMo eG eM hIl l1 l2 hX hK hT1 hT2 hI hG hM bk
  go_enter Tryd.func35, Tryd.ntmps35
  go_wp2_with (first
    | (go_at_call 50; refine (KEY.out _ (HK.out.below B1.out)).mono ?_; rintro e w2 ⟨vK, rfl, ho2, hb2⟩; have R2 := Lib.hid (R1.out.below hb2 R1.out.lt); have B2 := Lib.hid (B1.out.trans (hb2.mono B1.out.size)); have OK := Lib.hid ho2; clear hb2 ho2)
    | (go_at_call 52; refine (TA.out _ _ OK.out.sl).mono ?_; rintro e w3 ⟨v3, rfl, ho3, hb3⟩; have R3 := Lib.hid (R2.out.below hb3 R2.out.lt); have B3 := Lib.hid (B2.out.trans (hb3.mono B2.out.size)); have OK3 := Lib.hid (OK.out.below hb3); have O3 := Lib.hid ho3; have Z3 := Lib.hid hb3.size; have K3 := Lib.hid (OK.out.lt); have Q3 := Lib.hid R2.out.lt; clear hb3 ho3)
    | (at_builtin; refine wpList_append_bytes (by rfl) _ _ (by rfl) w2.heap.size v3 vm T1 m (by rfl) O3.out (by rfl) (HM.out.below B3.out) (by rw [LA.out]; omega) Z3.out ?_; intro v4 w4 ho4 hk4 hb4; have R4 := Lib.hid (R3.out.below hb4 Q3.out); have O4 := Lib.hid ho4; have B4 := Lib.hid (B3.out.trans (hb4.mono (Nat.le_of_lt (Nat.lt_of_le_of_lt (Nat.le_refl _) Q3.out)))); have OK4 := Lib.hid (OK3.out.keep fun g hg => hb4.block g (K3.out g hg).2); clear ho4 hk4 hb4)
    | (go_at_call 51; refine (SA.out _ _ O4.out.sl).mono ?_; rintro e w5 ⟨rfl, hb5⟩; have R5 := Lib.hid (R4.out.below hb5 R4.out.lt); have B5 := Lib.hid (B4.out.trans (hb5.mono B4.out.size)); have OK5 := Lib.hid (OK4.out.below hb5); clear hb5)
    | (refine wpList_store_new (by rfl) 24 _ _ (by rfl) (by rfl) G _ _ (by rfl) (by rfl) (by rw [GS.out]; exact info32) (by rw [GS.out, XS.out]) GO.out ?_; have G6 := Lib.hid (at_new w5 G 24); have OK6 := Lib.hid (OK5.out.below ((Below.refl _ _).alloc (Nat.le_refl _) (.cells G 24))); have R6 := Lib.hid (R5.out.alloc (.cells G 24)); have B6 := Lib.hid (B5.out.alloc B5.out.size (.cells G 24)); generalize w5.alloc (.cells G 24) = w6 at *; generalize w5.heap.size = bg at *))
  refine wp_region_plan_in (fun w' => But w.heap.size w6 w') (.take 0 (.take 2 (.sole 1 (.sole 3 (.sole 4 (.sole 5 .done)))))) (by kernel_rfl) (by kernel_rfl) (by kernel_rfl) ⟨Nat.le_refl _, fun _ _ _ => rfl⟩ ?_
  (first | (refine plan_move _ _ (by rfl) (by rfl) (.inl (by rfl)) (by first | (with_reducible exact Mem.ev_const _ _) | (with_reducible exact Mem.ev_zero _ _ _) | (with_reducible (apply Eq.trans (Mem.ev_tmp _ _ _)); simp only [List.getD_cons_succ, List.getD_cons_zero] <;> rfl)) ?_) | (refine plan_move _ _ (by rfl) (by rfl) (.inr (by rfl)) (by first | (with_reducible exact Mem.ev_const _ _) | (with_reducible exact Mem.ev_zero _ _ _) | (with_reducible (apply Eq.trans (Mem.ev_tmp _ _ _)); simp only [List.getD_cons_succ, List.getD_cons_zero] <;> rfl)) ?_) | (refine plan_pick_t _ _ _ _ (by rfl) (by rfl) (by rfl) (by first | (with_reducible exact Mem.ev_const _ _) | (with_reducible exact Mem.ev_zero _ _ _) | (with_reducible (apply Eq.trans (Mem.ev_tmp _ _ _)); simp only [List.getD_cons_succ, List.getD_cons_zero] <;> rfl)) (by first | (with_reducible exact Mem.ev_const _ _) | (with_reducible exact Mem.ev_zero _ _ _) | (with_reducible (apply Eq.trans (Mem.ev_tmp _ _ _)); simp only [List.getD_cons_succ, List.getD_cons_zero] <;> rfl)) ?_) | (refine plan_pick_f _ _ _ _ (by rfl) (by rfl) (by rfl) (by first | (with_reducible exact Mem.ev_const _ _) | (with_reducible exact Mem.ev_zero _ _ _) | (with_reducible (apply Eq.trans (Mem.ev_tmp _ _ _)); simp only [List.getD_cons_succ, List.getD_cons_zero] <;> rfl)) (by first | (with_reducible exact Mem.ev_const _ _) | (with_reducible exact Mem.ev_zero _ _ _) | (with_reducible (apply Eq.trans (Mem.ev_tmp _ _ _)); simp only [List.getD_cons_succ, List.getD_cons_zero] <;> rfl)) ?_))
  (simp only [Act.put, List.setIfInBounds_toArray, List.set_cons_zero, List.set_cons_succ])
  refine plan_cut _ _ 32 5 bg 0 (by rfl) (by rfl) (by rfl) (by first | (with_reducible exact Mem.ev_const _ _) | (with_reducible exact Mem.ev_zero _ _ _) | (with_reducible (apply Eq.trans (Mem.ev_tmp _ _ _)); simp only [List.getD_cons_succ, List.getD_cons_zero] <;> rfl)) Tryd.underlying24 infoB ?_
  (simp only [Act.put, List.setIfInBounds_toArray, List.set_cons_zero, List.set_cons_succ])
  have B : Hid (Below w6.heap.size w6 w6.drew) := (Below.refl _ _).drew
  have sg : Hid (Sl w6.drew (.slice (some ⟨bg, 0, none⟩) 32 32) I) := at_sl (by have := G6.out; rw [EG.out] at this; exact this) IL.out
  have OKW := Lib.hid (OK6.out.keep (w' := w6.drew) fun _ _ => rfl)
  generalize w6.drew = W at *
  refine plan_call 52 _ _ _ (by kernel_rfl) (by rfl) (by rfl) (by rfl) (by first | exact Mem.ev_none _ | (simp only [List.map_toArray, List.map_cons, List.map_nil, Mem.ev_tmp, List.getD_cons_succ, List.getD_cons_zero] <;> rfl)) ?_
  refine (TB.out _ _ OKW.out.sl).mono ?_
  rintro e W2 ⟨v7, rfl, ho7, hb7⟩
  have sg2 := Lib.hid (sg.out.below hb7)
  have BW := Lib.hid B.out.size
  have B := Lib.hid (B.out.trans (hb7.mono B.out.size))
  have O7 := Lib.hid (ownB_V ho7)
  have Z7 := Lib.hid hb7.size
  clear hb7 ho7
  refine ⟨_, rfl, (But.refl _ _).below B.out, ?_⟩
  (simp only [Act.put, List.setIfInBounds_toArray, List.set_cons_zero, List.set_cons_succ])
  refine plan_append_rd _ _ 22 (by rfl) (by rfl) (by rfl) _ (u8s I) (.int .u8 0) 1 elemB8 (by rfl) (by first | (with_reducible exact Mem.ev_const _ _) | (with_reducible exact Mem.ev_zero _ _ _) | (with_reducible (apply Eq.trans (Mem.ev_tmp _ _ _)); simp only [List.getD_cons_succ, List.getD_cons_zero] <;> rfl)) O7.out (by first | (with_reducible exact Mem.ev_const _ _) | (with_reducible exact Mem.ev_zero _ _ _) | (with_reducible (apply Eq.trans (Mem.ev_tmp _ _ _)); simp only [List.getD_cons_succ, List.getD_cons_zero] <;> rfl)) (sl_rd sg2.out) (u8s_cells I) (by rw [u8s_length, u8s_length, LB.out, IL.out]; decide) (by rw [u8s_length, u8s_length, LB.out, IL.out]; decide) Z7.out ?_
  intro v8 w8 ho8 _ hb8 _
  have B := Lib.hid (B.out.trans (hb8.mono BW.out))
  have O8 : Hid (OwnB w8 W.heap.size v8 (T2 ++ I)) := ownV_B (by rw [show u8s (T2 ++ I) = u8s T2 ++ u8s I by simp [u8s]]; exact ho8)
  clear ho8 hb8
  refine ⟨(But.refl _ _).below B.out, ?_⟩
  (simp only [Act.put, List.setIfInBounds_toArray, List.set_cons_zero, List.set_cons_succ])
  refine plan_call 51 _ _ _ (by kernel_rfl) (by rfl) (by rfl) (by rfl) (by first | exact Mem.ev_none _ | (simp only [List.map_toArray, List.map_cons, List.map_nil, Mem.ev_tmp, List.getD_cons_succ, List.getD_cons_zero] <;> rfl)) ?_
  refine (SB.out _ _ O8.out.sl).mono ?_
  rintro e W3 ⟨rfl, hb9⟩
  have B := Lib.hid (B.out.trans (hb9.mono B.out.size))
  clear hb9
  refine ⟨_, rfl, (But.refl _ _).below B.out, ?_⟩
  (simp only [Act.put, List.setIfInBounds_toArray, List.set_cons_zero, List.set_cons_succ])
  refine plan_store 24 _ _ w.heap.size M X 24 (by rfl) (by rfl) (by rfl) (by rfl) (by first | (with_reducible exact Mem.ev_const _ _) | (with_reducible exact Mem.ev_zero _ _ _) | (with_reducible (apply Eq.trans (Mem.ev_tmp _ _ _)); simp only [List.getD_cons_succ, List.getD_cons_zero] <;> rfl)) (by first | (with_reducible exact Mem.ev_const _ _) | (with_reducible exact Mem.ev_zero _ _ _) | (with_reducible (apply Eq.trans (Mem.ev_tmp _ _ _)); simp only [List.getD_cons_succ, List.getD_cons_zero] <;> rfl)) (by rw [MS.out]; exact info32) (R6.out.below B.out R6.out.lt) (by rw [MS.out, XS.out]) MO.out (((But.refl _ _).below B.out).row (by simp) (fun k hk => setRow_other _ _ _ _ hk)) ?_
  refine plan_nil ?_
  go_wp2_with fail
  try simp only [Exit.inBlock, Exit.then]
  refine ret_row (by rfl) w.heap.size 24 M _ (by rfl) ((R6.out.below B.out R6.out.lt).row M) Tryd.underlying24 (by rfl) (by rw [MS.out]; exact info32) ?_
  exact ⟨rfl, below_row (B6.out.trans (B.out.mono B6.out.size)) (Nat.le_refl _) M⟩
end Sha
end Go.Proofs.YtjadjidjfkahpaaDoor
namespace Go.Proofs.YtjadjidjfkahpaaDoor
namespace Sha
/-- A number as four bytes, the highest first. -/
def be4 (n : BitVec 32) : List (BitVec 8) := [wb n 24, wb n 16, wb n 8, wb n 0]
/-- The macs of the block n, from the first one on. -/
def mcs (k salt : List (BitVec 8)) (n : BitVec 32) : Nat → List (BitVec 8)
  | 0 => macOf k (salt ++ be4 n)
  | i + 1 => macOf k (mcs k salt n i)
theorem mcs_length (k salt : List (BitVec 8)) (n : BitVec 32) (i : Nat) : (mcs k salt n i).length = 32 := by
  cases i <;> exact macOf_length _ _
/-- So many of them joined. -/
def blk (k salt : List (BitVec 8)) (n : BitVec 32) : Nat → List (BitVec 8)
  | 0 => List.replicate 32 0
  | i + 1 => joinB (blk k salt n i) (mcs k salt n i)
theorem blk_length (k salt : List (BitVec 8)) (n : BitVec 32) : ∀ i, (blk k salt n i).length = 32
  | 0 => by simp [blk]
  | i + 1 => by rw [blk, joinB_length _ _ (by rw [blk_length k salt n i, mcs_length]), blk_length k salt n i]
/-- The first j blocks, one behind the other. -/
def blks (k salt : List (BitVec 8)) (r : Nat) : Nat → List (BitVec 8)
  | 0 => []
  | j + 1 => blks k salt r j ++ blk k salt (BitVec.ofNat 32 (j + 1)) r
theorem blks_length (k salt : List (BitVec 8)) (r : Nat) : ∀ j, (blks k salt r j).length = 32 * j
  | 0 => rfl
  | j + 1 => by rw [blks, List.length_append, blks_length k salt r j, blk_length]; omega
theorem blks_more (k salt : List (BitVec 8)) (r j : Nat) : ∀ i, (blks k salt r (j + i)).take (32 * j) = blks k salt r j
  | 0 => by rw [Nat.add_zero, List.take_of_length_le (by rw [blks_length]; omega)]
  | i + 1 => by
    rw [← Nat.add_assoc, blks, List.take_append_of_le_length (by rw [blks_length]; omega), blks_more k salt r j i]
/-- The stretched key. -/
def stretched (k salt : List (BitVec 8)) (r size : Nat) : List (BitVec 8) := (blks k salt r ((size + 31) / 32)).take size
theorem stretched_length (k salt : List (BitVec 8)) (r size : Nat) : (stretched k salt r size).length = size := by
  rw [stretched, List.length_take, blks_length]; omega
theorem stretched_from (k salt : List (BitVec 8)) (r size j : Nat) (h : size ≤ 32 * j) : (blks k salt r j).take size = stretched k salt r size := by
  have hc : (size + 31) / 32 ≤ j := by omega
  obtain ⟨i, rfl⟩ : ∃ i, j = (size + 31) / 32 + i := ⟨j - (size + 31) / 32, by omega⟩
  have e := blks_more k salt r ((size + 31) / 32) i
  rw [stretched, ← e, List.take_take]
  congr 1
  omega
/-- A longer key begins with the shorter one. -/
theorem stretched_begins (k salt : List (BitVec 8)) (r m n : Nat) (h : m ≤ n) : (stretched k salt r n).take m = stretched k salt r m := by
  rw [stretched, List.take_take, Nat.min_eq_left h]
  exact stretched_from k salt r m _ (by omega)
theorem keyOf_64 (k : List (BitVec 8)) (h : k.length = 64) : keyOf k = k := by
  unfold keyOf
  rw [if_neg (by omega)]
  simp [fill64, h]
theorem macOf_key (k m : List (BitVec 8)) : macOf (keyOf k) m = macOf k m := by
  unfold macOf
  rw [keyOf_64 (keyOf k) (keyOf_length k)]
theorem mcs_key (k salt : List (BitVec 8)) (n : BitVec 32) : ∀ i, mcs (keyOf k) salt n i = mcs k salt n i
  | 0 => macOf_key _ _
  | i + 1 => by rw [mcs, mcs_key k salt n i, macOf_key]; rfl
theorem blk_key (k salt : List (BitVec 8)) (n : BitVec 32) : ∀ i, blk (keyOf k) salt n i = blk k salt n i
  | 0 => rfl
  | i + 1 => by rw [blk, blk_key k salt n i, mcs_key]; rfl
end Sha
end Go.Proofs.YtjadjidjfkahpaaDoor
namespace Go.Proofs.YtjadjidjfkahpaaDoor
namespace Sha
open Go.RowKit Mem
structure JInv (L : List (BitVec 8)) (B R : Nat) (X : Array Value) (w wr : World) : Prop where
  k : At wr B (u8s L).toArray 24
  r : At wr R X 24
  b : Below w.heap.size w wr
def jnOf (a b : List (BitVec 8)) : Array Value := (u8s (joinB a b)).toArray
set_option maxRecDepth 100000 in
set_option maxHeartbeats 1000000 in
theorem join_any (a b : List (BitVec 8)) (la : a.length = 32) (lb : b.length = 32) (w : World) :
    Calls Tryd.prog 55 #[.agg (u8s a).toArray, .agg (u8s b).toArray] w fun e w' => e = .returned (.agg (jnOf a b)) ∧ Below w.heap.size w w' := by
  have hab : a.length = b.length := by rw [la, lb]
  obtain ⟨X, hX⟩ : ∃ X, X = Z32 := ⟨_, rfl⟩
  have hx := zero32
  rw [← hX] at hx
  have hXs : X.size = 32 := by rw [hX]; simp [Z32, u8s]
  obtain ⟨C, hC⟩ : ∃ C, C = (u8s a).toArray := ⟨_, rfl⟩
  obtain ⟨D, hD⟩ : ∃ D, D = (u8s b).toArray := ⟨_, rfl⟩
  have hDs : D.size = 32 := by rw [hD]; simp [u8s, lb]
  rw [← hC, ← hD]
  have HC := Lib.hid hC; have HD := Lib.hid hD; have HX := Lib.hid hX; have XS := Lib.hid hXs; have DSZ := Lib.hid hDs; have LA := Lib.hid la; have HAB := Lib.hid hab
  clear hC hD hX hXs hDs la lb hab
  go_enter Tryd.func55, Tryd.ntmps55
  have ad : At (((w.alloc (.cells C 24)).alloc (.cells D 24)).alloc (.cells X 24)) (w.heap.size + 1) D 24 := by
    have h := (at_new (w.alloc (.cells C 24)) D 24).alloc (.cells X 24)
    simpa using h
  have hI : JInv (joinTo a b 0) w.heap.size (w.heap.size + 1 + 1) X w (((w.alloc (.cells C 24)).alloc (.cells D 24)).alloc (.cells X 24)) := by
    refine ⟨by rw [joinTo_zero, ← HC.out]; exact ((at_new w C _).alloc _).alloc _, ?_, (((Below.refl _ _).alloc (Nat.le_refl _) _).alloc (by simp) _).alloc (by simp; omega) _⟩
    have h := at_new ((w.alloc (.cells C 24)).alloc (.cells D 24)) X 24
    simpa using h
  have AD := Lib.hid ad; have HI := Lib.hid hI
  clear ad hI
  go_wp2_with (refine wpList_load_all (by rfl) 24 _ (by rfl) (w.heap.size + 1) (by rfl) _ Tryd.underlying24 (by rfl) D _ AD.out (by rw [DSZ.out]; exact info32) ?_)
  clear AD
  generalize ((w.alloc (.cells C 24)).alloc (.cells D 24)).alloc (.cells X 24) = w3 at *
  go_loopw [5, 6, 8] (fun _ _ i wr => ∃ j : Nat, j ≤ 32 ∧ i = .int .i64 j ∧ JInv (joinTo a b j) w.heap.size (w.heap.size + 1 + 1) X w wr) (fun _ _ i _ => 32 - (intOf i).toNat)
  case atStart => exact ⟨0, by omega, rfl, HI.out⟩
  case round =>
    clear HI
    obtain ⟨j, hj, rfl, hI⟩ := hrel
    by_cases hlt : j < 32
    · have hja : j < a.length := by rw [LA.out]; exact hlt
      have hjb : j < b.length := by rw [← HAB.out]; exact hja
      have hk := hI.k
      obtain ⟨x, hxx⟩ : ∃ x, x = a.getD j 0 := ⟨_, rfl⟩
      obtain ⟨y, hyy⟩ : ∃ y, y = b.getD j 0 := ⟨_, rfl⟩
      have hset : (u8s (joinTo a b j)).toArray.setIfInBounds j (.int .u8 (B8 (x ^^^ y))) = (u8s (joinTo a b (j + 1))).toArray := by
        rw [← joinTo_set a b HAB.out j hja, ← hxx, ← hyy]; exact u8s_set _ _ _
      have cj : wr.cell? ⟨w.heap.size, j, none⟩ = some (.int .u8 (B8 x)) := by
        rw [hk.cell, List.getElem?_toArray, u8s_get _ _ (by rw [joinTo_length a b HAB.out]; exact hja), joinTo_get a b HAB.out j hja, hxx]; rfl
      have dj : D[j]? = some (.int .u8 (B8 y)) := by rw [HD.out, List.getElem?_toArray, u8s_get _ _ hjb, hyy]; rfl
      have hEs : j < (u8s (joinTo a b j)).toArray.size := by simp [u8s, joinTo_length a b HAB.out]; exact hja
      obtain ⟨E, hE⟩ : ∃ E, E = (u8s (joinTo a b j)).toArray := ⟨_, rfl⟩
      rw [← hE] at hk hset hEs
      have KK := Lib.hid hk; have ST := Lib.hid hset; have DS := Lib.hid hEs; have II := Lib.hid hI; have DJ := Lib.hid dj
      clear hk hset hEs hI hE hxx hyy hja hjb dj
      go_wp2_with (first
        | (refine wpList_index_row (by rfl) 24 _ _ (by rfl) 32 5 Tryd.underlying24 _ Tryd.underlying5 (by rfl) infoB D j (by rfl) (by rfl) hlt _ DJ.out ?_)
        | (refine Mem.wpList_store_one (by rfl) 5 _ _ (by rfl) (by rfl) w.heap.size j (.int .u8 (B8 (x ^^^ y))) (by rfl) (by exact congrArg (Value.int .u8) (B8_xor x y)) (by rfl) infoB _ _ KK.out DS.out ?_; intro w4 a4 o4 b4; have A4 := Lib.hid a4; have R4 := Lib.hid (at_keep II.out.r o4 (by omega)); have B4 := Lib.hid (b4 _ _ II.out.b (Nat.le_refl _)); clear a4 o4 b4))
      go_roundw
      case rel => exact ⟨j + 1, by omega, by go_num, by rw [← ST.out]; exact A4.out, R4.out, B4.out⟩
      case measure => simp [intOf]; omega
    · have hj32 : j = 32 := by omega
      have hall : joinTo a b j = joinB a b := by rw [hj32, ← LA.out]; exact joinTo_all a b HAB.out
      rw [hall] at hI
      have hge : ¬ (j : Int) < 32 := by omega
      obtain ⟨M, hM⟩ : ∃ M, M = jnOf a b := ⟨_, rfl⟩
      have hk := hI.k
      rw [show (u8s (joinB a b)).toArray = M from hM.symm] at hk
      have hMs : M.size = 32 := by rw [hM]; simp [jnOf, u8s, joinB_length a b HAB.out, LA.out]
      have hMo : M.all (·.oneCell') = true := by rw [hM]; exact u8s_one _
      have HM := Lib.hid hM; have MS := Lib.hid hMs; have MO := Lib.hid hMo; have KK := Lib.hid hk; have RR := Lib.hid hI.r; have BB := Lib.hid hI.b
      clear hM hMs hMo hk hI hall hj32 hlt hj
      go_wp2_with (first | (refine wpList_load_all (by rfl) 24 _ (by rfl) w.heap.size (by rfl) _ Tryd.underlying24 (by rfl) M _ KK.out (by rw [MS.out]; exact info32) ?_) | (refine wpList_store_all (by rfl) 24 _ _ (by rfl) (by rfl) (w.heap.size + 1 + 1) M (by rfl) (by rfl) (by rw [MS.out]; exact info32) _ _ RR.out (by rw [MS.out, XS.out]) MO.out ?_))
      try simp only [Exit.inBlock, Exit.then]
      refine ret_row (by rfl) (w.heap.size + 1 + 1) 24 M _ (by rfl) (RR.out.row M) Tryd.underlying24 (by rfl) (by rw [MS.out]; exact info32) ?_
      exact ⟨by rw [HM.out], below_row BB.out (by omega) M⟩
end Sha
end Go.Proofs.YtjadjidjfkahpaaDoor
namespace Go.Proofs.YtjadjidjfkahpaaDoor
namespace Sha
open Go.RowKit Mem
theorem jnOf_size (a b : List (BitVec 8)) (la : a.length = 32) (lb : b.length = 32) : (jnOf a b).size = 32 := by simp [jnOf, u8s, joinB_length a b (by rw [la, lb]), la]
set_option maxRecDepth 100000 in
set_option maxHeartbeats 1000000 in
/-- The literal: the variable that it holds on to has what it was handed joined to it. -/
theorem lit_any (a m : List (BitVec 8)) (la : a.length = 32) (lm : m.length = 32) (bb : Nat) (w : World) (ha : At w bb (u8s a).toArray 24) :
    Calls Tryd.prog 54 #[.agg (u8s m).toArray, .pointer (some ⟨bb, 0, none⟩)] w fun e w' => e = .returned (.tuple #[]) ∧ At w' bb (jnOf a m) 24 ∧ But bb w w' ∧ (∀ B x, Below B x w → B ≤ bb → B ≤ w.heap.size → Below B x w') := by
  have hj := fun wx => join_any a m la lm wx
  obtain ⟨C, hC⟩ : ∃ C, C = (u8s a).toArray := ⟨_, rfl⟩
  obtain ⟨D, hD⟩ : ∃ D, D = (u8s m).toArray := ⟨_, rfl⟩
  obtain ⟨M, hM⟩ : ∃ M, M = jnOf a m := ⟨_, rfl⟩
  have hCs : C.size = 32 := by rw [hC]; simp [u8s, la]
  have hDs : D.size = 32 := by rw [hD]; simp [u8s, lm]
  have hMs : M.size = 32 := by rw [hM]; exact jnOf_size a m la lm
  have hMo : M.all (·.oneCell') = true := by rw [hM]; exact u8s_one _
  rw [← hC] at ha
  rw [← hC, ← hD, ← hM] at hj
  rw [← hD, ← hM]
  have J := Lib.hid hj; have CS := Lib.hid hCs; have DS := Lib.hid hDs; have MS := Lib.hid hMs; have MO := Lib.hid hMo
  have A1 := Lib.hid (ha.alloc (.cells D 24)); have D1 := Lib.hid (at_new w D 24); have LT := Lib.hid ha.lt
  clear hj hC hD hM hCs hDs hMs hMo ha la lm
  go_enter Tryd.func54, Tryd.ntmps54
  go_wp2_with (first
    | (refine wpList_load_all (by rfl) 24 _ (by rfl) bb (by rfl) _ Tryd.underlying24 (by rfl) C _ A1.out (by rw [CS.out]; exact info32) ?_)
    | (refine wpList_load_all (by rfl) 24 _ (by rfl) w.heap.size (by rfl) _ Tryd.underlying24 (by rfl) D _ D1.out (by rw [DS.out]; exact info32) ?_)
    | (go_at_call 55; refine (J.out _).mono ?_; rintro e w2 ⟨rfl, hb2⟩; have A2 := Lib.hid (A1.out.below hb2 A1.out.lt); have B2 := Lib.hid (((Below.refl w.heap.size w).alloc (Nat.le_refl _) (.cells D 24)).trans (hb2.mono (by simp))); clear hb2)
    | (refine wpList_store_all (by rfl) 24 _ _ (by rfl) (by rfl) bb M (by rfl) (by rfl) (by rw [MS.out]; exact info32) _ _ A2.out (by rw [MS.out, CS.out]) MO.out ?_))
  go_end0
  exact ⟨rfl, A2.out.row M, ((But.refl bb w).below B2.out).row (by simp) (fun k hk => setRow_other _ _ k M hk), fun B x hb h1 h2 => below_row (hb.trans (B2.out.mono h2)) h1 M⟩
theorem info4 : (Tryd.prog.info? 100).map (·.size) = some 4 := by kernel_rfl
theorem snum_any (n : BitVec 32) : V n / (16777216 : Int) % (256 : Int) = ((wb n 24).toNat : Int) ∧ V n / (65536 : Int) % (256 : Int) = ((wb n 16).toNat : Int) ∧ V n / (256 : Int) % (256 : Int) = ((wb n 8).toNat : Int) ∧ V n % (256 : Int) = ((wb n 0).toNat : Int) := ⟨wb24 n, wb16 n, wb8 n, by rw [← wb0]⟩
theorem one_mac (K salt : List (BitVec 8)) (n : BitVec 32) (i : Nat) (vk vp : Value) (w : World) (hk : Sl w vk K) (hv : Sls w vp [mcs K salt n i]) (lK : K.length = 64) (hL : Tabs w) :
    Calls Tryd.prog 19 #[vk, vp] w fun e w' => e = .returned (.agg (u8s (mcs K salt n (i + 1))).toArray) ∧ Below w.heap.size w w' := by
  have h := mac_any K [mcs K salt n i] vk vp w hk hv (by rw [lK]; decide) (by simp [mcs_length]) (by simp) hL
  rw [show [mcs K salt n i].flatten = mcs K salt n i by simp] at h
  exact h
/-- What stands between two macs. -/
structure EInv (K salt : List (BitVec 8)) (n : BitVec 32) (w0 w : World) (bb bk bm i : Nat) (wr : World) : Prop where
  acc : At wr bb (u8s (blk K salt n i)).toArray 24
  key : At wr bk (u8s K).toArray 67
  mac : At wr bm (u8s (mcs K salt n (i - 1))).toArray 24
  b : Below w0.heap.size w0 wr
  bt : But bb w wr
set_option maxRecDepth 100000 in
set_option maxHeartbeats 2000000 in
theorem each_any (K salt : List (BitVec 8)) (n : BitVec 32) (r : Nat) (vs : Value) (bb : Nat) (w0 w : World) (lK : K.length = 64) (hr1 : 1 ≤ r) (hr2 : r ≤ 10000) (ls : salt.length ≤ 1099511627776)
    (hs : Sl w0 vs salt) (hL : Tabs w0) (hb : Below w0.heap.size w0 w) (hbb : w0.heap.size ≤ bb) (ha : At w bb (u8s (List.replicate 32 0)).toArray 24) :
    Calls Tryd.prog 53 #[.agg (u8s K).toArray, vs, .int .i64 (r : Int), .int .u32 (V n), .func (.func 54) #[] #[.pointer (some ⟨bb, 0, none⟩)]] w
      fun e w' => e = .returned (.tuple #[]) ∧ At w' bb (u8s (blk K salt n r)).toArray 24 ∧ Below w0.heap.size w0 w' ∧ But bb w w' := by
  have hs0 := hs
  obtain ⟨az, cz, rfl, _, _⟩ := hs
  obtain ⟨ns, hns⟩ : ∃ ns, ns = salt.length := ⟨_, rfl⟩
  rw [← hns] at hs0 ⊢
  obtain ⟨F, hF⟩ : ∃ F, F = (u8s K).toArray := ⟨_, rfl⟩
  have hFs : F.size = 64 := by rw [hF]; simp [u8s, lK]
  rw [← hF]
  obtain ⟨e24, e16, e8, e0⟩ := snum_any n
  have bs0 : Below w0.heap.size w0 (w.alloc (.cells F 67)) := hb.alloc hb.size _
  have E24 := Lib.hid e24; have E16 := Lib.hid e16; have E8 := Lib.hid e8; have E0 := Lib.hid e0
  have HF := Lib.hid hF; have FS := Lib.hid hFs; have HS := Lib.hid hs0; have HL := Lib.hid hL; have B0 := Lib.hid bs0; have HB := Lib.hid hb; have HBB := Lib.hid hbb; have HA := Lib.hid ha; have LK := Lib.hid lK; have LS := Lib.hid ls
  clear hF hFs hs0 hns hL hb hbb ha lK e24 e16 e8 e0 bs0 ls
  go_enter Tryd.func53, Tryd.ntmps53
  go_wp2_with fail
  rw [E24.out, E16.out, E8.out, E0.out]
  generalize hw1 : (w.alloc (.cells F 67)).alloc _ = w1
  have k5 : At w1 w.heap.size F 67 := by rw [← hw1]; exact (at_new w F _).alloc _
  have n10 : At w1 (w.heap.size + 1) (u8s (be4 n)).toArray 100 := by
    have h := at_new (w.alloc (.cells F 67)) (u8s (be4 n)).toArray 100
    rw [show (w.alloc (.cells F 67)).heap.size = w.heap.size + 1 by simp] at h
    rw [← hw1]; exact h
  have acc : At w1 bb (u8s (List.replicate 32 0)).toArray 24 := by rw [← hw1]; exact (HA.out.alloc _).alloc _
  have b1 : Below w0.heap.size w0 w1 := by rw [← hw1]; exact B0.out.alloc B0.out.size _
  have bt1 : But bb w w1 := (But.refl bb w).below (by rw [← hw1]; exact ((Below.refl _ _).alloc (Nat.le_refl _) _).alloc (by simp) _)
  have slk : Sl w1 (.slice (some ⟨w.heap.size, 0, none⟩) 64 64) K := at_sl (by rw [← HF.out]; exact k5) LK.out
  have sln : Sl w1 (.slice (some ⟨w.heap.size + 1, 0, none⟩) 4 4) (be4 n) := at_sl n10 rfl
  have sls : Sl w1 (.slice az ns cz) salt := HS.out.below b1
  have hmac := fun (wx : World) (vp : Value) (hx : Below w1.heap.size w1 wx) (h2 : Sls wx vp [salt, be4 n]) => mac_any K [salt, be4 n] (.slice (some ⟨w.heap.size, 0, none⟩) 64 64) vp wx (slk.below hx) h2 (by rw [LK.out]; decide) (by have := LS.out; simp [be4]; omega) (by simp) (HL.out.below (b1.trans (hx.mono b1.size)) (Nat.le_refl _))
  rw [show [salt, be4 n].flatten = salt ++ be4 n by simp] at hmac
  have hone := fun (wx : World) (vp : Value) (i : Nat) (hx : Sl wx (.slice (some ⟨w.heap.size, 0, none⟩) 64 64) K) (hb : Below w0.heap.size w0 wx) (h2 : Sls wx vp [mcs K salt n i]) => one_mac K salt n i (.slice (some ⟨w.heap.size, 0, none⟩) 64 64) vp wx hx h2 LK.out (HL.out.below hb (Nat.le_refl _))
  have hbk : w.heap.size < w1.heap.size := k5.lt
  have hba : bb < w.heap.size := HA.out.lt
  have ALL := Lib.hid run_allocDg
  obtain ⟨Z, hZ⟩ : ∃ Z, Z = Z32 := ⟨_, rfl⟩
  rw [← hZ] at ALL
  have hZs : Z.size = 32 := by rw [hZ]; simp [Z32, u8s]
  obtain ⟨G, hG⟩ : ∃ G, G = mcOf K (salt ++ be4 n) := ⟨_, rfl⟩
  have hGs : G.size = 32 := by rw [hG]; exact mcOf_size _ _
  have hGo : G.all (·.oneCell') = true := by rw [hG]; exact mcOf_one _ _
  rw [← hG] at hmac
  obtain ⟨bk, hbkk⟩ : ∃ b, b = w.heap.size := ⟨_, rfl⟩
  obtain ⟨bn, hbn⟩ : ∃ b, b = w.heap.size + 1 := ⟨_, rfl⟩
  rw [← hbn] at sln
  rw [← hbkk] at slk hmac hone k5 hbk hba
  rw [show w.heap.size + 1 = bn from hbn.symm, show w.heap.size = bk from hbkk.symm]
  have MAC := Lib.hid hmac; have ONE := Lib.hid hone; have SLK := Lib.hid slk; have SLN := Lib.hid sln; have SLS := Lib.hid sls; have B1 := Lib.hid b1; have BT1 := Lib.hid bt1; have ACC := Lib.hid acc; have K5 := Lib.hid k5; have BKL := Lib.hid hbk; have BAL := Lib.hid hba
  have ZS := Lib.hid hZs; have GS := Lib.hid hGs; have GO := Lib.hid hGo; have HG := Lib.hid hG
  clear hmac hone slk sln sls b1 bt1 acc k5 n10 hbk hba hZs hGs hGo hG hZ hw1 hbkk hbn E24 E16 E8 E0 B0 HB HA
  go_cut [11] (fun x wx => OneAt w1 G 24 x wx)
  case first =>
    refine wp_region_plan (.take 0 (.take 1 (.take 2 (.two 3 5 (.two 4 5 (.sole 5 (.sole 6 .done)) (.sole 4 (.sole 6 .done))) (.sole 3 (.sole 4 (.sole 6 .done))))))) (by kernel_rfl) (by kernel_rfl) (by kernel_rfl) ?_
    refine plan_cut _ _ 64 5 bk 0 (by rfl) (by rfl) (by rfl) (by first | (with_reducible exact Mem.ev_const _ _) | (with_reducible exact Mem.ev_zero _ _ _) | (with_reducible (apply Eq.trans (Mem.ev_tmp _ _ _)); simp only [List.getD_cons_succ, List.getD_cons_zero] <;> rfl)) Tryd.underlying67 infoB ?_
    (simp only [Act.put, List.setIfInBounds_toArray, List.set_cons_zero, List.set_cons_succ])
    (first | (refine plan_move _ _ (by rfl) (by rfl) (.inl (by rfl)) (by first | (with_reducible exact Mem.ev_const _ _) | (with_reducible exact Mem.ev_zero _ _ _) | (with_reducible (apply Eq.trans (Mem.ev_tmp _ _ _)); simp only [List.getD_cons_succ, List.getD_cons_zero] <;> rfl)) ?_) | (refine plan_move _ _ (by rfl) (by rfl) (.inr (by rfl)) (by first | (with_reducible exact Mem.ev_const _ _) | (with_reducible exact Mem.ev_zero _ _ _) | (with_reducible (apply Eq.trans (Mem.ev_tmp _ _ _)); simp only [List.getD_cons_succ, List.getD_cons_zero] <;> rfl)) ?_) | (refine plan_pick_t _ _ _ _ (by rfl) (by rfl) (by rfl) (by first | (with_reducible exact Mem.ev_const _ _) | (with_reducible exact Mem.ev_zero _ _ _) | (with_reducible (apply Eq.trans (Mem.ev_tmp _ _ _)); simp only [List.getD_cons_succ, List.getD_cons_zero] <;> rfl)) (by first | (with_reducible exact Mem.ev_const _ _) | (with_reducible exact Mem.ev_zero _ _ _) | (with_reducible (apply Eq.trans (Mem.ev_tmp _ _ _)); simp only [List.getD_cons_succ, List.getD_cons_zero] <;> rfl)) ?_) | (refine plan_pick_f _ _ _ _ (by rfl) (by rfl) (by rfl) (by first | (with_reducible exact Mem.ev_const _ _) | (with_reducible exact Mem.ev_zero _ _ _) | (with_reducible (apply Eq.trans (Mem.ev_tmp _ _ _)); simp only [List.getD_cons_succ, List.getD_cons_zero] <;> rfl)) (by first | (with_reducible exact Mem.ev_const _ _) | (with_reducible exact Mem.ev_zero _ _ _) | (with_reducible (apply Eq.trans (Mem.ev_tmp _ _ _)); simp only [List.getD_cons_succ, List.getD_cons_zero] <;> rfl)) ?_))
    (simp only [Act.put, List.setIfInBounds_toArray, List.set_cons_zero, List.set_cons_succ])
    refine plan_cut _ _ 4 5 bn 0 (by rfl) (by rfl) (by rfl) (by first | (with_reducible exact Mem.ev_const _ _) | (with_reducible exact Mem.ev_zero _ _ _) | (with_reducible (apply Eq.trans (Mem.ev_tmp _ _ _)); simp only [List.getD_cons_succ, List.getD_cons_zero] <;> rfl)) Tryd.underlying100 infoB ?_
    (simp only [Act.put, List.setIfInBounds_toArray, List.set_cons_zero, List.set_cons_succ])
    have B : Hid (Below w1.heap.size w1 w1.drew) := (Below.refl _ _).drew
    generalize w1.drew = W at *
    repeat' (first
      | (refine plan_two ?_ ?_)
      | (refine plan_slice (i := 3) 52 22 2 _ #[.slice az ns cz, .slice (some ⟨bn, 0, none⟩) 4 4] (by rfl) (by rfl) (by rfl) Tryd.underlying52 (by kernel_rfl) (B.out.alloc B.out.size _) ?_
         have LIT := Lib.hid (sls_lit2 (SLS.out.below B.out) (SLN.out.below B.out))
         (try (have A8 := Lib.hid (A8.out.alloc (.cells #[.slice az ns cz, .slice (some ⟨bn, 0, none⟩) 4 4] 22))))
         have B := Lib.hid (B.out.alloc B.out.size (.cells #[.slice az ns cz, .slice (some ⟨bn, 0, none⟩) 4 4] 22))
         (simp only [Act.put, List.setIfInBounds_toArray, List.set_cons_zero, List.set_cons_succ])
         obtain ⟨bl, hbl⟩ : ∃ b, b = W.heap.size := ⟨_, rfl⟩
         rw [← hbl] at LIT ⊢
         clear hbl
         generalize W.alloc _ = W at *)
      | (refine plan_call (i := 4) 19 _ _ _ (by kernel_rfl) (by rfl) (by rfl) (by rfl) (by first | exact Mem.ev_none _ | (simp only [List.map_toArray, List.map_cons, List.map_nil, Mem.ev_tmp, List.getD_cons_succ, List.getD_cons_zero] <;> rfl)) ?_
         refine (MAC.out _ _ B.out LIT.out).mono ?_
         rintro e W ⟨rfl, hbn⟩
         have B := Lib.hid (B.out.trans (hbn.mono B.out.size))
         (try (have A8 := Lib.hid (A8.out.below hbn A8.out.lt)))
         clear hbn
         refine ⟨_, rfl, B.out, ?_⟩
         (simp only [Act.put, List.setIfInBounds_toArray, List.set_cons_zero, List.set_cons_succ]))
      | (refine plan_alloc_any (i := 5) 24 Z (by rfl) (by rfl) (by rfl) ALL.out (fun W' h => h _ _ B.out B.out.size) ?_
         intro b8 W ha hlo _ hbb
         have LO8 := Lib.hid (Nat.le_trans B.out.size hlo)
         (try (have LIT := Lib.hid (LIT.out.below (hbb _ _ (Below.refl _ _) (Nat.le_refl _)))))
         have B := Lib.hid (hbb _ _ B.out B.out.size)
         have A8 := Lib.hid ha
         clear ha hlo hbb
         (simp only [Act.put, List.setIfInBounds_toArray, List.set_cons_zero, List.set_cons_succ]))
      | (refine plan_store_any (i := 6) 24 _ _ b8 G Z 24 (by rfl) (by rfl) (by rfl) (by rfl) (by rfl) (by rfl) (by rw [GS.out]; exact info32) A8.out (by rw [GS.out, ZS.out]) GO.out (fun W' h => h _ _ B.out LO8.out) ?_
         intro W ha _ hbb
         have B := Lib.hid (hbb _ _ B.out LO8.out)
         have A8 := Lib.hid ha
         clear ha hbb))
    all_goals (refine plan_nil ?_; go_wp2_with fail; go_meet; exact ⟨b8, rfl, LO8.out, A8.out, B.out⟩)
  case rest =>
    obtain ⟨bm, rfl, hlo, hat, hb⟩ := hcut
    rw [HG.out, show mcOf K (salt ++ be4 n) = (u8s (mcs K salt n 0)).toArray from rfl] at hat
    have hlit := lit_any (List.replicate 32 0) (mcs K salt n 0) (by simp) (mcs_length K salt n 0) bb wc (ACC.out.below hb (Nat.lt_trans BAL.out BKL.out))
    have hwc : w.heap.size ≤ wc.heap.size := Nat.le_trans BT1.out.size hb.size
    have hbm : w.heap.size ≤ bm := Nat.le_trans BT1.out.size hlo
    have hbm0 : w0.heap.size ≤ bm := Nat.le_trans B1.out.size hlo
    have hkm : bk ≠ bm := by have := BKL.out; omega
    have ham : bb ≠ bm := by have := BKL.out; have := BAL.out; omega
    have hbka : bk ≠ bb := by have := BAL.out; omega
    obtain ⟨D, hD⟩ : ∃ D, D = (u8s (mcs K salt n 0)).toArray := ⟨_, rfl⟩
    have hDs : D.size = 32 := by rw [hD]; simp [u8s, mcs_length]
    rw [← hD] at hat hlit
    have LIT := Lib.hid hlit; have HAT := Lib.hid hat; have BMW := Lib.hid hbm; have BM0 := Lib.hid hbm0; have KM := Lib.hid hkm; have AM := Lib.hid ham; have KA := Lib.hid hbka; have DS := Lib.hid hDs; have HD := Lib.hid hD
    have BC := Lib.hid (B1.out.trans (hb.mono B1.out.size)); have BTC := Lib.hid (BT1.out.below hb); have KC := Lib.hid (K5.out.below hb BKL.out)
    clear hlit hat hbm hbm0 hkm ham hbka hDs hD hb hlo hwc MAC SLK SLN SLS B1 BT1 ACC K5 BKL BAL ZS GS GO HG ALL
    go_wp2_with (refine wpList_load_all (by rfl) 24 _ (by rfl) bm (by rfl) _ Tryd.underlying24 (by rfl) D _ HAT.out (by rw [DS.out]; exact info32) ?_)
    refine LIT.out.mono ?_
    rintro e w2 ⟨rfl, ha2, hb2, hbl2⟩
    have I0 : Hid (EInv K salt n w0 w bb bk bm 1 w2) := ⟨ha2, by rw [← HF.out]; exact KC.out.but hb2 KA.out, by show At w2 bm (u8s (mcs K salt n 0)).toArray _; rw [← HD.out]; exact HAT.out.but hb2 (Ne.symm AM.out), hbl2 _ _ BC.out HBB.out BC.out.size, But.same BTC.out hb2⟩
    clear ha2 hb2 hbl2 LIT HAT BC BTC KC HD DS
    go_wp2_with fail
    go_loopw [34] (fun i wr => ∃ j : Nat, j ≤ r - 1 ∧ i = .int .i64 j ∧ EInv K salt n w0 w bb bk bm (j + 1) wr) (fun i _ => r - (intOf i).toNat)
    case atStart => exact ⟨0, by omega, rfl, I0.out⟩
    case round =>
      clear I0
      obtain ⟨j, hj, rfl, hI⟩ := hrel
      by_cases hlt : j < r - 1
      · have hlt' : (j : Int) < (r : Int) - 1 := by omega
        have slk : Sl wr.drew (.slice (some ⟨bk, 0, none⟩) 64 64) K := at_sl hI.key LK.out
        have slm : Sl wr.drew (.slice (some ⟨bm, 0, none⟩) 32 32) (mcs K salt n j) := at_sl (by have h := hI.mac; rw [Nat.add_sub_cancel] at h; exact h) (mcs_length K salt n j)
        have mac0 : At wr bm (u8s (mcs K salt n j)).toArray 24 := by have h := hI.mac; rw [Nat.add_sub_cancel] at h; exact h
        have hlit := fun (wx : World) (h : At wx bb (u8s (blk K salt n (j + 1))).toArray 24) => lit_any (blk K salt n (j + 1)) (mcs K salt n (j + 1)) (blk_length K salt n (j + 1)) (mcs_length K salt n (j + 1)) bb wx h
        obtain ⟨D, hD⟩ : ∃ D, D = (u8s (mcs K salt n (j + 1))).toArray := ⟨_, rfl⟩
        have hDs : D.size = 32 := by rw [hD]; simp [u8s, mcs_length]
        have hDo : D.all (·.oneCell') = true := by rw [hD]; exact u8s_one _
        have hone := fun (wx : World) (vp : Value) (hx : Sl wx (.slice (some ⟨bk, 0, none⟩) 64 64) K) (hb : Below w0.heap.size w0 wx) (h2 : Sls wx vp [mcs K salt n j]) => ONE.out wx vp j hx hb h2
        have m0s : (u8s (mcs K salt n j)).toArray.size = 32 := by simp [u8s, mcs_length]
        rw [← hD] at hlit hone
        have SLK := Lib.hid slk; have SLM := Lib.hid slm; have M0 := Lib.hid mac0; have LIT := Lib.hid hlit; have ON := Lib.hid hone; have DS := Lib.hid hDs; have DO := Lib.hid hDo; have HD := Lib.hid hD; have II := Lib.hid hI; have MS := Lib.hid m0s
        clear slk slm mac0 hlit hone hDs hDo hD hI m0s
        go_wp2_with fail
        refine wp_region_plan_in (fun w' => But bm wr w' ∧ Below w0.heap.size w0 w') (.take 0 (.take 1 (.sole 2 (.sole 3 (.sole 4 .done))))) (by kernel_rfl) (by kernel_rfl) (by kernel_rfl) ⟨⟨Nat.le_refl _, fun _ _ _ => rfl⟩, II.out.b.drew⟩ ?_
        refine plan_cut _ _ 64 5 bk 0 (by rfl) (by rfl) (by rfl) (by first | (with_reducible exact Mem.ev_const _ _) | (with_reducible exact Mem.ev_zero _ _ _) | (with_reducible (apply Eq.trans (Mem.ev_tmp _ _ _)); simp only [List.getD_cons_succ, List.getD_cons_zero] <;> rfl)) Tryd.underlying67 infoB ?_
        (simp only [Act.put, List.setIfInBounds_toArray, List.set_cons_zero, List.set_cons_succ])
        refine plan_cut _ _ 32 5 bm 0 (by rfl) (by rfl) (by rfl) (by first | (with_reducible exact Mem.ev_const _ _) | (with_reducible exact Mem.ev_zero _ _ _) | (with_reducible (apply Eq.trans (Mem.ev_tmp _ _ _)); simp only [List.getD_cons_succ, List.getD_cons_zero] <;> rfl)) Tryd.underlying24 infoB ?_
        (simp only [Act.put, List.setIfInBounds_toArray, List.set_cons_zero, List.set_cons_succ])
        have B : Hid (Below wr.heap.size wr wr.drew) := (Below.refl _ _).drew
        generalize wr.drew = W at *
        refine plan_slice 52 22 1 _ #[.slice (some ⟨bm, 0, none⟩) 32 32] (by rfl) (by rfl) (by rfl) Tryd.underlying52 (by kernel_rfl) ⟨(But.refl _ _).below (B.out.alloc B.out.size _), II.out.b.trans ((B.out.alloc B.out.size _).mono II.out.b.size)⟩ ?_
        have SLS := Lib.hid (sls_lit1 SLM.out)
        have SK := Lib.hid (SLK.out.below ((Below.refl _ _).alloc (Nat.le_refl _) (.cells #[.slice (some ⟨bm, 0, none⟩) 32 32] 22)))
        have B := Lib.hid (B.out.alloc B.out.size (.cells #[.slice (some ⟨bm, 0, none⟩) 32 32] 22))
        (simp only [Act.put, List.setIfInBounds_toArray, List.set_cons_zero, List.set_cons_succ])
        refine plan_call 19 _ _ _ (by kernel_rfl) (by rfl) (by rfl) (by rfl) (by first | exact Mem.ev_none _ | (simp only [List.map_toArray, List.map_cons, List.map_nil, Mem.ev_tmp, List.getD_cons_succ, List.getD_cons_zero] <;> rfl)) ?_
        refine (ON.out _ _ SK.out (II.out.b.trans (B.out.mono II.out.b.size)) SLS.out).mono ?_
        rintro e W ⟨rfl, hbn⟩
        have B := Lib.hid (B.out.trans (hbn.mono B.out.size))
        clear hbn
        refine ⟨_, rfl, ⟨(But.refl _ _).below B.out, II.out.b.trans (B.out.mono II.out.b.size)⟩, ?_⟩
        (simp only [Act.put, List.setIfInBounds_toArray, List.set_cons_zero, List.set_cons_succ])
        refine plan_store 24 _ _ bm D _ 24 (by rfl) (by rfl) (by rfl) (by rfl) (by first | (with_reducible exact Mem.ev_const _ _) | (with_reducible exact Mem.ev_zero _ _ _) | (with_reducible (apply Eq.trans (Mem.ev_tmp _ _ _)); simp only [List.getD_cons_succ, List.getD_cons_zero] <;> rfl)) (by first | (with_reducible exact Mem.ev_const _ _) | (with_reducible exact Mem.ev_zero _ _ _) | (with_reducible (apply Eq.trans (Mem.ev_tmp _ _ _)); simp only [List.getD_cons_succ, List.getD_cons_zero] <;> rfl)) (by rw [DS.out]; exact info32) (M0.out.below B.out M0.out.lt) (by rw [DS.out, MS.out]) DO.out ⟨((But.refl _ _).below B.out).row (by simp) (fun k hk => setRow_other _ _ _ _ hk), below_row (II.out.b.trans (B.out.mono II.out.b.size)) BM0.out D⟩ ?_
        refine plan_nil ?_
        have a3 : At (W.setRow bm D) bb (u8s (blk K salt n (j + 1))).toArray 24 := (II.out.acc.below B.out II.out.acc.lt).row_other D AM.out
        have k3 : At (W.setRow bm D) bk (u8s K).toArray 67 := (II.out.key.below B.out II.out.key.lt).row_other D KM.out
        have m3 : At (W.setRow bm D) bm D 24 := (M0.out.below B.out M0.out.lt).row D
        have b3 : Below w0.heap.size w0 (W.setRow bm D) := below_row (II.out.b.trans (B.out.mono II.out.b.size)) BM0.out D
        have t3 : But bb w (W.setRow bm D) := But.over II.out.bt (((But.refl bm wr).below B.out).row (by simp) (fun k hk => setRow_other _ _ _ _ hk)) BMW.out
        have A3 := Lib.hid a3; have K3 := Lib.hid k3; have M3 := Lib.hid m3; have B3 := Lib.hid b3; have T3 := Lib.hid t3
        clear a3 k3 m3 b3 t3
        generalize W.setRow bm D = W3 at *
        go_wp2_with (refine wpList_load_all (by rfl) 24 _ (by rfl) bm (by rfl) _ Tryd.underlying24 (by rfl) D _ M3.out (by rw [DS.out]; exact info32) ?_)
        refine (LIT.out _ A3.out).mono ?_
        rintro e w4 ⟨rfl, ha4, hb4, hbl4⟩
        have I4 : Hid (EInv K salt n w0 w bb bk bm (j + 1 + 1) w4) := ⟨ha4, K3.out.but hb4 KA.out, by rw [Nat.add_sub_cancel, ← HD.out]; exact M3.out.but hb4 (Ne.symm AM.out), hbl4 _ _ B3.out HBB.out B3.out.size, But.same T3.out hb4⟩
        clear ha4 hb4 hbl4
        go_wp2_with fail
        go_roundw
        case rel => exact ⟨j + 1, by omega, by go_num, I4.out⟩
        case measure => simp [intOf]; omega
      · have hjr : j + 1 = r := by omega
        have hge : ¬ (j : Int) < (r : Int) - 1 := by omega
        rw [hjr] at hI
        have II := Lib.hid hI
        clear hI hjr hlt hj
        go_wp2_with fail
        go_end0
        exact ⟨rfl, II.out.acc, II.out.b, II.out.bt⟩
end Sha
end Go.Proofs.YtjadjidjfkahpaaDoor
namespace Go.Proofs.YtjadjidjfkahpaaDoor
namespace Sha
open Go.RowKit Mem
def bkOf (k salt : List (BitVec 8)) (n : BitVec 32) (r : Nat) : Array Value := (u8s (blk k salt n r)).toArray
theorem bkOf_size (k salt : List (BitVec 8)) (n : BitVec 32) (r : Nat) : (bkOf k salt n r).size = 32 := by simp [bkOf, u8s, blk_length]
theorem bkOf_one (k salt : List (BitVec 8)) (n : BitVec 32) (r : Nat) : (bkOf k salt n r).all (·.oneCell') = true := u8s_one _
set_option maxRecDepth 100000 in
set_option maxHeartbeats 1000000 in
theorem joined_any (K salt : List (BitVec 8)) (n : BitVec 32) (r : Nat) (vs : Value) (w : World) (lK : K.length = 64) (hr1 : 1 ≤ r) (hr2 : r ≤ 10000) (ls : salt.length ≤ 1099511627776) (hs : Sl w vs salt) (hL : Tabs w) :
    Calls Tryd.prog 37 #[.agg (u8s K).toArray, vs, .int .i64 (r : Int), .int .u32 (V n)] w fun e w' => e = .returned (.agg (bkOf K salt n r)) ∧ Below w.heap.size w w' := by
  have hmf : ∀ (fn : Fn) (first cap : Array Value) (w : World), (Instr.makeFunc fn first cap).run Tryd.prog w = .ok (.func fn first cap) w := fun _ _ _ _ => rfl
  obtain ⟨F, hF⟩ : ∃ F, F = (u8s K).toArray := ⟨_, rfl⟩
  have hFs : F.size = 64 := by rw [hF]; simp [u8s, lK]
  obtain ⟨X, hX⟩ : ∃ X, X = Z32 := ⟨_, rfl⟩
  have hx := zero32
  rw [← hX] at hx
  have hXs : X.size = 32 := by rw [hX]; simp [Z32, u8s]
  obtain ⟨M, hM⟩ : ∃ M, M = bkOf K salt n r := ⟨_, rfl⟩
  have hMs : M.size = 32 := by rw [hM]; exact bkOf_size _ _ _ _
  have hMo : M.all (·.oneCell') = true := by rw [hM]; exact bkOf_one _ _ _ _
  have f3 : At (((w.alloc (.cells F 67)).alloc (.cells X 24)).alloc (.cells X 24)) w.heap.size F 67 := ((at_new w F _).alloc _).alloc _
  have r3 : At (((w.alloc (.cells F 67)).alloc (.cells X 24)).alloc (.cells X 24)) (w.heap.size + 1) X 24 := by
    have h := (at_new (w.alloc (.cells F 67)) X 24).alloc (.cells X 24)
    simpa using h
  have k3 : At (((w.alloc (.cells F 67)).alloc (.cells X 24)).alloc (.cells X 24)) (w.heap.size + 1 + 1) X 24 := by
    have h := at_new ((w.alloc (.cells F 67)).alloc (.cells X 24)) X 24
    simpa using h
  have b3 : Below w.heap.size w (((w.alloc (.cells F 67)).alloc (.cells X 24)).alloc (.cells X 24)) := (((Below.refl _ _).alloc (Nat.le_refl _) _).alloc (by simp) _).alloc (by simp; omega) _
  have hea := each_any K salt n r vs (w.heap.size + 1 + 1) w (((w.alloc (.cells F 67)).alloc (.cells X 24)).alloc (.cells X 24)) lK hr1 hr2 ls hs hL b3 (by omega) (by rw [show (u8s (List.replicate 32 0)).toArray = X by rw [hX]; rfl]; exact k3)
  rw [← hF] at hea
  rw [show (u8s (blk K salt n r)).toArray = M from hM.symm] at hea
  rw [← hF, ← hM]
  have EA := Lib.hid hea; have FS := Lib.hid hFs; have XS := Lib.hid hXs; have MS := Lib.hid hMs; have MO := Lib.hid hMo; have F3 := Lib.hid f3; have R3 := Lib.hid r3
  clear hea hFs hXs hMs hMo f3 r3 k3 b3 hF hX hM hs hL lK ls
  go_enter Tryd.func37, Tryd.ntmps37
  go_wp2_with (refine wpList_load_all (by rfl) 67 _ (by rfl) w.heap.size (by rfl) _ Tryd.underlying67 (by rfl) F _ F3.out (by rw [FS.out]; exact infoK) ?_)
  refine EA.out.mono ?_
  rintro e w4 ⟨rfl, ha4, hb4, ht4⟩
  have A4 := Lib.hid ha4; have B4 := Lib.hid hb4; have R4 := Lib.hid (R3.out.but ht4 (by omega))
  clear ha4 hb4 ht4 EA F3 R3
  go_wp2_with (first | (refine wpList_load_all (by rfl) 24 _ (by rfl) (w.heap.size + 1 + 1) (by rfl) _ Tryd.underlying24 (by rfl) M _ A4.out (by rw [MS.out]; exact info32) ?_) | (refine wpList_store_all (by rfl) 24 _ _ (by rfl) (by rfl) (w.heap.size + 1) M (by rfl) (by rfl) (by rw [MS.out]; exact info32) _ _ R4.out (by rw [MS.out, XS.out]) MO.out ?_))
  try simp only [Exit.inBlock, Exit.then]
  refine ret_row (by rfl) (w.heap.size + 1) 24 M _ (by rfl) (R4.out.row M) Tryd.underlying24 (by rfl) (by rw [MS.out]; exact info32) ?_
  exact ⟨rfl, below_row B4.out (by omega) M⟩
/-- May there be so many rounds? -/
def roundsB (r : Int) : Bool := decide (1 ≤ r) && decide (r ≤ 10000)
set_option maxHeartbeats 400000 in
theorem areRounds_any (r : Int) (w : World) : Calls Tryd.prog 36 #[.int .i64 r] w fun e w' => e = .returned (.bool (roundsB r)) ∧ w = w' := by
  by_cases h1 : 1 ≤ r
  · by_cases h2 : r ≤ 10000
    · have e : Hid (roundsB r = true) := by simp [Hid, roundsB, h1, h2]
      go_enter Tryd.func36, Tryd.ntmps36
      go_wp2
      go_ret
      exact ⟨by rw [e.out]; rfl, rfl⟩
    · have e : Hid (roundsB r = false) := by simp [Hid, roundsB, h2]
      go_enter Tryd.func36, Tryd.ntmps36
      go_wp2
      go_ret
      exact ⟨by rw [e.out]; rfl, rfl⟩
  · have e : Hid (roundsB r = false) := by simp [Hid, roundsB, h1]
    go_enter Tryd.func36, Tryd.ntmps36
    go_wp2
    go_ret
    exact ⟨by rw [e.out]; rfl, rfl⟩
end Sha
end Go.Proofs.YtjadjidjfkahpaaDoor
namespace Go.Proofs.YtjadjidjfkahpaaDoor
namespace Sha
open Go.RowKit Mem
/-- The key behind j blocks. -/
def kr (p salt : List (BitVec 8)) (r size j : Nat) : List (BitVec 8) := (blks p salt r j).take size ++ List.replicate (size - 32 * j) 0
theorem kr_length (p salt : List (BitVec 8)) (r size j : Nat) : (kr p salt r size j).length = size := by
  rw [kr, List.length_append, List.length_take, blks_length, List.length_replicate]; omega
theorem kr_splice (p salt : List (BitVec 8)) (r size j : Nat) (h : 32 * j < size) :
    Mem.splice (u8s (kr p salt r size j)).toArray (32 * j) (u8s ((blk p salt (BitVec.ofNat 32 (j + 1)) r).take (min 32 (size - 32 * j)))) = (u8s (kr p salt r size (j + 1))).toArray := by
  have e0 : kr p salt r size j = blks p salt r j ++ List.replicate (size - 32 * j) 0 := by
    rw [kr, List.take_of_length_le (by rw [blks_length]; omega)]
  have lb := blks_length p salt r j
  have lk := blk_length p salt (BitVec.ofNat 32 (j + 1)) r
  have e1 : kr p salt r size (j + 1) = blks p salt r j ++ (blk p salt (BitVec.ofNat 32 (j + 1)) r).take (min 32 (size - 32 * j)) ++ List.replicate (size - 32 * j - min 32 (size - 32 * j)) 0 := by
    rw [kr, blks, List.take_append, lb, List.take_of_length_le (by omega)]
    congr 2
    · by_cases h32 : 32 ≤ size - 32 * j
      · rw [Nat.min_eq_left h32, List.take_of_length_le (by omega), List.take_of_length_le (by omega)]
      · rw [Nat.min_eq_right (by omega)]
    · omega
  rw [e0, e1]
  unfold Mem.splice u8s
  rw [List.map_append, List.map_append, List.map_append]
  have h1 : (List.map (fun x : BitVec 8 => Value.int .u8 (x.toNat : Int)) (blks p salt r j)).length = 32 * j := by simp [lb]
  congr 1
  rw [List.take_left' h1]
  congr 1
  rw [List.length_map, List.length_take, lk, List.drop_append, h1, List.drop_of_length_le (by omega), List.nil_append, ← List.map_drop, List.drop_replicate]
  congr 2
  omega
theorem kr_zero (p salt : List (BitVec 8)) (r size : Nat) : kr p salt r size 0 = List.replicate size 0 := by simp [kr, blks]
theorem kr_all (p salt : List (BitVec 8)) (r size j : Nat) (h : size ≤ 32 * j) : kr p salt r size j = stretched p salt r size := by
  rw [kr, stretched_from p salt r size j h, Nat.sub_eq_zero_of_le h, List.replicate_zero, List.append_nil]
end Sha
end Go.Proofs.YtjadjidjfkahpaaDoor
namespace Go.Proofs.YtjadjidjfkahpaaDoor
namespace Sha
open Go.RowKit Mem
structure KInv (p salt : List (BitVec 8)) (r size : Nat) (F : Array Value) (w : World) (bk b10 j : Nat) (wr : World) : Prop where
  row : At wr bk (u8s (kr p salt r size j)).toArray 5
  key : At wr b10 F 67
  b : Below w.heap.size w wr
def KRel (p salt : List (BitVec 8)) (r size : Nat) (F : Array Value) (w : World) (bk b10 : Nat) (vn vl : Value) (wr : World) : Prop :=
  ∃ j : Nat, 32 * j ≤ size + 31 ∧ vn = .int .u32 (V (BitVec.ofNat 32 (j + 1))) ∧ (∃ a c, vl = .slice a (size - 32 * j) c ∧ (32 * j < size → a = some ⟨bk, 32 * j, none⟩ ∧ c = size - 32 * j)) ∧ KInv p salt r size F w bk b10 j wr
def KEnd (w : World) (L : List (BitVec 8)) (e : Ending) (w' : World) : Prop :=
  ∃ g, e = .returned (.tuple #[.slice (some ⟨g, 0, none⟩) L.length L.length, .int .i64 0]) ∧ At w' g (u8s L).toArray 5 ∧ w.heap.size ≤ g ∧ Below w.heap.size w w'
theorem V_next (j : Nat) (_h : j ≤ 4294967000) : (V (BitVec.ofNat 32 (j + 1)) + 1) % (4294967296 : Int) = V (BitVec.ofNat 32 (j + 1 + 1)) := by
  unfold V
  rw [BitVec.toNat_ofNat, BitVec.toNat_ofNat]
  omega
set_option maxRecDepth 100000 in
set_option maxHeartbeats 1000000 in
theorem skey_good (p salt : List (BitVec 8)) (r size : Nat) (vp vs : Value) (w : World) (hr1 : 1 ≤ r) (hr2 : r ≤ 10000) (hz : size ≤ 1024) (lp : p.length ≤ 1099511627776) (ls : salt.length ≤ 1099511627776) (hp : Sl w vp p) (hs : Sl w vs salt) (hL : Tabs w) :
    Calls Tryd.prog 24 #[vp, vs, .int .i64 (r : Int), .int .i64 (size : Int)] w (KEnd w (stretched p salt r size)) := by
  obtain ⟨X, hX⟩ : ∃ X, X = Z32 := ⟨_, rfl⟩
  have hx := zero32
  rw [← hX] at hx
  have hXs : X.size = 32 := by rw [hX]; simp [Z32, u8s]
  obtain ⟨Z, hZ⟩ : ∃ Z, Z = ZT := ⟨_, rfl⟩
  have hzk := zeroK
  rw [← hZ] at hzk
  have hZs : Z.size = 64 := by rw [hZ]; exact ZT_size
  have har := fun wx => areRounds_any (r : Int) wx
  rw [show roundsB (r : Int) = true by simp [roundsB]; omega] at har
  have hkey := fun (wx : World) (hx : Below w.heap.size w wx) => key_any p vp wx (hp.below hx) (by omega) (hL.below hx (Nat.le_refl _))
  have hjo := fun (j : Nat) (wx : World) (hx : Below w.heap.size w wx) => joined_any (keyOf p) salt (BitVec.ofNat 32 (j + 1)) r vs wx (keyOf_length p) hr1 hr2 ls (hs.below hx) (hL.below hx (Nat.le_refl _))
  have hjo2 : ∀ (j : Nat) (wx : World), Below w.heap.size w wx → Calls Tryd.prog 37 #[.agg (u8s (keyOf p)).toArray, vs, .int .i64 (r : Int), .int .u32 (V (BitVec.ofNat 32 (j + 1)))] wx fun e w' => e = .returned (.agg (u8s (blk p salt (BitVec.ofNat 32 (j + 1)) r)).toArray) ∧ Below wx.heap.size wx w' := fun j wx hx => by
    have h := hjo j wx hx
    rw [show bkOf (keyOf p) salt (BitVec.ofNat 32 (j + 1)) r = (u8s (blk p salt (BitVec.ofNat 32 (j + 1)) r)).toArray by unfold bkOf; rw [blk_key]] at h
    exact h
  clear hjo
  unfold kyOf at hkey
  obtain ⟨F, hF⟩ : ∃ F, F = (u8s (keyOf p)).toArray := ⟨_, rfl⟩
  have hFs : F.size = 64 := by rw [hF]; simp [u8s, keyOf_length]
  have hFo : F.all (·.oneCell') = true := by rw [hF]; exact u8s_one _
  rw [← hF] at hkey hjo2
  obtain ⟨i8, hi8, hz8, hs8, hb8⟩ := info_parts infoU8
  have h0 : ¬ (size : Int) < 0 := by omega
  have h1 : ¬ (1024 : Int) < (size : Int) := by omega
  have AR := Lib.hid har; have KEY := Lib.hid hkey; have JO := Lib.hid hjo2; have XS := Lib.hid hXs; have ZS := Lib.hid hZs; have FS := Lib.hid hFs; have FO := Lib.hid hFo; have I8 := Lib.hid hi8; have Z8 := Lib.hid hz8; have S8 := Lib.hid hs8; have B8' := Lib.hid hb8
  clear har hkey hjo2 hXs hZs hFs hFo hX hZ hF hp hs hL hi8 hz8 hs8 hb8
  go_enter Tryd.func24, Tryd.ntmps24
  go_wp2_with (first
    | (go_at_call 36; refine (AR.out _).mono ?_; rintro e w' ⟨rfl, rfl⟩)
    | (go_at_call 30; refine (KEY.out _ (Below.refl _ _)).mono ?_; rintro e w2 ⟨rfl, hb2⟩; have B2 := Lib.hid hb2; clear hb2)
    | (refine wpList_store_new (by rfl) 67 _ _ (by rfl) (by rfl) F _ _ (by rfl) (by rfl) (by rw [FS.out]; exact infoK) (by rw [FS.out, ZS.out]) FO.out ?_; have F3 := Lib.hid (at_new w2 F 67); have B3 := Lib.hid (B2.out.alloc B2.out.size (.cells F 67)); generalize w2.alloc (.cells F 67) = w3 at *; generalize w2.heap.size = b10 at *)
    | (refine wpList_make_full _ (by rfl) _ _ 22 (by rfl) w3.heap.size 5 i8 (.int .u8 0) 1 Tryd.underlying22 I8.out Z8.out S8.out .i64 .i64 _ _ size (by rfl) (by rfl) rfl rfl (by rw [B8'.out]; omega) (by simp [maxLen]; omega) (Nat.le_refl _) ?_; intro w4 ho4 hg4; have O4 := Lib.hid ho4; have G4 := Lib.hid hg4; clear ho4 hg4))
  generalize Value.bool (decide ((1024 : Int) < (size : Int))) = q24
  have row0 : At w4 w3.heap.size (u8s (kr p salt r size 0)).toArray 5 := by
    rw [kr_zero]
    have h := own_full O4.out
    rw [made_zeros] at h
    exact h
  have key0 : At w4 b10 F 67 := by
    have h := F3.out
    have hl := F3.out.lt
    unfold At at *
    rw [G4.out.block b10 hl (by simp)]; exact h
  have b40 : Below w.heap.size w w4 := B3.out.grown G4.out B3.out.size (fun _ h => by cases h)
  have hbk : w.heap.size ≤ w3.heap.size := B3.out.size
  have hne : b10 ≠ w3.heap.size := Nat.ne_of_lt F3.out.lt
  have I0 : Hid (KInv p salt r size F w w3.heap.size b10 0 w4) := ⟨row0, key0, b40⟩
  generalize w3.heap.size = bk at *
  have BK := Lib.hid hbk; have NE := Lib.hid hne
  clear row0 key0 b40 hbk hne O4 G4 F3 B3 I8 Z8 S8 B8' KEY AR B2
  go_loopw [12, 13, 14] (fun vn vl _ wr => KRel p salt r size F w bk b10 vn vl wr) (fun _ vl _ _ => (match vl with | .slice _ l _ => l | _ => 0))
  case atStart => exact ⟨0, by omega, rfl, ⟨some ⟨bk, 0, none⟩, size, by simp, fun _ => ⟨by simp, by simp⟩⟩, I0.out⟩
  case round =>
    clear I0
    obtain ⟨j, hj, rfl, ⟨al, cl, rfl, hal⟩, hI⟩ := hrel
    obtain ⟨q, hq⟩ : ∃ q, q = size - 32 * j := ⟨_, rfl⟩
    rw [← hq] at hal ⊢
    by_cases hlt : 32 * j < size
    · obtain ⟨rfl, hcq⟩ := hal hlt
      rw [hcq]
      clear hcq
      have hq0 : (q : Int) > 0 := by omega
      obtain ⟨k, hk⟩ : ∃ k, k = min 32 (size - 32 * j) := ⟨_, rfl⟩
      have hsp := kr_splice p salt r size j hlt
      rw [← hk] at hsp
      have hkq : k ≤ q := by omega
      have hk32 : k = min 32 q := by omega
      have hjo := JO.out j
      obtain ⟨N, hN⟩ : ∃ N, N = BitVec.ofNat 32 (j + 1) := ⟨_, rfl⟩
      have hN2 : (V N + 1) % (4294967296 : Int) = V (BitVec.ofNat 32 (j + 1 + 1)) := by rw [hN]; exact V_next j (by omega)
      rw [← hN] at hjo hsp ⊢
      obtain ⟨T, hT⟩ : ∃ T, T = blk p salt N r := ⟨_, rfl⟩
      have hTl : T.length = 32 := by rw [hT]; exact blk_length _ _ _ _
      rw [← hT] at hjo hsp
      obtain ⟨D, hD⟩ : ∃ D, D = (u8s T).toArray := ⟨_, rfl⟩
      have hDs : D.size = 32 := by rw [hD]; simp [u8s, hTl]
      have hDo : D.all (·.oneCell') = true := by rw [hD]; exact u8s_one _
      rw [← hD] at hjo
      have hrs : (u8s (kr p salt r size j)).toArray.size = size := by simp [u8s, kr_length]
      have II := Lib.hid hI; have SP := Lib.hid hsp; have JJ := Lib.hid hjo; have N2 := Lib.hid hN2; have TL := Lib.hid hTl; have HD := Lib.hid hD; have DS := Lib.hid hDs; have DO := Lib.hid hDo; have HK := Lib.hid hk32; have KQ := Lib.hid hkq; have RS := Lib.hid hrs; have HQ := Lib.hid hq
      clear hI hsp hjo hN2 hTl hD hDs hDo hk32 hkq hk hrs hT hN hal hq
      go_wp2_with (first
        | (refine wpList_load_all (by rfl) 67 _ (by rfl) b10 (by rfl) _ Tryd.underlying67 (by rfl) F _ II.out.key (by rw [FS.out]; exact infoK) ?_)
        | (go_at_call 37; refine (JJ.out _ II.out.b).mono ?_; rintro e w5 ⟨rfl, hb5⟩; have R5 := Lib.hid (II.out.row.below hb5 II.out.row.lt); have K5 := Lib.hid (II.out.key.below hb5 II.out.key.lt); have B5 := Lib.hid (II.out.b.trans (hb5.mono II.out.b.size)); clear hb5)
        | (refine wpList_store_new (by rfl) 24 _ _ (by rfl) (by rfl) D _ _ (by rfl) (by rfl) (by rw [DS.out]; exact info32) (by rw [DS.out, XS.out]) DO.out ?_; have D6 := Lib.hid (at_new w5 D 24); have R6 := Lib.hid (R5.out.alloc (.cells D 24)); have K6 := Lib.hid (K5.out.alloc (.cells D 24)); have B6 := Lib.hid (B5.out.alloc B5.out.size (.cells D 24)); generalize w5.alloc (.cells D 24) = w6 at *; generalize w5.heap.size = bg at *)
        | (refine wpList_copy_sl (by rfl) _ _ (by rfl) bk (32 * j) q q (.slice (some ⟨bg, 0, none⟩) 32 32) T (by rfl) (by rfl) (at_sl (by have h := D6.out; rw [HD.out] at h; exact h) TL.out) k (by rw [TL.out]; exact HK.out) _ _ R6.out (by have := HQ.out; have := KQ.out; rw [RS.out]; omega) _ SP.out ?_; intro w7 ha7 hs7 ho7 hbb7; have R7 := Lib.hid ha7; have K7 := Lib.hid (at_keep K6.out ho7 NE.out); have B7 := Lib.hid (hbb7 _ _ B6.out BK.out); clear ha7 hs7 ho7 hbb7)
        | (refine wpList_slice_low (by rfl) _ _ _ (by rfl) 5 Tryd.underlying22 infoB (some ⟨bk, 32 * j, none⟩) q q k (by rfl) (by rfl) KQ.out ?_; intro a8 ha8; have A8 := Lib.hid ha8; clear ha8))
      rw [N2.out]
      go_roundw
      case rel =>
        have hq := HQ.out
        have hk := HK.out
        refine ⟨j + 1, by omega, rfl, ⟨a8, q - k, by rw [show size - 32 * (j + 1) = q - k by omega], fun h => ⟨by rw [A8.out _ _ rfl (by omega), show 32 * j + k = 32 * (j + 1) by omega], by omega⟩⟩, R7.out, K7.out, B7.out⟩
      case measure => simp only; have := HK.out; omega
    · have hq0 : q = 0 := by omega
      have hall := kr_all p salt r size j (by omega)
      have hrow := hI.row
      rw [hall] at hrow
      have hge : ¬ (q : Int) > 0 := by omega
      have RW := Lib.hid hrow; have BB := Lib.hid hI.b
      clear hrow hI hall hq0 hal hq hlt
      go_wp2_with fail
      go_ret2
      exact ⟨bk, by rw [stretched_length]; rfl, RW.out, BK.out, BB.out⟩
end Sha
end Go.Proofs.YtjadjidjfkahpaaDoor
namespace Go.Proofs.YtjadjidjfkahpaaDoor
namespace Sha
open Go.RowKit Mem
/-- Is there such a key? -/
def keyB (r size : Int) : Bool := roundsB r && decide (0 ≤ size) && decide (size ≤ 1024)
set_option maxRecDepth 100000 in
set_option maxHeartbeats 400000 in
theorem skey_bad (r size : Int) (vp vs : Value) (w : World) (h : keyB r size = false) :
    Calls Tryd.prog 24 #[vp, vs, .int .i64 r, .int .i64 size] w fun e w' => e = .returned (.tuple #[.slice none 0 0, .int .i64 1]) ∧ w = w' := by
  have har := fun wx => areRounds_any r wx
  cases hr : roundsB r
  · rw [hr] at har
    have AR := Lib.hid har
    clear har h hr
    go_enter Tryd.func24, Tryd.ntmps24
    go_wp2_with (go_at_call 36; refine (AR.out _).mono ?_; rintro e w' ⟨rfl, rfl⟩)
    go_ret2
    exact ⟨rfl, rfl⟩
  · rw [hr] at har
    have AR := Lib.hid har
    unfold keyB at h
    rw [hr] at h
    by_cases h0 : size < 0
    · clear har h hr
      go_enter Tryd.func24, Tryd.ntmps24
      go_wp2_with (go_at_call 36; refine (AR.out _).mono ?_; rintro e w' ⟨rfl, rfl⟩)
      go_ret2
      exact ⟨rfl, rfl⟩
    · have h1 : (1024 : Int) < size := by
        simp at h
        omega
      clear har h hr
      go_enter Tryd.func24, Tryd.ntmps24
      go_wp2_with (go_at_call 36; refine (AR.out _).mono ?_; rintro e w' ⟨rfl, rfl⟩)
      go_ret2
      exact ⟨rfl, rfl⟩
end Sha
end Go.Proofs.YtjadjidjfkahpaaDoor
