/- Block and Key: their walks. | Key: its walk. -/
import Derived.Test.YtngegegomkclbaaDoorStrBlock
namespace Go.Proofs.YtngegegomkclbaaDoor
namespace Sha
open Go.RowKit Mem
set_option maxRecDepth 100000 in
set_option maxHeartbeats 1000000 in
theorem block_yes (p salt : List (BitVec 8)) (n : BitVec 32) (r : Nat) (vp vs : Value) (w : World) (hr1 : 1 ≤ r) (hr2 : r ≤ 10000) (lp : p.length ≤ 1099511627776) (ls : salt.length ≤ 1099511627776) (hp : Sl w vp p) (hs : Sl w vs salt) (hL : Tabs w) :
    Calls Tryd.prog 24 #[vp, vs, .int .i64 (r : Int), .int .u32 (V n)] w fun e w' => e = .returned (.agg (bkOf p salt n r)) ∧ Below w.heap.size w w' := by
  obtain ⟨X, hX⟩ : ∃ X, X = Z32 := ⟨_, rfl⟩
  have hx := zero32
  rw [← hX] at hx
  have hXs : X.size = 32 := by rw [hX]; simp [Z32, u8s]
  have har := fun wx => areRounds_any (r : Int) wx
  rw [show roundsB (r : Int) = true by simp [roundsB]; omega] at har
  have hkey := fun (wx : World) (hx : Below w.heap.size w wx) => key_any p vp wx (hp.below hx) (by omega) (hL.below hx (Nat.le_refl _))
  have hjo := fun (wx : World) (hx : Below w.heap.size w wx) => joined_any (keyOf p) salt n r vs wx (keyOf_length p) hr1 hr2 ls (hs.below hx) (hL.below hx (Nat.le_refl _))
  rw [show bkOf (keyOf p) salt n r = bkOf p salt n r by unfold bkOf; rw [blk_key]] at hjo
  unfold kyOf at hkey
  obtain ⟨F, hF⟩ : ∃ F, F = (u8s (keyOf p)).toArray := ⟨_, rfl⟩
  obtain ⟨M, hM⟩ : ∃ M, M = bkOf p salt n r := ⟨_, rfl⟩
  have hMs : M.size = 32 := by rw [hM]; exact bkOf_size _ _ _ _
  have hMo : M.all (·.oneCell') = true := by rw [hM]; exact bkOf_one _ _ _ _
  rw [← hF] at hkey hjo
  rw [← hM] at hjo ⊢
  have AR := Lib.hid har; have KEY := Lib.hid hkey; have JO := Lib.hid hjo; have XS := Lib.hid hXs; have MS := Lib.hid hMs; have MO := Lib.hid hMo
  have R1 := Lib.hid (at_new w X 25); have B1 := Lib.hid ((Below.refl w.heap.size w).alloc (Nat.le_refl _) (.cells X 25))
  clear har hkey hjo hXs hMs hMo hX hF hM hp hs hL
  go_enter Tryd.func24, Tryd.ntmps24
  go_wp2_with (first
    | (go_at_call 40; refine (AR.out _).mono ?_; rintro e w' ⟨rfl, rfl⟩)
    | (go_at_call 15; refine (KEY.out _ B1.out).mono ?_; rintro e w2 ⟨rfl, hb2⟩; have R2 := Lib.hid (R1.out.below hb2 R1.out.lt); have B2 := Lib.hid (B1.out.trans (hb2.mono B1.out.size)); clear hb2)
    | (go_at_call 41; refine (JO.out _ B2.out).mono ?_; rintro e w3 ⟨rfl, hb3⟩; have R3 := Lib.hid (R2.out.below hb3 R2.out.lt); have B3 := Lib.hid (B2.out.trans (hb3.mono B2.out.size)); clear hb3)
    | (refine wpList_store_all (by rfl) 25 _ _ (by rfl) (by rfl) w.heap.size M (by rfl) (by rfl) (by rw [MS.out]; exact info32) _ _ R3.out (by rw [MS.out, XS.out]) MO.out ?_))
  try simp only [Exit.inBlock, Exit.then]
  refine ret_row (by rfl) w.heap.size 25 M _ (by rfl) (R3.out.row M) Tryd.underlying25 (by rfl) (by rw [MS.out]; exact info32) ?_
  exact ⟨rfl, below_row B3.out (Nat.le_refl _) M⟩
theorem build32 (w : World) : (Instr.build 25 #[]).run Tryd.prog w = .ok (.agg Z32) w := by kernel_rfl
set_option maxRecDepth 100000 in
set_option maxHeartbeats 1000000 in
theorem block_no (r : Int) (n : BitVec 32) (vp vs : Value) (w : World) (hr : roundsB r = false) :
    Calls Tryd.prog 24 #[vp, vs, .int .i64 r, .int .u32 (V n)] w fun e w' => e = .returned (.agg (u8s (List.replicate 32 0)).toArray) ∧ Below w.heap.size w w' := by
  have har := fun wx => areRounds_any r wx
  rw [hr] at har
  obtain ⟨X, hX⟩ : ∃ X, X = Z32 := ⟨_, rfl⟩
  have hx := zero32
  have hbd := build32
  rw [← hX] at hx hbd
  have hXs : X.size = 32 := by rw [hX]; simp [Z32, u8s]
  have hXo : X.all (·.oneCell') = true := by rw [hX]; exact u8s_one _
  rw [show (u8s (List.replicate 32 0)).toArray = X by rw [hX]; rfl]
  have AR := Lib.hid har; have XS := Lib.hid hXs; have XO := Lib.hid hXo
  have R1 := Lib.hid (at_new w X 25); have B1 := Lib.hid ((Below.refl w.heap.size w).alloc (Nat.le_refl _) (.cells X 25))
  clear har hr hXs hXo hX
  go_enter Tryd.func24, Tryd.ntmps24
  go_wp2_with (first
    | (go_at_call 40; refine (AR.out _).mono ?_; rintro e w' ⟨rfl, rfl⟩)
    | (refine wpList_store_all (by rfl) 25 _ _ (by rfl) (by rfl) w.heap.size X (by rfl) (by rfl) (by rw [XS.out]; exact info32) _ _ R1.out (by rfl) XO.out ?_))
  try simp only [Exit.inBlock, Exit.then]
  refine ret_row (by rfl) w.heap.size 25 X _ (by rfl) (R1.out.row X) Tryd.underlying25 (by rfl) (by rw [XS.out]; exact info32) ?_
  exact ⟨rfl, below_row B1.out (Nat.le_refl _) X⟩
/-- The key behind j blocks. -/
def kr (p salt : List (BitVec 8)) (r size j : Nat) : List (BitVec 8) := (blks p salt r j).take size ++ List.replicate (size - 32 * j) 0
theorem kr_length (p salt : List (BitVec 8)) (r size j : Nat) : (kr p salt r size j).length = size := by
  rw [kr, List.length_append, List.length_take, blks_length, List.length_replicate]; omega
theorem kr_splice (p salt : List (BitVec 8)) (r size j : Nat) (h : 32 * j < size) :
    Mem.splice (u8s (kr p salt r size j)).toArray (32 * j) (u8s ((blk p salt (BitVec.ofNat 32 (j + 1)) r).take (min 32 (size - 32 * j)))) = (u8s (kr p salt r size (j + 1))).toArray := by
  have e0 : kr p salt r size j = blks p salt r j ++ List.replicate (size - 32 * j) 0 := by
    rw [kr, List.take_of_length_le (by rw [blks_length]; omega)]
  have lb := blks_length p salt r j
  have lk := blk_length p salt (BitVec.ofNat 32 (j + 1)) r
  have e1 : kr p salt r size (j + 1) = blks p salt r j ++ (blk p salt (BitVec.ofNat 32 (j + 1)) r).take (min 32 (size - 32 * j)) ++ List.replicate (size - 32 * j - min 32 (size - 32 * j)) 0 := by
    rw [kr, blks, List.take_append, lb, List.take_of_length_le (by omega)]
    congr 2
    · by_cases h32 : 32 ≤ size - 32 * j
      · rw [Nat.min_eq_left h32, List.take_of_length_le (by omega), List.take_of_length_le (by omega)]
      · rw [Nat.min_eq_right (by omega)]
    · omega
  rw [e0, e1]
  unfold Mem.splice u8s
  rw [List.map_append, List.map_append, List.map_append]
  have h1 : (List.map (fun x : BitVec 8 => Value.int .u8 (x.toNat : Int)) (blks p salt r j)).length = 32 * j := by simp [lb]
  congr 1
  rw [List.take_left' h1]
  congr 1
  rw [List.length_map, List.length_take, lk, List.drop_append, h1, List.drop_of_length_le (by omega), List.nil_append, ← List.map_drop, List.drop_replicate]
  congr 2
  omega
theorem kr_zero (p salt : List (BitVec 8)) (r size : Nat) : kr p salt r size 0 = List.replicate size 0 := by simp [kr, blks]
theorem kr_all (p salt : List (BitVec 8)) (r size j : Nat) (h : size ≤ 32 * j) : kr p salt r size j = stretched p salt r size := by
  rw [kr, stretched_from p salt r size j h, Nat.sub_eq_zero_of_le h, List.replicate_zero, List.append_nil]
/-- An own slice that fills its block. -/
theorem own_full {w : World} {B g n : Nat} {e : TypeId} {xs : List Value} (h : w.ownsRow B e 1 (.slice (some ⟨g, 0, none⟩) n n) n xs) : At w g xs.toArray e := by
  obtain ⟨hl, h | ⟨g', cap, cur, e1, _, hh, _, _, hc, ht⟩⟩ := h
  · cases h.1
  · injection e1 with e1 _ e2
    injection e1 with e1
    injection e1 with e1
    subst e1; subst e2
    have : cur = xs.toArray := by
      rw [← ht, List.take_of_length_le (by simp [hc])]
    rw [← this]; exact hh
end Sha
end Go.Proofs.YtngegegomkclbaaDoor
namespace Go.Proofs.YtngegegomkclbaaDoor
namespace Sha
open Go.RowKit Mem
structure KInv (p salt : List (BitVec 8)) (r size : Nat) (F : Array Value) (w : World) (bk b10 j : Nat) (wr : World) : Prop where
  row : At wr bk (u8s (kr p salt r size j)).toArray 5
  key : At wr b10 F 28
  b : Below w.heap.size w wr
def KRel (p salt : List (BitVec 8)) (r size : Nat) (F : Array Value) (w : World) (bk b10 : Nat) (vn vl : Value) (wr : World) : Prop :=
  ∃ j : Nat, 32 * j ≤ size + 31 ∧ vn = .int .u32 (V (BitVec.ofNat 32 (j + 1))) ∧ (∃ a c, vl = .slice a (size - 32 * j) c ∧ (32 * j < size → a = some ⟨bk, 32 * j, none⟩ ∧ c = size - 32 * j)) ∧ KInv p salt r size F w bk b10 j wr
def KEnd (w : World) (L : List (BitVec 8)) (e : Ending) (w' : World) : Prop :=
  ∃ g, e = .returned (.tuple #[.slice (some ⟨g, 0, none⟩) L.length L.length, .int .i64 0]) ∧ At w' g (u8s L).toArray 5 ∧ w.heap.size ≤ g ∧ Below w.heap.size w w'
theorem made_zeros (n : Nat) : (madeCells (Value.int .u8 0).cells (n * 1)).toList = u8s (List.replicate n 0) := by
  rw [madeCells, Nat.mul_one]
  apply List.ext_getElem
  · simp [u8s]
  · intro i h1 h2
    simp [u8s, Value.cells, Nat.mod_one]
theorem V_next (j : Nat) (_h : j ≤ 4294967000) : (V (BitVec.ofNat 32 (j + 1)) + 1) % (4294967296 : Int) = V (BitVec.ofNat 32 (j + 1 + 1)) := by
  unfold V
  rw [BitVec.toNat_ofNat, BitVec.toNat_ofNat]
  omega
set_option maxRecDepth 100000 in
set_option maxHeartbeats 1000000 in
theorem skey_good (p salt : List (BitVec 8)) (r size : Nat) (vp vs : Value) (w : World) (hr1 : 1 ≤ r) (hr2 : r ≤ 10000) (hz : size ≤ 1024) (lp : p.length ≤ 1099511627776) (ls : salt.length ≤ 1099511627776) (hp : Sl w vp p) (hs : Sl w vs salt) (hL : Tabs w) :
    Calls Tryd.prog 22 #[vp, vs, .int .i64 (r : Int), .int .i64 (size : Int)] w (KEnd w (stretched p salt r size)) := by
  obtain ⟨X, hX⟩ : ∃ X, X = Z32 := ⟨_, rfl⟩
  have hx := zero32
  rw [← hX] at hx
  have hXs : X.size = 32 := by rw [hX]; simp [Z32, u8s]
  obtain ⟨Z, hZ⟩ : ∃ Z, Z = ZT := ⟨_, rfl⟩
  have hzk := zeroK
  rw [← hZ] at hzk
  have hZs : Z.size = 64 := by rw [hZ]; exact ZT_size
  have har := fun wx => areRounds_any (r : Int) wx
  rw [show roundsB (r : Int) = true by simp [roundsB]; omega] at har
  have hkey := fun (wx : World) (hx : Below w.heap.size w wx) => key_any p vp wx (hp.below hx) (by omega) (hL.below hx (Nat.le_refl _))
  have hjo := fun (j : Nat) (wx : World) (hx : Below w.heap.size w wx) => joined_any (keyOf p) salt (BitVec.ofNat 32 (j + 1)) r vs wx (keyOf_length p) hr1 hr2 ls (hs.below hx) (hL.below hx (Nat.le_refl _))
  have hjo2 : ∀ (j : Nat) (wx : World), Below w.heap.size w wx → Calls Tryd.prog 41 #[.agg (u8s (keyOf p)).toArray, vs, .int .i64 (r : Int), .int .u32 (V (BitVec.ofNat 32 (j + 1)))] wx fun e w' => e = .returned (.agg (u8s (blk p salt (BitVec.ofNat 32 (j + 1)) r)).toArray) ∧ Below wx.heap.size wx w' := fun j wx hx => by
    have h := hjo j wx hx
    rw [show bkOf (keyOf p) salt (BitVec.ofNat 32 (j + 1)) r = (u8s (blk p salt (BitVec.ofNat 32 (j + 1)) r)).toArray by unfold bkOf; rw [blk_key]] at h
    exact h
  clear hjo
  unfold kyOf at hkey
  obtain ⟨F, hF⟩ : ∃ F, F = (u8s (keyOf p)).toArray := ⟨_, rfl⟩
  have hFs : F.size = 64 := by rw [hF]; simp [u8s, keyOf_length]
  have hFo : F.all (·.oneCell') = true := by rw [hF]; exact u8s_one _
  rw [← hF] at hkey hjo2
  obtain ⟨i8, hi8, hz8, hs8, hb8⟩ := info_parts infoU8
  have h0 : ¬ (size : Int) < 0 := by omega
  have h1 : ¬ (1024 : Int) < (size : Int) := by omega
  have AR := Lib.hid har; have KEY := Lib.hid hkey; have JO := Lib.hid hjo2; have XS := Lib.hid hXs; have ZS := Lib.hid hZs; have FS := Lib.hid hFs; have FO := Lib.hid hFo; have I8 := Lib.hid hi8; have Z8 := Lib.hid hz8; have S8 := Lib.hid hs8; have B8' := Lib.hid hb8
  clear har hkey hjo2 hXs hZs hFs hFo hX hZ hF hp hs hL hi8 hz8 hs8 hb8
  go_enter Tryd.func22, Tryd.ntmps22
  go_wp2_with (first
    | (go_at_call 40; refine (AR.out _).mono ?_; rintro e w' ⟨rfl, rfl⟩)
    | (go_at_call 15; refine (KEY.out _ (Below.refl _ _)).mono ?_; rintro e w2 ⟨rfl, hb2⟩; have B2 := Lib.hid hb2; clear hb2)
    | (refine wpList_store_new (by rfl) 28 _ _ (by rfl) (by rfl) F _ _ (by rfl) (by rfl) (by rw [FS.out]; exact infoK) (by rw [FS.out, ZS.out]) FO.out ?_; have F3 := Lib.hid (at_new w2 F 28); have B3 := Lib.hid (B2.out.alloc B2.out.size (.cells F 28)); generalize w2.alloc (.cells F 28) = w3 at *; generalize w2.heap.size = b10 at *)
    | (refine wpList_make_full _ (by rfl) _ _ 22 (by rfl) w3.heap.size 5 i8 (.int .u8 0) 1 Tryd.underlying22 I8.out Z8.out S8.out .i64 .i64 _ _ size (by rfl) (by rfl) rfl rfl (by rw [B8'.out]; omega) (by simp [maxLen]; omega) (Nat.le_refl _) ?_; intro w4 ho4 hg4; have O4 := Lib.hid ho4; have G4 := Lib.hid hg4; clear ho4 hg4))
  generalize Value.bool (decide ((1024 : Int) < (size : Int))) = q24
  have row0 : At w4 w3.heap.size (u8s (kr p salt r size 0)).toArray 5 := by
    rw [kr_zero]
    have h := own_full O4.out
    rw [made_zeros] at h
    exact h
  have key0 : At w4 b10 F 28 := by
    have h := F3.out
    have hl := F3.out.lt
    unfold At at *
    rw [G4.out.block b10 hl (by simp)]; exact h
  have b40 : Below w.heap.size w w4 := B3.out.grown G4.out B3.out.size (fun _ h => by cases h)
  have hbk : w.heap.size ≤ w3.heap.size := B3.out.size
  have hne : b10 ≠ w3.heap.size := Nat.ne_of_lt F3.out.lt
  have I0 : Hid (KInv p salt r size F w w3.heap.size b10 0 w4) := ⟨row0, key0, b40⟩
  generalize w3.heap.size = bk at *
  have BK := Lib.hid hbk; have NE := Lib.hid hne
  clear row0 key0 b40 hbk hne O4 G4 F3 B3 I8 Z8 S8 B8' KEY AR B2
  go_loopw [12, 13, 14] (fun vn vl _ wr => KRel p salt r size F w bk b10 vn vl wr) (fun _ vl _ _ => (match vl with | .slice _ l _ => l | _ => 0))
  case atStart => exact ⟨0, by omega, rfl, ⟨some ⟨bk, 0, none⟩, size, by simp, fun _ => ⟨by simp, by simp⟩⟩, I0.out⟩
  case round =>
    clear I0
    obtain ⟨j, hj, rfl, ⟨al, cl, rfl, hal⟩, hI⟩ := hrel
    obtain ⟨q, hq⟩ : ∃ q, q = size - 32 * j := ⟨_, rfl⟩
    rw [← hq] at hal ⊢
    by_cases hlt : 32 * j < size
    · obtain ⟨rfl, hcq⟩ := hal hlt
      rw [hcq]
      clear hcq
      have hq0 : (q : Int) > 0 := by omega
      obtain ⟨k, hk⟩ : ∃ k, k = min 32 (size - 32 * j) := ⟨_, rfl⟩
      have hsp := kr_splice p salt r size j hlt
      rw [← hk] at hsp
      have hkq : k ≤ q := by omega
      have hk32 : k = min 32 q := by omega
      have hjo := JO.out j
      obtain ⟨N, hN⟩ : ∃ N, N = BitVec.ofNat 32 (j + 1) := ⟨_, rfl⟩
      have hN2 : (V N + 1) % (4294967296 : Int) = V (BitVec.ofNat 32 (j + 1 + 1)) := by rw [hN]; exact V_next j (by omega)
      rw [← hN] at hjo hsp ⊢
      obtain ⟨T, hT⟩ : ∃ T, T = blk p salt N r := ⟨_, rfl⟩
      have hTl : T.length = 32 := by rw [hT]; exact blk_length _ _ _ _
      rw [← hT] at hjo hsp
      obtain ⟨D, hD⟩ : ∃ D, D = (u8s T).toArray := ⟨_, rfl⟩
      have hDs : D.size = 32 := by rw [hD]; simp [u8s, hTl]
      have hDo : D.all (·.oneCell') = true := by rw [hD]; exact u8s_one _
      rw [← hD] at hjo
      have hrs : (u8s (kr p salt r size j)).toArray.size = size := by simp [u8s, kr_length]
      have II := Lib.hid hI; have SP := Lib.hid hsp; have JJ := Lib.hid hjo; have N2 := Lib.hid hN2; have TL := Lib.hid hTl; have HD := Lib.hid hD; have DS := Lib.hid hDs; have DO := Lib.hid hDo; have HK := Lib.hid hk32; have KQ := Lib.hid hkq; have RS := Lib.hid hrs; have HQ := Lib.hid hq
      clear hI hsp hjo hN2 hTl hD hDs hDo hk32 hkq hk hrs hT hN hal hq
      go_wp2_with (first
        | (refine wpList_load_all (by rfl) 28 _ (by rfl) b10 (by rfl) _ Tryd.underlying28 (by rfl) F _ II.out.key (by rw [FS.out]; exact infoK) ?_)
        | (go_at_call 41; refine (JJ.out _ II.out.b).mono ?_; rintro e w5 ⟨rfl, hb5⟩; have R5 := Lib.hid (II.out.row.below hb5 II.out.row.lt); have K5 := Lib.hid (II.out.key.below hb5 II.out.key.lt); have B5 := Lib.hid (II.out.b.trans (hb5.mono II.out.b.size)); clear hb5)
        | (refine wpList_store_new (by rfl) 25 _ _ (by rfl) (by rfl) D _ _ (by rfl) (by rfl) (by rw [DS.out]; exact info32) (by rw [DS.out, XS.out]) DO.out ?_; have D6 := Lib.hid (at_new w5 D 25); have R6 := Lib.hid (R5.out.alloc (.cells D 25)); have K6 := Lib.hid (K5.out.alloc (.cells D 25)); have B6 := Lib.hid (B5.out.alloc B5.out.size (.cells D 25)); generalize w5.alloc (.cells D 25) = w6 at *; generalize w5.heap.size = bg at *)
        | (refine wpList_copy_sl (by rfl) _ _ (by rfl) bk (32 * j) q q (.slice (some ⟨bg, 0, none⟩) 32 32) T (by rfl) (by rfl) (at_sl (by have h := D6.out; rw [HD.out] at h; exact h) TL.out) k (by rw [TL.out]; exact HK.out) _ _ R6.out (by have := HQ.out; have := KQ.out; rw [RS.out]; omega) _ SP.out ?_; intro w7 ha7 hs7 ho7 hbb7; have R7 := Lib.hid ha7; have K7 := Lib.hid (at_keep K6.out ho7 NE.out); have B7 := Lib.hid (hbb7 _ _ B6.out BK.out); clear ha7 hs7 ho7 hbb7)
        | (refine wpList_slice_low (by rfl) _ _ _ (by rfl) 5 Tryd.underlying22 infoB (some ⟨bk, 32 * j, none⟩) q q k (by rfl) (by rfl) KQ.out ?_; intro a8 ha8; have A8 := Lib.hid ha8; clear ha8))
      rw [N2.out]
      go_roundw
      case rel =>
        have hq := HQ.out
        have hk := HK.out
        refine ⟨j + 1, by omega, rfl, ⟨a8, q - k, by rw [show size - 32 * (j + 1) = q - k by omega], fun h => ⟨by rw [A8.out _ _ rfl (by omega), show 32 * j + k = 32 * (j + 1) by omega], by omega⟩⟩, R7.out, K7.out, B7.out⟩
      case measure => simp only; have := HK.out; omega
    · have hq0 : q = 0 := by omega
      have hall := kr_all p salt r size j (by omega)
      have hrow := hI.row
      rw [hall] at hrow
      have hge : ¬ (q : Int) > 0 := by omega
      have RW := Lib.hid hrow; have BB := Lib.hid hI.b
      clear hrow hI hall hq0 hal hq hlt
      go_wp2_with fail
      go_ret2
      exact ⟨bk, by rw [stretched_length]; rfl, RW.out, BK.out, BB.out⟩
end Sha
end Go.Proofs.YtngegegomkclbaaDoor
