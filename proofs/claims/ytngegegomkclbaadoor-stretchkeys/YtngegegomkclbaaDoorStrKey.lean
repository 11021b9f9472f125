/- Block and Key: their walks. -/
import Derived.Test.YtngegegomkclbaaDoorStrBlock
namespace Go.Proofs.YtngegegomkclbaaDoor
namespace Sha
open Go.RowKit Mem
set_option maxRecDepth 100000 in
set_option maxHeartbeats 1000000 in
theorem block_yes (p salt : List (BitVec 8)) (n : BitVec 32) (r : Nat) (vp vs : Value) (w : World) (hr1 : 1 ≤ r) (hr2 : r ≤ 10000) (lp : p.length ≤ 1099511627776) (ls : salt.length ≤ 1099511627776) (hp : Sl w vp p) (hs : Sl w vs salt) (hL : Tabs w) :
    Calls Tryd.prog 24 #[vp, vs, .int .i64 (r : Int), .int .u32 (V n)] w fun e w' => e = .returned (.agg (bkOf p salt n r)) ∧ Below w.heap.size w w' := by
  obtain ⟨X, hX⟩ : ∃ X, X = Z32 := ⟨_, rfl⟩
  have hx := zero32
  rw [← hX] at hx
  have hXs : X.size = 32 := by rw [hX]; simp [Z32, u8s]
  have har := fun wx => areRounds_any (r : Int) wx
  rw [show roundsB (r : Int) = true by simp [roundsB]; omega] at har
  have hkey := fun (wx : World) (hx : Below w.heap.size w wx) => key_any p vp wx (hp.below hx) (by omega) (hL.below hx (Nat.le_refl _))
  have hjo := fun (wx : World) (hx : Below w.heap.size w wx) => joined_any (keyOf p) salt n r vs wx (keyOf_length p) hr1 hr2 ls (hs.below hx) (hL.below hx (Nat.le_refl _))
  rw [show bkOf (keyOf p) salt n r = bkOf p salt n r by unfold bkOf; rw [blk_key]] at hjo
  unfold kyOf at hkey
  obtain ⟨F, hF⟩ : ∃ F, F = (u8s (keyOf p)).toArray := ⟨_, rfl⟩
  obtain ⟨M, hM⟩ : ∃ M, M = bkOf p salt n r := ⟨_, rfl⟩
  have hMs : M.size = 32 := by rw [hM]; exact bkOf_size _ _ _ _
  have hMo : M.all (·.oneCell') = true := by rw [hM]; exact bkOf_one _ _ _ _
  rw [← hF] at hkey hjo
  rw [← hM] at hjo ⊢
  have AR := Lib.hid har; have KEY := Lib.hid hkey; have JO := Lib.hid hjo; have XS := Lib.hid hXs; have MS := Lib.hid hMs; have MO := Lib.hid hMo
  have R1 := Lib.hid (at_new w X 25); have B1 := Lib.hid ((Below.refl w.heap.size w).alloc (Nat.le_refl _) (.cells X 25))
  clear har hkey hjo hXs hMs hMo hX hF hM hp hs hL
  go_enter Tryd.func24, Tryd.ntmps24
  go_wp2_with (first
    | (go_at_call 40; refine (AR.out _).mono ?_; rintro e w' ⟨rfl, rfl⟩)
    | (go_at_call 15; refine (KEY.out _ B1.out).mono ?_; rintro e w2 ⟨rfl, hb2⟩; have R2 := Lib.hid (R1.out.below hb2 R1.out.lt); have B2 := Lib.hid (B1.out.trans (hb2.mono B1.out.size)); clear hb2)
    | (go_at_call 41; refine (JO.out _ B2.out).mono ?_; rintro e w3 ⟨rfl, hb3⟩; have R3 := Lib.hid (R2.out.below hb3 R2.out.lt); have B3 := Lib.hid (B2.out.trans (hb3.mono B2.out.size)); clear hb3)
    | (refine wpList_store_all (by rfl) 25 _ _ (by rfl) (by rfl) w.heap.size M (by rfl) (by rfl) (by rw [MS.out]; exact info32) _ _ R3.out (by rw [MS.out, XS.out]) MO.out ?_))
  try simp only [Exit.inBlock, Exit.then]
  refine ret_row (by rfl) w.heap.size 25 M _ (by rfl) (R3.out.row M) Tryd.underlying25 (by rfl) (by rw [MS.out]; exact info32) ?_
  exact ⟨rfl, below_row B3.out (Nat.le_refl _) M⟩
theorem build32 (w : World) : (Instr.build 25 #[]).run Tryd.prog w = .ok (.agg Z32) w := by kernel_rfl
set_option maxRecDepth 100000 in
set_option maxHeartbeats 1000000 in
theorem block_no (r : Int) (n : BitVec 32) (vp vs : Value) (w : World) (hr : roundsB r = false) :
    Calls Tryd.prog 24 #[vp, vs, .int .i64 r, .int .u32 (V n)] w fun e w' => e = .returned (.agg (u8s (List.replicate 32 0)).toArray) ∧ Below w.heap.size w w' := by
  have har := fun wx => areRounds_any r wx
  rw [hr] at har
  obtain ⟨X, hX⟩ : ∃ X, X = Z32 := ⟨_, rfl⟩
  have hx := zero32
  have hbd := build32
  rw [← hX] at hx hbd
  have hXs : X.size = 32 := by rw [hX]; simp [Z32, u8s]
  have hXo : X.all (·.oneCell') = true := by rw [hX]; exact u8s_one _
  rw [show (u8s (List.replicate 32 0)).toArray = X by rw [hX]; rfl]
  have AR := Lib.hid har; have XS := Lib.hid hXs; have XO := Lib.hid hXo
  have R1 := Lib.hid (at_new w X 25); have B1 := Lib.hid ((Below.refl w.heap.size w).alloc (Nat.le_refl _) (.cells X 25))
  clear har hr hXs hXo hX
  go_enter Tryd.func24, Tryd.ntmps24
  go_wp2_with (first
    | (go_at_call 40; refine (AR.out _).mono ?_; rintro e w' ⟨rfl, rfl⟩)
    | (refine wpList_store_all (by rfl) 25 _ _ (by rfl) (by rfl) w.heap.size X (by rfl) (by rfl) (by rw [XS.out]; exact info32) _ _ R1.out (by rfl) XO.out ?_))
  try simp only [Exit.inBlock, Exit.then]
  refine ret_row (by rfl) w.heap.size 25 X _ (by rfl) (R1.out.row X) Tryd.underlying25 (by rfl) (by rw [XS.out]; exact info32) ?_
  exact ⟨rfl, below_row B1.out (Nat.le_refl _) X⟩
/-- The key behind j blocks. -/
def kr (p salt : List (BitVec 8)) (r size j : Nat) : List (BitVec 8) := (blks p salt r j).take size ++ List.replicate (size - 32 * j) 0
theorem kr_length (p salt : List (BitVec 8)) (r size j : Nat) : (kr p salt r size j).length = size := by
  rw [kr, List.length_append, List.length_take, blks_length, List.length_replicate]; omega
theorem kr_splice (p salt : List (BitVec 8)) (r size j : Nat) (h : 32 * j < size) :
    Mem.splice (u8s (kr p salt r size j)).toArray (32 * j) (u8s ((blk p salt (BitVec.ofNat 32 (j + 1)) r).take (min 32 (size - 32 * j)))) = (u8s (kr p salt r size (j + 1))).toArray := by
  have e0 : kr p salt r size j = blks p salt r j ++ List.replicate (size - 32 * j) 0 := by
    rw [kr, List.take_of_length_le (by rw [blks_length]; omega)]
  have lb := blks_length p salt r j
  have lk := blk_length p salt (BitVec.ofNat 32 (j + 1)) r
  have e1 : kr p salt r size (j + 1) = blks p salt r j ++ (blk p salt (BitVec.ofNat 32 (j + 1)) r).take (min 32 (size - 32 * j)) ++ List.replicate (size - 32 * j - min 32 (size - 32 * j)) 0 := by
    rw [kr, blks, List.take_append, lb, List.take_of_length_le (by omega)]
    congr 2
    · by_cases h32 : 32 ≤ size - 32 * j
      · rw [Nat.min_eq_left h32, List.take_of_length_le (by omega), List.take_of_length_le (by omega)]
      · rw [Nat.min_eq_right (by omega)]
    · omega
  rw [e0, e1]
  unfold Mem.splice u8s
  rw [List.map_append, List.map_append, List.map_append]
  have h1 : (List.map (fun x : BitVec 8 => Value.int .u8 (x.toNat : Int)) (blks p salt r j)).length = 32 * j := by simp [lb]
  congr 1
  rw [List.take_left' h1]
  congr 1
  rw [List.length_map, List.length_take, lk, List.drop_append, h1, List.drop_of_length_le (by omega), List.nil_append, ← List.map_drop, List.drop_replicate]
  congr 2
  omega
theorem kr_zero (p salt : List (BitVec 8)) (r size : Nat) : kr p salt r size 0 = List.replicate size 0 := by simp [kr, blks]
theorem kr_all (p salt : List (BitVec 8)) (r size j : Nat) (h : size ≤ 32 * j) : kr p salt r size j = stretched p salt r size := by
  rw [kr, stretched_from p salt r size j h, Nat.sub_eq_zero_of_le h, List.replicate_zero, List.append_nil]
/-- An own slice that fills its block. -/
theorem own_full {w : World} {B g n : Nat} {e : TypeId} {xs : List Value} (h : w.ownsRow B e 1 (.slice (some ⟨g, 0, none⟩) n n) n xs) : At w g xs.toArray e := by
  obtain ⟨hl, h | ⟨g', cap, cur, e1, _, hh, _, _, hc, ht⟩⟩ := h
  · cases h.1
  · injection e1 with e1 _ e2
    injection e1 with e1
    injection e1 with e1
    subst e1; subst e2
    have : cur = xs.toArray := by
      rw [← ht, List.take_of_length_le (by simp [hc])]
    rw [← this]; exact hh
end Sha
end Go.Proofs.YtngegegomkclbaaDoor
