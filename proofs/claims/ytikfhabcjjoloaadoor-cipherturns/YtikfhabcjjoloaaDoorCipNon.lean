/- The program's nonce: its walk. -/
import Derived.Test.YtikfhabcjjoloaaDoorCipBlock
namespace Go.Proofs.YtikfhabcjjoloaaDoor
namespace Sha
open Go.RowKit Mem
theorem ncOf_size (e : BitVec 32) (b : BitVec 64) : (ncOf e b).size = 12 := by simp [ncOf, u8s, cnonce_length]
theorem ncOf_one (e : BitVec 32) (b : BitVec 64) : (ncOf e b).all (·.oneCell') = true := u8s_one _
def lo32 (b : BitVec 64) : BitVec 32 := b.setWidth 32
def hi32 (b : BitVec 64) : BitVec 32 := (b >>> 32).setWidth 32
theorem lo_val (b : BitVec 64) : (b.toNat : Int) % 4294967296 = V (lo32 b) := by
  unfold V lo32
  rw [BitVec.toNat_setWidth]
  omega
theorem hi_val (b : BitVec 64) : (b.toNat : Int) / 4294967296 = V (hi32 b) := by
  have := b.isLt
  unfold V hi32
  rw [BitVec.toNat_setWidth, BitVec.toNat_ushiftRight, Nat.shiftRight_eq_div_pow]
  omega
theorem wb_lo (b : BitVec 64) (j : Nat) (h : j < 4) : wb (lo32 b) (8 * j) = wb64 b (8 * j) := by
  unfold wb lo32 wb64
  apply BitVec.eq_of_getLsbD_eq
  intro i hi
  have h8 : 8 * j + i < 32 := by omega
  simp [BitVec.getLsbD_ushiftRight, hi, h8]
theorem wb_hi (b : BitVec 64) (j : Nat) (h : j < 4) : wb (hi32 b) (8 * j) = wb64 b (8 * (4 + j)) := by
  unfold wb hi32 wb64
  apply BitVec.eq_of_getLsbD_eq
  intro i hi
  have h8 : 8 * j + i < 32 := by omega
  have h9 : 32 + (8 * j + i) = 8 * (4 + j) + i := by omega
  simp [BitVec.getLsbD_ushiftRight, hi, h8, h9]
theorem cnonce_row (e : BitVec 32) (b : BitVec 64) :
    put4 (put4 (put4 (List.replicate 12 0) 0 e 4) 4 (lo32 b) 4) 8 (hi32 b) 4 = cnonce e b := by
  have hl := cnonce_length e b
  have h1 := put4_row (cnonce e b) 12 0 e hl (by decide) (fun j hj => by rw [Nat.zero_add]; exact cnonce_low e b j hj) 4 (by decide)
  have h2 := put4_row (cnonce e b) 12 4 (lo32 b) hl (by decide) (fun j hj => by rw [cnonce_high e b j (by omega), wb_lo b j hj]) 4 (by decide)
  have h3 := put4_row (cnonce e b) 12 8 (hi32 b) hl (by decide) (fun j hj => by rw [show 8 + j = 4 + (4 + j) by omega, cnonce_high e b (4 + j) (by omega), wb_hi b j hj]) 4 (by decide)
  have h0 : rowZ (cnonce e b) 12 0 = List.replicate 12 0 := by simp [rowZ]
  rw [h0] at h1
  rw [h1, h2, h3]
  exact rowZ_all _ 12 hl
set_option maxRecDepth 100000 in
set_option maxHeartbeats 1000000 in
theorem nonce_any (e : BitVec 32) (b : BitVec 64) (w : World) :
    Calls Tryd.prog 18 #[.int .u32 (V e), .int .u64 (b.toNat : Int)] w fun o w' => o = .returned (.agg (ncOf e b)) ∧ Below w.heap.size w w' := by
  obtain ⟨X, hX⟩ : ∃ X, X = Z12 := ⟨_, rfl⟩
  have hx := zero12
  rw [← hX] at hx
  have hXs : X.size = 12 := by rw [hX]; simp [Z12, u8s]
  obtain ⟨l0, h0⟩ : ∃ l, l = (List.replicate 12 0 : List (BitVec 8)) := ⟨_, rfl⟩
  obtain ⟨l1, h1⟩ : ∃ l, l = put4 l0 0 e 4 := ⟨_, rfl⟩
  obtain ⟨l2, h2⟩ : ∃ l, l = put4 l1 4 (lo32 b) 4 := ⟨_, rfl⟩
  obtain ⟨l3, h3⟩ : ∃ l, l = put4 l2 8 (hi32 b) 4 := ⟨_, rfl⟩
  have e0 : l0.length = 12 := by rw [h0]; simp
  have e1 : l1.length = 12 := by rw [h1, put4_length, e0]
  have e2 : l2.length = 12 := by rw [h2, put4_length, e1]
  have hend : l3 = cnonce e b := by rw [h3, h2, h1, h0]; exact cnonce_row e b
  have p1 := fun wx bx (h : At wx bx (u8s l0).toArray 23) => putWord_any e l0 bx 0 12 12 23 wx h (by decide) (by rw [e0]; decide)
  have p2 := fun wx bx (h : At wx bx (u8s l1).toArray 23) => putWord_any (lo32 b) l1 bx 4 8 8 23 wx h (by decide) (by rw [e1]; decide)
  have p3 := fun wx bx (h : At wx bx (u8s l2).toArray 23) => putWord_any (hi32 b) l2 bx 8 4 4 23 wx h (by decide) (by rw [e2]; decide)
  rw [← h1] at p1; rw [← h2] at p2; rw [← h3] at p3
  have hX0 : (u8s l0).toArray = X := by rw [hX, h0]; rfl
  have a1 : At ((w.alloc (.cells X 23)).alloc (.cells X 23)) (w.heap.size + 1) (u8s l0).toArray 23 := by
    have h := at_new (w.alloc (.cells X 23)) X 23
    rw [hX0]; simpa using h
  have r1 : At ((w.alloc (.cells X 23)).alloc (.cells X 23)) w.heap.size X 23 := (at_new w X _).alloc _
  have b1 : Below w.heap.size w ((w.alloc (.cells X 23)).alloc (.cells X 23)) := ((Below.refl _ _).alloc (Nat.le_refl _) _).alloc (by simp) _
  have P1 := Lib.hid p1; have P2 := Lib.hid p2; have P3 := Lib.hid p3; have EN := Lib.hid hend; have XS := Lib.hid hXs; have A1 := Lib.hid a1; have R1 := Lib.hid r1; have B1 := Lib.hid b1
  have ve0 := V_lo e
  have vb0 : 0 ≤ (b.toNat : Int) := Int.natCast_nonneg _
  clear p1 p2 p3 hend hXs a1 r1 b1 h0 h1 h2 h3 e0 e1 e2 hX hX0
  go_enter Tryd.func18, Tryd.ntmps18
  go_wp2_with fail
  clear hx
  generalize (w.alloc (.cells X 23)).alloc (.cells X 23) = w2 at *
  refine (P1.out _ _ A1.out).mono ?_
  rintro o w3 ⟨rfl, hp⟩
  have A2 := Lib.hid hp.a; have R2 := Lib.hid (R1.out.but hp.o (by omega)); have B2 := Lib.hid (hp.k _ _ B1.out (by omega))
  clear hp A1 R1 B1 P1
  go_wp2_with fail
  rw [lo_val]
  refine (P2.out _ _ A2.out).mono ?_
  rintro o w4 ⟨rfl, hp⟩
  have A3 := Lib.hid hp.a; have R3 := Lib.hid (R2.out.but hp.o (by omega)); have B3 := Lib.hid (hp.k _ _ B2.out (by omega))
  clear hp A2 R2 B2 P2
  go_wp2_with fail
  rw [hi_val]
  refine (P3.out _ _ A3.out).mono ?_
  rintro o w5 ⟨rfl, hp⟩
  have ha := hp.a
  obtain ⟨M, hM⟩ : ∃ M, M = ncOf e b := ⟨_, rfl⟩
  rw [show (u8s l3).toArray = M by rw [hM, EN.out]; rfl] at ha
  have hMs : M.size = 12 := by rw [hM]; exact ncOf_size _ _
  have hMo : M.all (·.oneCell') = true := by rw [hM]; exact ncOf_one _ _
  have A4 := Lib.hid ha; have R4 := Lib.hid (R3.out.but hp.o (by omega)); have B4 := Lib.hid (hp.k _ _ B3.out (by omega)); have HM := Lib.hid hM; have MS := Lib.hid hMs; have MO := Lib.hid hMo
  clear hp ha A3 R3 B3 P3 hM hMs hMo
  go_wp2_with (first | (refine wpList_load_all (by rfl) 23 _ (by rfl) (w.heap.size + 1) (by rfl) _ Tryd.underlying23 (by rfl) M _ A4.out (by rw [MS.out]; exact info12) ?_) | (refine wpList_store_all (by rfl) 23 _ _ (by rfl) (by rfl) w.heap.size M (by rfl) (by rfl) (by rw [MS.out]; exact info12) _ _ R4.out (by rw [MS.out, XS.out]) MO.out ?_))
  try simp only [Exit.inBlock, Exit.then]
  refine ret_row (by rfl) w.heap.size 23 M _ (by rfl) (R4.out.row M) Tryd.underlying23 (by rfl) (by rw [MS.out]; exact info12) ?_
  exact ⟨by rw [HM.out], below_row B4.out (by omega) M⟩
end Sha
end Go.Proofs.YtikfhabcjjoloaaDoor
