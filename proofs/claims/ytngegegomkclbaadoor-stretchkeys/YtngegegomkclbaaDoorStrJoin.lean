/- Join, and the document's: their walks. -/
import Derived.Test.YtngegegomkclbaaDoorStrMath
import Derived.Test.YtngegegomkclbaaDoorMacRef
namespace Go.Proofs.YtngegegomkclbaaDoor
namespace Sha
open Go.RowKit Mem
structure JInv (L : List (BitVec 8)) (B R : Nat) (X : Array Value) (w wr : World) : Prop where
  k : At wr B (u8s L).toArray 25
  r : At wr R X 25
  b : Below w.heap.size w wr
def jnOf (a b : List (BitVec 8)) : Array Value := (u8s (joinB a b)).toArray
set_option maxRecDepth 100000 in
set_option maxHeartbeats 1000000 in
theorem join_any (a b : List (BitVec 8)) (la : a.length = 32) (lb : b.length = 32) (w : World) :
    Calls Tryd.prog 26 #[.agg (u8s a).toArray, .agg (u8s b).toArray] w fun e w' => e = .returned (.agg (jnOf a b)) ∧ Below w.heap.size w w' := by
  have hab : a.length = b.length := by rw [la, lb]
  obtain ⟨X, hX⟩ : ∃ X, X = Z32 := ⟨_, rfl⟩
  have hx := zero32
  rw [← hX] at hx
  have hXs : X.size = 32 := by rw [hX]; simp [Z32, u8s]
  obtain ⟨C, hC⟩ : ∃ C, C = (u8s a).toArray := ⟨_, rfl⟩
  obtain ⟨D, hD⟩ : ∃ D, D = (u8s b).toArray := ⟨_, rfl⟩
  have hDs : D.size = 32 := by rw [hD]; simp [u8s, lb]
  rw [← hC, ← hD]
  have HC := Lib.hid hC; have HD := Lib.hid hD; have HX := Lib.hid hX; have XS := Lib.hid hXs; have DSZ := Lib.hid hDs; have LA := Lib.hid la; have HAB := Lib.hid hab
  clear hC hD hX hXs hDs la lb hab
  go_enter Tryd.func26, Tryd.ntmps26
  have ad : At (((w.alloc (.cells C 25)).alloc (.cells D 25)).alloc (.cells X 25)) (w.heap.size + 1) D 25 := by
    have h := (at_new (w.alloc (.cells C 25)) D 25).alloc (.cells X 25)
    simpa using h
  have hI : JInv (joinTo a b 0) w.heap.size (w.heap.size + 1 + 1) X w (((w.alloc (.cells C 25)).alloc (.cells D 25)).alloc (.cells X 25)) := by
    refine ⟨by rw [joinTo_zero, ← HC.out]; exact ((at_new w C _).alloc _).alloc _, ?_, (((Below.refl _ _).alloc (Nat.le_refl _) _).alloc (by simp) _).alloc (by simp; omega) _⟩
    have h := at_new ((w.alloc (.cells C 25)).alloc (.cells D 25)) X 25
    simpa using h
  have AD := Lib.hid ad; have HI := Lib.hid hI
  clear ad hI
  go_wp2_with (refine wpList_load_all (by rfl) 25 _ (by rfl) (w.heap.size + 1) (by rfl) _ Tryd.underlying25 (by rfl) D _ AD.out (by rw [DSZ.out]; exact info32) ?_)
  clear AD
  generalize ((w.alloc (.cells C 25)).alloc (.cells D 25)).alloc (.cells X 25) = w3 at *
  go_loopw [5, 6, 8] (fun _ _ i wr => ∃ j : Nat, j ≤ 32 ∧ i = .int .i64 j ∧ JInv (joinTo a b j) w.heap.size (w.heap.size + 1 + 1) X w wr) (fun _ _ i _ => 32 - (intOf i).toNat)
  case atStart => exact ⟨0, by omega, rfl, HI.out⟩
  case round =>
    clear HI
    obtain ⟨j, hj, rfl, hI⟩ := hrel
    by_cases hlt : j < 32
    · have hja : j < a.length := by rw [LA.out]; exact hlt
      have hjb : j < b.length := by rw [← HAB.out]; exact hja
      have hk := hI.k
      obtain ⟨x, hxx⟩ : ∃ x, x = a.getD j 0 := ⟨_, rfl⟩
      obtain ⟨y, hyy⟩ : ∃ y, y = b.getD j 0 := ⟨_, rfl⟩
      have hset : (u8s (joinTo a b j)).toArray.setIfInBounds j (.int .u8 (B8 (x ^^^ y))) = (u8s (joinTo a b (j + 1))).toArray := by
        rw [← joinTo_set a b HAB.out j hja, ← hxx, ← hyy]; exact u8s_set _ _ _
      have cj : wr.cell? ⟨w.heap.size, j, none⟩ = some (.int .u8 (B8 x)) := by
        rw [hk.cell, List.getElem?_toArray, u8s_get _ _ (by rw [joinTo_length a b HAB.out]; exact hja), joinTo_get a b HAB.out j hja, hxx]; rfl
      have dj : D[j]? = some (.int .u8 (B8 y)) := by rw [HD.out, List.getElem?_toArray, u8s_get _ _ hjb, hyy]; rfl
      have hEs : j < (u8s (joinTo a b j)).toArray.size := by simp [u8s, joinTo_length a b HAB.out]; exact hja
      obtain ⟨E, hE⟩ : ∃ E, E = (u8s (joinTo a b j)).toArray := ⟨_, rfl⟩
      rw [← hE] at hk hset hEs
      have KK := Lib.hid hk; have ST := Lib.hid hset; have DS := Lib.hid hEs; have II := Lib.hid hI; have DJ := Lib.hid dj
      clear hk hset hEs hI hE hxx hyy hja hjb dj
      go_wp2_with (first
        | (refine wpList_index_row (by rfl) 25 _ _ (by rfl) 32 5 Tryd.underlying25 _ Tryd.underlying5 (by rfl) infoB D j (by rfl) (by rfl) hlt _ DJ.out ?_)
        | (refine Mem.wpList_store_one (by rfl) 5 _ _ (by rfl) (by rfl) w.heap.size j (.int .u8 (B8 (x ^^^ y))) (by rfl) (by exact congrArg (Value.int .u8) (B8_xor x y)) (by rfl) infoB _ _ KK.out DS.out ?_; intro w4 a4 o4 b4; have A4 := Lib.hid a4; have R4 := Lib.hid (at_keep II.out.r o4 (by omega)); have B4 := Lib.hid (b4 _ _ II.out.b (Nat.le_refl _)); clear a4 o4 b4))
      go_roundw
      case rel => exact ⟨j + 1, by omega, by go_num, by rw [← ST.out]; exact A4.out, R4.out, B4.out⟩
      case measure => simp [intOf]; omega
    · have hj32 : j = 32 := by omega
      have hall : joinTo a b j = joinB a b := by rw [hj32, ← LA.out]; exact joinTo_all a b HAB.out
      rw [hall] at hI
      have hge : ¬ (j : Int) < 32 := by omega
      obtain ⟨M, hM⟩ : ∃ M, M = jnOf a b := ⟨_, rfl⟩
      have hk := hI.k
      rw [show (u8s (joinB a b)).toArray = M from hM.symm] at hk
      have hMs : M.size = 32 := by rw [hM]; simp [jnOf, u8s, joinB_length a b HAB.out, LA.out]
      have hMo : M.all (·.oneCell') = true := by rw [hM]; exact u8s_one _
      have HM := Lib.hid hM; have MS := Lib.hid hMs; have MO := Lib.hid hMo; have KK := Lib.hid hk; have RR := Lib.hid hI.r; have BB := Lib.hid hI.b
      clear hM hMs hMo hk hI hall hj32 hlt hj
      go_wp2_with (first | (refine wpList_load_all (by rfl) 25 _ (by rfl) w.heap.size (by rfl) _ Tryd.underlying25 (by rfl) M _ KK.out (by rw [MS.out]; exact info32) ?_) | (refine wpList_store_all (by rfl) 25 _ _ (by rfl) (by rfl) (w.heap.size + 1 + 1) M (by rfl) (by rfl) (by rw [MS.out]; exact info32) _ _ RR.out (by rw [MS.out, XS.out]) MO.out ?_))
      try simp only [Exit.inBlock, Exit.then]
      refine ret_row (by rfl) (w.heap.size + 1 + 1) 25 M _ (by rfl) (RR.out.row M) Tryd.underlying25 (by rfl) (by rw [MS.out]; exact info32) ?_
      exact ⟨by rw [HM.out], below_row BB.out (by omega) M⟩
end Sha
end Go.Proofs.YtngegegomkclbaaDoor
