/- A block of a stretched key: its walk. -/
import Derived.Test.YtngegegomkclbaaDoorStrEach
namespace Go.Proofs.YtngegegomkclbaaDoor
namespace Sha
open Go.RowKit Mem
def bkOf (k salt : List (BitVec 8)) (n : BitVec 32) (r : Nat) : Array Value := (u8s (blk k salt n r)).toArray
theorem bkOf_size (k salt : List (BitVec 8)) (n : BitVec 32) (r : Nat) : (bkOf k salt n r).size = 32 := by simp [bkOf, u8s, blk_length]
theorem bkOf_one (k salt : List (BitVec 8)) (n : BitVec 32) (r : Nat) : (bkOf k salt n r).all (·.oneCell') = true := u8s_one _
set_option maxRecDepth 100000 in
set_option maxHeartbeats 1000000 in
theorem joined_any (K salt : List (BitVec 8)) (n : BitVec 32) (r : Nat) (vs : Value) (w : World) (lK : K.length = 64) (hr1 : 1 ≤ r) (hr2 : r ≤ 10000) (ls : salt.length ≤ 1099511627776) (hs : Sl w vs salt) (hL : Tabs w) :
    Calls Tryd.prog 41 #[.agg (u8s K).toArray, vs, .int .i64 (r : Int), .int .u32 (V n)] w fun e w' => e = .returned (.agg (bkOf K salt n r)) ∧ Below w.heap.size w w' := by
  have hmf : ∀ (fn : Fn) (first cap : Array Value) (w : World), (Instr.makeFunc fn first cap).run Tryd.prog w = .ok (.func fn first cap) w := fun _ _ _ _ => rfl
  obtain ⟨F, hF⟩ : ∃ F, F = (u8s K).toArray := ⟨_, rfl⟩
  have hFs : F.size = 64 := by rw [hF]; simp [u8s, lK]
  obtain ⟨X, hX⟩ : ∃ X, X = Z32 := ⟨_, rfl⟩
  have hx := zero32
  rw [← hX] at hx
  have hXs : X.size = 32 := by rw [hX]; simp [Z32, u8s]
  obtain ⟨M, hM⟩ : ∃ M, M = bkOf K salt n r := ⟨_, rfl⟩
  have hMs : M.size = 32 := by rw [hM]; exact bkOf_size _ _ _ _
  have hMo : M.all (·.oneCell') = true := by rw [hM]; exact bkOf_one _ _ _ _
  have f3 : At (((w.alloc (.cells F 28)).alloc (.cells X 25)).alloc (.cells X 25)) w.heap.size F 28 := ((at_new w F _).alloc _).alloc _
  have r3 : At (((w.alloc (.cells F 28)).alloc (.cells X 25)).alloc (.cells X 25)) (w.heap.size + 1) X 25 := by
    have h := (at_new (w.alloc (.cells F 28)) X 25).alloc (.cells X 25)
    simpa using h
  have k3 : At (((w.alloc (.cells F 28)).alloc (.cells X 25)).alloc (.cells X 25)) (w.heap.size + 1 + 1) X 25 := by
    have h := at_new ((w.alloc (.cells F 28)).alloc (.cells X 25)) X 25
    simpa using h
  have b3 : Below w.heap.size w (((w.alloc (.cells F 28)).alloc (.cells X 25)).alloc (.cells X 25)) := (((Below.refl _ _).alloc (Nat.le_refl _) _).alloc (by simp) _).alloc (by simp; omega) _
  have hea := each_any K salt n r vs (w.heap.size + 1 + 1) w (((w.alloc (.cells F 28)).alloc (.cells X 25)).alloc (.cells X 25)) lK hr1 hr2 ls hs hL b3 (by omega) (by rw [show (u8s (List.replicate 32 0)).toArray = X by rw [hX]; rfl]; exact k3)
  rw [← hF] at hea
  rw [show (u8s (blk K salt n r)).toArray = M from hM.symm] at hea
  rw [← hF, ← hM]
  have EA := Lib.hid hea; have FS := Lib.hid hFs; have XS := Lib.hid hXs; have MS := Lib.hid hMs; have MO := Lib.hid hMo; have F3 := Lib.hid f3; have R3 := Lib.hid r3
  clear hea hFs hXs hMs hMo f3 r3 k3 b3 hF hX hM hs hL lK ls
  go_enter Tryd.func41, Tryd.ntmps41
  go_wp2_with (refine wpList_load_all (by rfl) 28 _ (by rfl) w.heap.size (by rfl) _ Tryd.underlying28 (by rfl) F _ F3.out (by rw [FS.out]; exact infoK) ?_)
  refine EA.out.mono ?_
  rintro e w4 ⟨rfl, ha4, hb4, ht4⟩
  have A4 := Lib.hid ha4; have B4 := Lib.hid hb4; have R4 := Lib.hid (R3.out.but ht4 (by omega))
  clear ha4 hb4 ht4 EA F3 R3
  go_wp2_with (first | (refine wpList_load_all (by rfl) 25 _ (by rfl) (w.heap.size + 1 + 1) (by rfl) _ Tryd.underlying25 (by rfl) M _ A4.out (by rw [MS.out]; exact info32) ?_) | (refine wpList_store_all (by rfl) 25 _ _ (by rfl) (by rfl) (w.heap.size + 1) M (by rfl) (by rfl) (by rw [MS.out]; exact info32) _ _ R4.out (by rw [MS.out, XS.out]) MO.out ?_))
  try simp only [Exit.inBlock, Exit.then]
  refine ret_row (by rfl) (w.heap.size + 1) 25 M _ (by rfl) (R4.out.row M) Tryd.underlying25 (by rfl) (by rw [MS.out]; exact info32) ?_
  exact ⟨rfl, below_row B4.out (by omega) M⟩
/-- May there be so many rounds? -/
def roundsB (r : Int) : Bool := decide (1 ≤ r) && decide (r ≤ 10000)
set_option maxHeartbeats 400000 in
theorem areRounds_any (r : Int) (w : World) : Calls Tryd.prog 40 #[.int .i64 r] w fun e w' => e = .returned (.bool (roundsB r)) ∧ w = w' := by
  by_cases h1 : 1 ≤ r
  · by_cases h2 : r ≤ 10000
    · have e : Hid (roundsB r = true) := by simp [Hid, roundsB, h1, h2]
      go_enter Tryd.func40, Tryd.ntmps40
      go_wp2
      go_ret
      exact ⟨by rw [e.out]; rfl, rfl⟩
    · have e : Hid (roundsB r = false) := by simp [Hid, roundsB, h2]
      go_enter Tryd.func40, Tryd.ntmps40
      go_wp2
      go_ret
      exact ⟨by rw [e.out]; rfl, rfl⟩
  · have e : Hid (roundsB r = false) := by simp [Hid, roundsB, h1]
    go_enter Tryd.func40, Tryd.ntmps40
    go_wp2
    go_ret
    exact ⟨by rw [e.out]; rfl, rfl⟩
end Sha
end Go.Proofs.YtngegegomkclbaaDoor
