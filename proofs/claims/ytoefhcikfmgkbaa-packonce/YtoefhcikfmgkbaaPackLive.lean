/- The law's own far, and its check of a number and a text (alive): their walks. -/
import Derived.Test.YtoefhcikfmgkbaaPackC
import Derived.Lib.SlBytesConst
import Derived.Laws.BytesArg
namespace Go.Proofs.Ytoefhcikfmgkbaa
namespace Sha
open Go.RowKit Mem
set_option maxHeartbeats 400000 in
theorem far5_yes (n : Nat) (a : Option Addr) (cap : Nat) (w : World) (h : 1000 < n) (hn : n ≤ 9223372036854775807) : Calls Try.prog 7 #[.slice a n cap] w fun e w' => e = .returned (.bool true) ∧ w = w' := by
  have h' : (1000 : Int) < (n : Int) := by omega
  go_enter Try.func7, Try.ntmps7
  go_wp2
  go_ret
  exact ⟨rfl, rfl⟩
set_option maxHeartbeats 400000 in
theorem far5_no (n : Nat) (a : Option Addr) (cap : Nat) (w : World) (h : n ≤ 1000) : Calls Try.prog 7 #[.slice a n cap] w fun e w' => e = .returned (.bool false) ∧ w = w' := by
  have h' : ¬ (1000 : Int) < (n : Int) := by omega
  go_enter Try.func7, Try.ntmps7
  go_wp2
  go_ret
  exact ⟨rfl, rfl⟩
set_option maxRecDepth 100000 in
set_option maxHeartbeats 2000000 in
theorem alive5_any {R : RdAcc} (C : PackC R) (w : World) : Calls Try.prog 8 #[] w fun e w' => e = .returned (.bool true) ∧ Below w.heap.size w w' := by
  have c1 : ∀ wx, Calls Try.prog 14 #[.slice none 0 0, .int .u64 300, .int .i64 2] wx (RSEnd wx [44, 1]) := fun wx => C.num [] 300 2 _ wx (sl_none wx) (by decide) (by decide) (by decide) (by decide)
  have c2 : ∀ (v u : Value) wx, Sl wx v [44, 1] → Sl wx u [97] → Calls Try.prog 9 #[v, u, .int .i64 2] wx (TwoEnd wx [44, 1, 1, 97, 0] 0) := fun v u wx hv hu => C.text [44, 1] [97] 2 v u wx hv hu (by decide) (by decide) (by decide) (by decide)
  have c3 := fun (v : Value) wx (hv : Sl wx v [44, 1, 1, 97, 0]) => C.read [44, 1, 1, 97, 0] v wx hv (by decide)
  have c4 : ∀ (br : Nat) wx, R wx br [44, 1, 1, 97, 0] 0 → Calls Try.prog 18 #[rp br, .int .i64 2, .int .u64 400] wx fun o w' => o = .returned (.int .u64 300) ∧ PEnd R wx br [1, 97, 0] 0 w' := fun br wx hr => by
    have h := C.pnum [44, 1, 1, 97, 0] 0 2 400 br wx hr (by decide) (by decide) (by decide) (by decide) (by decide)
    rw [show rdNum [44, 1, 1, 97, 0] 0 (cutN 2 1 8) 400 = (300, [1, 97, 0], 0) by decide] at h
    exact h
  have c5 := fun (br : Nat) wx (hr : R wx br [1, 97, 0] 0) => C.ptext [1, 97, 0] 0 2 br wx hr (by decide) (by decide) (by decide) (by decide)
  have c6 : ∀ (br : Nat) wx, R wx br [] 0 → Calls Try.prog 24 #[rp br] wx fun o w' => o = .returned (.int .i64 0) ∧ PEnd R wx br [] 0 w' := fun br wx hr => C.prest [] 0 br wx hr (by decide) (by decide)
  have c7 : ∀ (br : Nat) wx, R wx br [] 0 → Calls Try.prog 27 #[rp br] wx fun o w' => o = .returned (.int .i64 0) ∧ PEnd R wx br [] 0 w' := fun br wx hr => C.pleft [] 0 br wx hr (by decide) (by decide)
  rw [show rdText [1, 97, 0] 0 (cutN 2 1 255) = ⟨[97], [], 0⟩ by rfl] at c5
  have C1 := Lib.hid c1; have C2 := Lib.hid c2; have C3 := Lib.hid c3; have C4 := Lib.hid c4; have C5 := Lib.hid c5; have C6 := Lib.hid c6; have C7 := Lib.hid c7; have CC := Lib.hid C
  clear c1 c2 c3 c4 c5 c6 c7 C
  go_enter Try.func8, Try.ntmps8
  go_wp2_with fail
  refine (C1.out _).mono ?_
  rintro e w2 ⟨v2, rfl, s2, hb2⟩
  have hcv := fun (wx : World) (C : Array Value) (n c : Nat) => Lib.run_convert_bytes_const (P := Try.prog) wx 22 5 C n c Try.underlying22 Try.underlying5
  have S2 := Lib.hid s2; have E2 := Lib.hid hb2
  clear s2 hb2
  go_wp2_with fail
  have e3 : Below w.heap.size w (w2.alloc (.cells #[.int .u8 97] 5 (1, 2))) := E2.out.alloc E2.out.size _
  have s3 : Sl (w2.alloc (.cells #[.int .u8 97] 5 (1, 2))) v2 [44, 1] := S2.out.below ((Below.refl _ _).alloc (Nat.le_refl _) _)
  have sa : Sl (w2.alloc (.cells #[.int .u8 97] 5 (1, 2))) (.slice (some ⟨w2.heap.size, 0, none⟩) 1 1) [97] := by
    have hh := heap_alloc_new w2 (.cells #[.int .u8 97] 5 (1, 2))
    refine ⟨_, _, rfl, by decide, fun _ => ⟨_, _, rfl, by simp, fun i hi => ?_⟩⟩
    match i, hi with
    | 0, _ => exact cell_of_row _ _ 0 _ _ _ hh
  have E3 := Lib.hid e3; have S3 := Lib.hid s3; have SA := Lib.hid sa
  clear e3 s3 sa hcv E2 S2
  generalize w2.alloc (.cells #[.int .u8 97] 5 (1, 2)) = w3 at *
  refine (C2.out _ _ _ S3.out SA.out).mono ?_
  rintro e w4 ⟨v4, rfl, s4, hb4⟩
  have S4 := Lib.hid s4; have E4 := Lib.hid (E3.out.trans (hb4.mono E3.out.size))
  clear s4 hb4 S3 SA E3
  go_wp2_with fail
  refine (C3.out _ _ S4.out).mono ?_
  rintro e w5 ⟨br, rfl, hbr, r5, hb5⟩
  have F5 := Lib.hid hb5; have E5 := Lib.hid (E4.out.trans (hb5.mono E4.out.size)); have R5 := Lib.hid r5; have BR := Lib.hid (Nat.le_trans E4.out.size hbr)
  have GE := Lib.hid hbr
  clear r5 hb5 hbr E4
  go_wp2_with fail
  refine (C4.out _ _ R5.out).mono ?_
  rintro e w6 ⟨rfl, p6⟩
  have F6 := Lib.hid (p6.k _ _ F5.out GE.out); have E6 := Lib.hid (p6.k _ _ E5.out BR.out); have R6 := Lib.hid p6.r
  clear p6 F5 E5 R5
  go_wp2_with fail
  refine (C5.out _ _ R6.out).mono ?_
  rintro e w7 ⟨v7, rfl, s7, p7⟩
  have s4 := S4.out.below (p7.k _ _ F6.out GE.out)
  have F7 := Lib.hid (p7.k _ _ F6.out GE.out); have E7 := Lib.hid (p7.k _ _ E6.out BR.out); have R7 := Lib.hid p7.r
  obtain ⟨a4, cap4, rfl, _, _⟩ := S4.out
  obtain ⟨b4, o4, rfl, ct⟩ := sl_at (i := 0) s4 (by decide)
  have s8 := s7
  obtain ⟨a7, cap7, rfl, _, _⟩ := s7
  obtain ⟨b7, o7, rfl, cs⟩ := sl_at (i := 0) s8 (by decide)
  have hcv : (convert 22 9 (.slice (some ⟨b7, o7, none⟩) 1 cap7)).run Try.prog w7 = .ok (.string ⟨#[97]⟩) w7 :=
    run_convert_bytes_arg w7 22 5 Try.underlying22 Try.underlying5 b7 o7 1 cap7 [97] rfl (fun i hi => by
      match i, hi with
      | 0, _ => exact cs) 9 Try.underlying9
  have cx : w7.cell? ⟨b4, o4, none⟩ = some (.int .u8 44) := ct
  clear p7 F6 E6 R6 s8 s4 ct cs S4
  rw [show [(97 : BitVec 8)].length = 1 from rfl, show [(44 : BitVec 8), 1, 1, 97, 0].length = 5 from rfl]
  go_wp2_with fail
  refine (C6.out _ _ R7.out).mono ?_
  rintro e w8 ⟨rfl, p8⟩
  have E8 := Lib.hid (p8.k _ _ E7.out BR.out); have R8 := Lib.hid p8.r
  clear p8 E7 R7 hcv
  go_wp2_with fail
  refine (C7.out _ _ R8.out).mono ?_
  rintro e w9 ⟨rfl, p9⟩
  have E9 := Lib.hid (p9.k _ _ E8.out BR.out)
  clear p9
  go_wp2_with fail
  go_ret
  exact ⟨rfl, E9.out⟩
end Sha
end Go.Proofs.Ytoefhcikfmgkbaa
