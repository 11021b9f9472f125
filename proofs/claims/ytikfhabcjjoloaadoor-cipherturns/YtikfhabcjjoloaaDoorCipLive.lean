/- The law's own far, and its check that a text is turned twice (alive): their walks. -/
import Derived.Test.YtikfhabcjjoloaaDoorCipTurned
import Derived.Lib.SlBytesConst
import Derived.Laws.BytesArg
namespace Go.Proofs.YtikfhabcjjoloaaDoor
namespace Mem
open Go.RowKit
/-- A load of a whole block in a plain region, guarded or not. -/
theorem wpList_load_wanted {P : Program} {ops : Array Oper} {rest : List Oper} {o : Oper} {a : Act} {w : World} {Q : Exit → Act → World → Prop} (hw : Region.wanted o (yielded ops a.tmps) = true) (ty : TypeId) (x : Operand) (hop : o.op = .load ty x)
    (b : Nat) (hx : a.eval x = .pointer (some ⟨b, 0, none⟩)) (d : TypeDesc) (hu : P.underlying ty = some d) (hd : d.isRow = true)
    (C : Array Value) (t : TypeId) (hC : At w b C t) (hi : (P.info? ty).map (·.size) = some C.size) (h : wpList P ops Q rest (a.put o.dst (.agg C)) w) : wpList P ops Q (o :: rest) a w := by
  unfold wpList
  rw [if_pos hw]
  left
  unfold Oper.wp
  have hrg := hC.range 0 C.size
  have hr := run_loadAt_mid (P := P) w b 0 ty (C.extract 0 (0 + C.size)).toList d hrg hu hd (by rw [hi]; simp)
  have : (execOp a.eval o).run P w = .ok (.value (.agg C)) w := by
    unfold execOp
    simp only [hop, hx, Sem.run_bind, hr, Result.andThen_ok, Sem.run_pure]
    simp
  rw [this]
  exact h
end Mem
namespace Sha
open Go.RowKit Mem
set_option maxHeartbeats 400000 in
theorem far4_yes (n : Nat) (a : Option Addr) (cap : Nat) (w : World) (h : 700 < n) (hn : n ≤ 9223372036854775807) : Calls Tryd.prog 12 #[.slice a n cap] w fun e w' => e = .returned (.bool true) ∧ w = w' := by
  have h' : (700 : Int) < (n : Int) := by omega
  go_enter Tryd.func12, Tryd.ntmps12
  go_wp2
  go_ret
  exact ⟨rfl, rfl⟩
set_option maxHeartbeats 400000 in
theorem far4_no (n : Nat) (a : Option Addr) (cap : Nat) (w : World) (h : n ≤ 700) : Calls Tryd.prog 12 #[.slice a n cap] w fun e w' => e = .returned (.bool false) ∧ w = w' := by
  have h' : ¬ (700 : Int) < (n : Int) := by omega
  go_enter Tryd.func12, Tryd.ntmps12
  go_wp2
  go_ret
  exact ⟨rfl, rfl⟩
def K1 : List (BitVec 8) := 1 :: List.replicate 31 0
theorem build_K1 (w : World) : (Instr.build 22 #[(0, .int .u8 1)]).run Tryd.prog w = .ok (.agg (u8s K1).toArray) w := by kernel_rfl
theorem build_K0 (w : World) : (Instr.build 22 #[]).run Tryd.prog w = .ok (.agg (u8s (List.replicate 32 0)).toArray) w := by kernel_rfl
set_option maxRecDepth 100000 in
set_option maxHeartbeats 2000000 in
theorem alive4_any (w : World) (hL : CTabs w) : Calls Tryd.prog 11 #[] w fun e w' => e = .returned (.bool true) ∧ Below w.heap.size w w' := by
  have hx := zero12
  obtain ⟨X, hX⟩ : ∃ X, X = Z12 := ⟨_, rfl⟩
  rw [← hX] at hx
  have hXs : X.size = 12 := by rw [hX]; simp [Z12, u8s]
  obtain ⟨nc, hnc⟩ : ∃ nc, nc = cnonce 1 2 := ⟨_, rfl⟩
  have lnc : nc.length = 12 := by rw [hnc]; exact cnonce_length _ _
  have hno : ∀ wx, Calls Tryd.prog 18 #[.int .u32 1, .int .u64 2] wx fun o w' => o = .returned (.agg (u8s nc).toArray) ∧ Below wx.heap.size wx w' := fun wx => by
    rw [hnc]; exact nonce_any 1 2 wx
  have n0 : (u8s nc).toArray[0]? = some (.int .u8 1) := by rw [hnc]; rfl
  have n4 : (u8s nc).toArray[4]? = some (.int .u8 2) := by rw [hnc]; rfl
  have htu := fun (l : List (BitVec 8)) (v : Value) (hz : l.length ≤ 1048576) wx (hv : Sl wx v l) (h : Below w.heap.size w wx) => turned_any K1 nc 0 l v (by simp [K1]) lnc hz wx hv (hL.below h (Nat.le_refl _))
  have hstr := fun wx (h : Below w.heap.size w wx) => stream_good (List.replicate 32 0) nc 0 65 (by simp) lnc (by decide) wx (hL.below h (Nat.le_refl _))
  have hb1 := build_K1
  have hb0 := build_K0
  have hlen : (cstream (List.replicate 32 0) nc 0 65).length = 65 := cstream_length _ _ _ _
  obtain ⟨T, hT⟩ : ∃ T, T = cturn [97, 98] (cstream K1 nc 0 2) := ⟨_, rfl⟩
  have lT : T.length = 2 := by rw [hT]; exact cturn_length _ _ (by rw [cstream_length]; decide)
  have ht1 : ∀ (v : Value) wx, Sl wx v [97, 98] → Below w.heap.size w wx → Calls Tryd.prog 14 #[.agg (u8s K1).toArray, .agg (u8s nc).toArray, .int .u32 0, v] wx (SEnd wx T) := fun v wx hv h => by
    rw [hT]; exact htu [97, 98] v (by decide) wx hv h
  have ht2 : ∀ (v : Value) wx, Sl wx v T → Below w.heap.size w wx → Calls Tryd.prog 14 #[.agg (u8s K1).toArray, .agg (u8s nc).toArray, .int .u32 0, v] wx (SEnd wx [97, 98]) := fun v wx hv h => by
    have h2 := htu T v (by rw [lT]; decide) wx hv h
    rw [lT, hT, cturn_back _ _ (by rw [cstream_length]; decide)] at h2
    exact h2
  have hs2 : ∀ wx, Below w.heap.size w wx → Calls Tryd.prog 16 #[.agg (u8s (List.replicate 32 0)).toArray, .agg (u8s nc).toArray, .int .u32 0, .int .i64 65] wx (SEnd wx (cstream (List.replicate 32 0) nc 0 65)) := fun wx h => hstr wx h
  obtain ⟨Y, hY⟩ : ∃ Y, Y = (u8s K1).toArray := ⟨_, rfl⟩
  obtain ⟨Y0, hY0⟩ : ∃ Y, Y = (u8s (List.replicate 32 0)).toArray := ⟨_, rfl⟩
  have hy1 : (#[.int .u8 1, .int .u8 0, .int .u8 0, .int .u8 0, .int .u8 0, .int .u8 0, .int .u8 0, .int .u8 0, .int .u8 0, .int .u8 0, .int .u8 0, .int .u8 0, .int .u8 0, .int .u8 0, .int .u8 0, .int .u8 0, .int .u8 0, .int .u8 0, .int .u8 0, .int .u8 0, .int .u8 0, .int .u8 0, .int .u8 0, .int .u8 0, .int .u8 0, .int .u8 0, .int .u8 0, .int .u8 0, .int .u8 0, .int .u8 0, .int .u8 0, .int .u8 0] : Array Value) = Y := by rw [hY]; rfl
  have hy0 : (#[.int .u8 0, .int .u8 0, .int .u8 0, .int .u8 0, .int .u8 0, .int .u8 0, .int .u8 0, .int .u8 0, .int .u8 0, .int .u8 0, .int .u8 0, .int .u8 0, .int .u8 0, .int .u8 0, .int .u8 0, .int .u8 0, .int .u8 0, .int .u8 0, .int .u8 0, .int .u8 0, .int .u8 0, .int .u8 0, .int .u8 0, .int .u8 0, .int .u8 0, .int .u8 0, .int .u8 0, .int .u8 0, .int .u8 0, .int .u8 0, .int .u8 0, .int .u8 0] : Array Value) = Y0 := by rw [hY0]; rfl
  obtain ⟨NC, hNC⟩ : ∃ NC, NC = (u8s nc).toArray := ⟨_, rfl⟩
  obtain ⟨S, hS⟩ : ∃ S, S = cstream (List.replicate 32 0) nc 0 65 := ⟨_, rfl⟩
  have hNs : NC.size = 12 := by rw [hNC]; simp [u8s, lnc]
  have hNo : NC.all (·.oneCell') = true := by rw [hNC]; exact u8s_one _
  rw [← hY] at hb1 ht1 ht2; rw [← hY0] at hb0 hs2; rw [← hNC] at hno n0 n4 ht1 ht2 hs2; rw [← hS] at hlen hs2
  have B1 := Lib.hid hb1; have B0 := Lib.hid hb0; have NO := Lib.hid hno; have T1 := Lib.hid ht1; have T2 := Lib.hid ht2; have S2 := Lib.hid hs2; have LS := Lib.hid hlen; have LT := Lib.hid lT; have NS := Lib.hid hNs; have NOO := Lib.hid hNo; have XS := Lib.hid hXs; have N0 := Lib.hid n0; have N4 := Lib.hid n4; have HY1 := Lib.hid hy1; have HY0 := Lib.hid hy0
  clear hy1 hy0 htu hstr hb1 hb0 hno ht1 ht2 hs2 hlen lT hT hNs hNo hXs hX n0 n4 hY hY0 hNC hS lnc hnc hL
  go_enter Tryd.func11, Tryd.ntmps11
  go_wp2_with fail
  refine (NO.out _).mono ?_
  rintro e w2 ⟨rfl, hb2⟩
  have E2 := Lib.hid hb2
  clear hb2
  have hcv := fun (wx : World) (C : Array Value) (n c : Nat) => Lib.run_convert_bytes_const (P := Tryd.prog) wx 34 5 C n c Tryd.underlying34 Tryd.underlying5
  go_wp2_with (first
    | (refine wpList_store_new (by rfl) 23 _ _ (by rfl) (by rfl) NC _ _ (by rfl) (by rfl) (by rw [NS.out]; exact info12) (by rw [NS.out, XS.out]) NOO.out ?_; have N3 := Lib.hid (at_new w2 NC 23); have E3 := Lib.hid (E2.out.alloc E2.out.size (.cells NC 23)); generalize w2.alloc (.cells NC 23) = w3 at *; generalize w2.heap.size = bn at *)
    | (refine wpList_build (by rfl) 22 _ #[(0, .int .u8 1)] (.agg Y) (by rfl) (by rfl) B1.out ?_)
    | (refine wpList_load_all (by rfl) 23 _ (by rfl) bn (by rfl) _ Tryd.underlying23 (by rfl) NC _ N3.out (by rw [NS.out]; exact info12) ?_))
  rw [HY1.out]
  have e4 : Below w.heap.size w (w3.alloc (.cells #[.int .u8 97, .int .u8 98] 5 (2, 3))) := E3.out.alloc E3.out.size _
  have n4 : At (w3.alloc (.cells #[.int .u8 97, .int .u8 98] 5 (2, 3))) bn NC 23 := N3.out.alloc _
  have sa : Sl (w3.alloc (.cells #[.int .u8 97, .int .u8 98] 5 (2, 3))) (.slice (some ⟨w3.heap.size, 0, none⟩) 2 2) [97, 98] := by
    have hh := heap_alloc_new w3 (.cells #[.int .u8 97, .int .u8 98] 5 (2, 3))
    refine ⟨_, _, rfl, by decide, fun _ => ⟨_, _, rfl, by simp, fun i hi => ?_⟩⟩
    match i, hi with
    | 0, _ => exact cell_of_row _ _ 0 _ _ _ hh
    | 1, _ => exact cell_of_row _ _ 1 _ _ _ hh
  have E4 := Lib.hid e4; have N4' := Lib.hid n4; have SA := Lib.hid sa
  clear e4 n4 sa hcv
  generalize w3.alloc (.cells #[.int .u8 97, .int .u8 98] 5 (2, 3)) = w4 at *
  generalize w3.heap.size = ba at *
  refine (T1.out _ _ SA.out E4.out).mono ?_
  rintro e w5 ⟨g, rfl, hat5, hg5, hb5⟩
  rw [LT.out]
  have E5 := Lib.hid (E4.out.trans (hb5.mono E4.out.size)); have N5 := Lib.hid (N4'.out.below hb5 N4'.out.lt); have S5 := Lib.hid (at_sl hat5 LT.out)
  clear hat5 hg5 hb5 E4 N4' SA E3 N3 E2 T1
  have c0 : w5.cell? ⟨bn, 0, none⟩ = some (.int .u8 1) := by rw [N5.out.cell]; exact N0.out
  have c4 : w5.cell? ⟨bn, 4, none⟩ = some (.int .u8 2) := by rw [N5.out.cell]; exact N4.out
  go_wp2_with (refine wpList_load_wanted (by rfl) 23 _ (by rfl) bn (by rfl) _ Tryd.underlying23 (by rfl) NC _ N5.out (by rw [NS.out]; exact info12) ?_)
  rw [HY1.out]
  refine (T2.out _ _ S5.out E5.out).mono ?_
  rintro e w6 ⟨g2, rfl, hat6, hg6, hb6⟩
  have E6 := Lib.hid (E5.out.trans (hb6.mono E5.out.size)); have N6 := Lib.hid (N5.out.below hb6 N5.out.lt)
  have hcv2 : (convert 34 9 (.slice (some ⟨g2, 0, none⟩) 2 2)).run Tryd.prog w6 = .ok (.string ⟨#[97, 98]⟩) w6 :=
    run_convert_bytes_arg w6 34 5 Tryd.underlying34 Tryd.underlying5 g2 0 2 2 [97, 98] rfl (fun i hi => by
      match i, hi with
      | 0, _ => rw [hat6.cell]; rfl
      | 1, _ => rw [hat6.cell]; rfl) 9 Tryd.underlying9
  clear hat6 hg6 hb6 S5 E5 N5 T2 c0 c4
  go_wp2_with (refine wpList_load_wanted (by rfl) 23 _ (by rfl) bn (by rfl) _ Tryd.underlying23 (by rfl) NC _ N6.out (by rw [NS.out]; exact info12) ?_)
  rw [HY0.out]
  refine (S2.out _ E6.out).mono ?_
  rintro e w7 ⟨g3, rfl, hat7, hg7, hb7⟩
  rw [LS.out]
  have E7 := Lib.hid (E6.out.trans (hb7.mono E6.out.size))
  clear hat7 hg7 hb7 hcv2
  go_wp2_with fail
  go_ret
  exact ⟨rfl, E7.out⟩
end Sha
end Go.Proofs.YtikfhabcjjoloaaDoor
