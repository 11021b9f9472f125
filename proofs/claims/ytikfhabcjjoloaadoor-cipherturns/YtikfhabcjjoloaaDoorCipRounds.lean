/- The rounds of a block's words: their walk. -/
import Derived.Test.YtikfhabcjjoloaaDoorCipTurn
namespace Go.Proofs.YtikfhabcjjoloaaDoor
namespace Sha
open Go.RowKit Mem
theorem plc_row (m : Nat) (h : m < 8) : (ints plc.flatten).toArray.extract (m * 4) (m * 4 + 4) = (ints (plc.getD m [])).toArray ∧ (plc.getD m []).length = 4 ∧ ∀ j, j < 4 → (plc.getD m []).getD j 0 < 16 := by
  have : m = 0 ∨ m = 1 ∨ m = 2 ∨ m = 3 ∨ m = 4 ∨ m = 5 ∨ m = 6 ∨ m = 7 := by omega
  rcases this with rfl | rfl | rfl | rfl | rfl | rfl | rfl | rfl <;> exact ⟨rfl, rfl, by decide⟩
def Zi4 : Array Value := #[.int .i64 0, .int .i64 0, .int .i64 0, .int .i64 0]
theorem zeroI4 (w : World) : (zeroValue 57).run Tryd.prog w = .ok (.agg Zi4) w := by kernel_rfl
theorem infoI4 : (Tryd.prog.info? 57).map (·.size) = some 4 := by kernel_rfl
theorem infoI32 : (Tryd.prog.info? 59).map (·.size) = some 32 := by kernel_rfl
structure RInv (X : Array Value) (L : List (BitVec 32)) (w wr : World) : Prop where
  a : At wr w.heap.size (u32s L).toArray 46
  r : At wr (w.heap.size + 1) X 46
  b : Below w.heap.size w wr
def rdOf (W : List (BitVec 32)) : Array Value := (u32s (all8 W 10)).toArray
theorem rdOf_size (W : List (BitVec 32)) (h : W.length = 16) : (rdOf W).size = 16 := by simp [rdOf, u32s, all8_length, h]
set_option maxRecDepth 100000 in
set_option maxHeartbeats 2000000 in
theorem turnWords_any (W : List (BitVec 32)) (lW : W.length = 16) (w : World) (hL : CTabs w) :
    Calls Tryd.prog 22 #[.agg (u32s W).toArray] w fun e w' => e = .returned (.agg (rdOf W)) ∧ Below w.heap.size w w' := by
  have hmf : ∀ (fn : Fn) (first cap : Array Value) (w : World), (Instr.makeFunc fn first cap).run Tryd.prog w = .ok (.func fn first cap) w := fun _ _ _ _ => rfl
  obtain ⟨X, hX⟩ : ∃ X, X = Z16 := ⟨_, rfl⟩
  have hx := zero16
  rw [← hX] at hx
  have hXs : X.size = 16 := by rw [hX]; simp [Z16, u32s]
  obtain ⟨Y, hY⟩ : ∃ Y, Y = Zi4 := ⟨_, rfl⟩
  have hy := zeroI4
  rw [← hY] at hy
  have hYs : Y.size = 4 := by rw [hY]; rfl
  obtain ⟨C, hC⟩ : ∃ C, C = (u32s W).toArray := ⟨_, rfl⟩
  rw [← hC]
  have hI : RInv X (all8 W 0) w ((w.alloc (.cells C 46)).alloc (.cells X 46)) := by
    refine ⟨by rw [all8, ← hC]; exact (at_new w C _).alloc _, ?_, ((Below.refl _ _).alloc (Nat.le_refl _) _).alloc (by simp) _⟩
    have h := at_new (w.alloc (.cells C 46)) X 46
    simpa using h
  obtain ⟨PL, hPL⟩ : ∃ PL, PL = ints plc.flatten := ⟨_, rfl⟩
  have pt := fun wx (hb : Below w.heap.size w wx) => (hL.p.below hb hL.p.lt).c
  have pr := fun m (h : m < 8) => (plc_row m h).1
  have ps : (Tryd.prog.info? 59).map (·.size) = some PL.length := by rw [hPL]; exact infoI32
  rw [← hPL] at pt pr
  have HI := Lib.hid hI; have XS := Lib.hid hXs; have YS := Lib.hid hYs; have PT := Lib.hid pt; have PR := Lib.hid pr; have PS := Lib.hid ps; have LW := Lib.hid lW
  clear hI hXs hYs hX hY hC hPL pt pr ps lW hL
  go_enter Tryd.func22, Tryd.ntmps22
  go_wp2_with fail
  generalize (w.alloc (.cells C 46)).alloc (.cells X 46) = w4 at *
  go_loopw [5, 7] (fun _ i wr => ∃ r : Nat, r ≤ 10 ∧ i = .int .i64 r ∧ RInv X (all8 W r) w wr) (fun _ i _ => 10 - (intOf i).toNat)
  case atStart => exact ⟨0, by omega, rfl, HI.out⟩
  case round =>
    clear HI
    obtain ⟨r, hr, rfl, hI⟩ := hrel
    by_cases hlt : r < 10
    · obtain ⟨L, hLL⟩ : ∃ L, L = all8 W r := ⟨_, rfl⟩
      have hnext : some8 L 8 = all8 W (r + 1) := by rw [hLL]; rfl
      have lL : L.length = 16 := by rw [hLL, all8_length]; exact LW.out
      rw [← hLL] at hI
      have II := Lib.hid hI; have NX := Lib.hid hnext; have LL := Lib.hid lL
      have hlt' : (r : Int) < 10 := by omega
      clear hI hnext lL hLL
      go_wp2_with (refine wpList_load_mid (by rfl) 59 _ (by rfl) 1 0 (by rfl) PL _ (PT.out _ II.out.b) Tryd.underlying59 (by rfl) PS.out ?_)
      obtain ⟨wo, rfl⟩ : ∃ wo : World, wo = wr := ⟨_, rfl⟩
      go_loopw [5, 10] (fun _ i wr => ∃ m : Nat, m ≤ 8 ∧ i = .int .i64 m ∧ RInv X (some8 L m) w wr) (fun _ i _ => 8 - (intOf i).toNat)
      case atStart => exact ⟨0, by omega, rfl, II.out⟩
      case round =>
        clear II
        obtain ⟨m, hm, rfl, hI⟩ := hrel
        by_cases hlt2 : m < 8
        · obtain ⟨_, p2, p3⟩ := plc_row m hlt2
          have p1 := PR.out m hlt2
          have hnx : some8 L (m + 1) = qpl (some8 L m) (plc.getD m []) := some8_next L m hlt2
          have l8 : (some8 L m).length = 16 := by rw [some8_length L m (by omega)]; exact LL.out
          have hli := fun wx (h : At wx w.heap.size (u32s (some8 L m)).toArray 46) => clit_any (some8 L m) (plc.getD m []) w.heap.size wx l8 p2 p3 h
          rw [← hnx] at hli
          obtain ⟨G, hG⟩ : ∃ G, G = (ints (plc.getD m [])).toArray := ⟨_, rfl⟩
          have gs : G.size = 4 := by rw [hG, List.size_toArray, ints_length]; exact p2
          have go : G.all (·.oneCell') = true := by rw [hG]; exact ints_one _
          rw [← hG] at p1 hli
          have LIT := Lib.hid hli; have P1 := Lib.hid p1; have GS := Lib.hid gs; have GO := Lib.hid go; have II := Lib.hid hI
          have hlt3 : (m : Int) < 8 := by omega
          clear hli p1 p2 p3 gs go hG hI hnx l8
          go_wp2_with (first
            | (refine wpList_index_rows (by rfl) 59 _ _ (by rfl) 8 57 Tryd.underlying59 _ Tryd.underlying57 (by rfl) 4 infoI4 PL.toArray m (by rfl) (by rfl) hlt2 G P1.out ?_)
            | (refine wpList_store_new (by rfl) 57 _ _ (by rfl) (by rfl) G _ _ (by rfl) (by rfl) (by rw [GS.out]; exact infoI4) (by rw [GS.out, YS.out]) GO.out ?_)
            | (refine wpList_load_all (by rfl) 57 _ (by rfl) wr.heap.size (by rfl) _ Tryd.underlying57 (by rfl) G _ (at_new wr G _) (by rw [GS.out]; exact infoI4) ?_))
          refine (LIT.out _ (II.out.a.alloc _)).mono ?_
          rintro e w' ⟨rfl, ha2, hb2, hk2⟩
          have A2 := Lib.hid ha2; have R2 := Lib.hid ((II.out.r.alloc (.cells G 57)).but hb2 (by omega)); have B2 := Lib.hid (hk2 _ _ (II.out.b.alloc II.out.b.size (.cells G 57)) (Nat.le_refl _) (by have := II.out.b.size; simp; omega))
          clear ha2 hb2 hk2 LIT II
          go_wp2_with fail
          go_roundw
          case rel => exact ⟨m + 1, by omega, by go_num, A2.out, R2.out, B2.out⟩
          case measure => simp [intOf]; omega
        · have hm8 : m = 8 := by omega
          have hge : ¬ (m : Int) < 8 := by omega
          rw [hm8, NX.out] at hI
          have II := Lib.hid hI
          clear hI hm8 hlt2 hm
          go_wp2_with fail
          go_roundw
          case rel => exact ⟨r + 1, by omega, by go_num, II.out⟩
          case measure => simp [intOf]; omega
    · have hr10 : r = 10 := by omega
      have hge : ¬ (r : Int) < 10 := by omega
      rw [hr10] at hI
      obtain ⟨M, hM⟩ : ∃ M, M = rdOf W := ⟨_, rfl⟩
      have hk := hI.a
      rw [show (u32s (all8 W 10)).toArray = M by rw [hM]; rfl] at hk
      have hMs : M.size = 16 := by rw [hM]; exact rdOf_size _ LW.out
      have hMo : M.all (·.oneCell') = true := by rw [hM]; exact u32s_one _
      have HM := Lib.hid hM; have MS := Lib.hid hMs; have MO := Lib.hid hMo; have KK := Lib.hid hk; have RR := Lib.hid hI.r; have BB := Lib.hid hI.b
      clear hM hMs hMo hk hI hlt hr hr10
      go_wp2_with (first | (refine wpList_load_all (by rfl) 46 _ (by rfl) w.heap.size (by rfl) _ Tryd.underlying46 (by rfl) M _ KK.out (by rw [MS.out]; exact info16) ?_) | (refine wpList_store_all (by rfl) 46 _ _ (by rfl) (by rfl) (w.heap.size + 1) M (by rfl) (by rfl) (by rw [MS.out]; exact info16) _ _ RR.out (by rw [MS.out, XS.out]) MO.out ?_))
      try simp only [Exit.inBlock, Exit.then]
      refine ret_row (by rfl) (w.heap.size + 1) 46 M _ (by rfl) (RR.out.row M) Tryd.underlying46 (by rfl) (by rw [MS.out]; exact info16) ?_
      exact ⟨by rw [HM.out], below_row BB.out (by omega) M⟩
end Sha
end Go.Proofs.YtikfhabcjjoloaaDoor
