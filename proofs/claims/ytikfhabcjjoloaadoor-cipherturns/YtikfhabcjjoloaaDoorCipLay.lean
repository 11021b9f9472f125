/- The first words of a block: their walk. -/
import Derived.Test.YtikfhabcjjoloaaDoorCipPut
import Derived.Test.YtikfhabcjjoloaaDoorTab
namespace Go.Proofs.YtikfhabcjjoloaaDoor
namespace Sha
open Go.RowKit Mem
def fwl : List (BitVec 32) := [1634760805, 857760878, 2036477234, 1797285236]
/-- The two tables of package cipher. -/
structure CTabs (w : World) : Prop where
  f : TabV w 0 (u32s fwl)
  p : TabV w 1 (ints plc.flatten)
theorem CTabs.below {w w' : World} {B : Nat} (h : CTabs w) (hb : Below B w w') (hB : w.heap.size ≤ B) : CTabs w' :=
  ⟨h.f.below hb (Nat.lt_of_lt_of_le h.f.lt hB), h.p.below hb (Nat.lt_of_lt_of_le h.p.lt hB)⟩
theorem cfirst_known (key nonce : List (BitVec 8)) (n : BitVec 32) (j : Nat) (h : j < 4) : (cfirst key nonce n).getD j 0 = fwl.getD j 0 := by
  have : j = 0 ∨ j = 1 ∨ j = 2 ∨ j = 3 := by omega
  rcases this with rfl | rfl | rfl | rfl <;> rfl
theorem cfirst_key (key nonce : List (BitVec 8)) (n : BitVec 32) (j : Nat) (h : j < 8) : (cfirst key nonce n).getD (4 + j) 0 = lew key j := by
  have : j = 0 ∨ j = 1 ∨ j = 2 ∨ j = 3 ∨ j = 4 ∨ j = 5 ∨ j = 6 ∨ j = 7 := by omega
  rcases this with rfl | rfl | rfl | rfl | rfl | rfl | rfl | rfl <;> rfl
theorem cfirst_count (key nonce : List (BitVec 8)) (n : BitVec 32) : (cfirst key nonce n).getD 12 0 = n := rfl
theorem cfirst_nonce (key nonce : List (BitVec 8)) (n : BitVec 32) (j : Nat) (h : j < 3) : (cfirst key nonce n).getD (13 + j) 0 = lew nonce j := by
  have : j = 0 ∨ j = 1 ∨ j = 2 := by omega
  rcases this with rfl | rfl | rfl <;> rfl
theorem at_low {w : World} {b n i : Nat} {l : List (BitVec 8)} {t : TypeId} (h : At w b (u8s l).toArray t) (hl : l.length = n) (hi : 4 * i + 4 ≤ n) :
    Sl w (.slice (some ⟨b, 4 * i, none⟩) (n - 4 * i) (n - 4 * i)) (l.drop (4 * i)) := by
  have hlen : (l.drop (4 * i)).length = n - 4 * i := by rw [List.length_drop, hl]
  refine ⟨_, _, by rw [hlen], by rw [hlen]; exact Nat.le_refl _, fun _ => ⟨b, 4 * i, rfl, h.lt, fun k hk => ?_⟩⟩
  rw [hlen] at hk
  rw [h.cell, List.getElem?_toArray, u8s_get l (4 * i + k) (by omega)]
  simp [List.getD_eq_getElem?_getD]
theorem lew_low (l : List (BitVec 8)) (i : Nat) : lew (l.drop (4 * i)) 0 = lew l i := by
  simp [lew, List.getD_eq_getElem?_getD]
def Z16 : Array Value := (u32s (List.replicate 16 0)).toArray
theorem zero16 (w : World) : (zeroValue 46).run Tryd.prog w = .ok (.agg Z16) w := by kernel_rfl
theorem info16 : (Tryd.prog.info? 46).map (·.size) = some 16 := by kernel_rfl
theorem info4w : (Tryd.prog.info? 26).map (·.size) = some 4 := by kernel_rfl
structure LInv (C D X : Array Value) (W : List (BitVec 32)) (w wr : World) : Prop where
  c : At wr w.heap.size C 22
  d : At wr (w.heap.size + 1) D 23
  r : At wr (w.heap.size + 1 + 1) X 46
  k : At wr (w.heap.size + 1 + 1 + 1) (u32s W).toArray 46
  b : Below w.heap.size w wr
def cfOf (key nonce : List (BitVec 8)) (n : BitVec 32) : Array Value := (u32s (cfirst key nonce n)).toArray
theorem cfOf_size (key nonce : List (BitVec 8)) (n : BitVec 32) : (cfOf key nonce n).size = 16 := by simp [cfOf, u32s, cfirst_length]
set_option maxRecDepth 100000 in
set_option maxHeartbeats 2000000 in
theorem layWords_any (key nonce : List (BitVec 8)) (n : BitVec 32) (lk : key.length = 32) (ln : nonce.length = 12) (w : World) (hL : CTabs w) :
    Calls Tryd.prog 21 #[.agg (u8s key).toArray, .agg (u8s nonce).toArray, .int .u32 (V n)] w fun o w' => o = .returned (.agg (cfOf key nonce n)) ∧ Below w.heap.size w w' := by
  obtain ⟨X, hX⟩ : ∃ X, X = Z16 := ⟨_, rfl⟩
  have hx := zero16
  rw [← hX] at hx
  have hXs : X.size = 16 := by rw [hX]; simp [Z16, u32s]
  obtain ⟨C, hC⟩ : ∃ C, C = (u8s key).toArray := ⟨_, rfl⟩
  obtain ⟨D, hD⟩ : ∃ D, D = (u8s nonce).toArray := ⟨_, rfl⟩
  obtain ⟨cf, hcf⟩ : ∃ cf, cf = cfirst key nonce n := ⟨_, rfl⟩
  have lcf : cf.length = 16 := by rw [hcf]; exact cfirst_length _ _ _
  have k1 : ∀ j, j < 4 → cf.getD j 0 = fwl.getD j 0 := by rw [hcf]; exact cfirst_known key nonce n
  have k2 : ∀ j, j < 8 → cf.getD (4 + j) 0 = lew key j := by rw [hcf]; exact cfirst_key key nonce n
  have k3 : cf.getD 12 0 = n := by rw [hcf]; exact cfirst_count key nonce n
  have k4 : ∀ j, j < 3 → cf.getD (13 + j) 0 = lew nonce j := by rw [hcf]; exact cfirst_nonce key nonce n
  rw [← hC, ← hD]
  have hI : LInv C D X (rowY cf 16 0) w ((((w.alloc (.cells C 22)).alloc (.cells D 23)).alloc (.cells X 46)).alloc (.cells X 46)) := by
    refine ⟨((at_new w C _).alloc _).alloc _ |>.alloc _, ?_, ?_, ?_, ((((Below.refl _ _).alloc (Nat.le_refl _) _).alloc (by simp) _).alloc (by simp; omega) _).alloc (by simp; omega) _⟩
    · have h := ((at_new (w.alloc (.cells C 22)) D 23).alloc (.cells X 46)).alloc (.cells X 46)
      simpa using h
    · have h := (at_new ((w.alloc (.cells C 22)).alloc (.cells D 23)) X 46).alloc (.cells X 46)
      simpa using h
    · have h := at_new (((w.alloc (.cells C 22)).alloc (.cells D 23)).alloc (.cells X 46)) X 46
      have e : (u32s (rowY cf 16 0)).toArray = X := by rw [hX]; simp [rowY, Z16]
      rw [e]
      simpa using h
  obtain ⟨F, hF⟩ : ∃ F, F = u32s fwl := ⟨_, rfl⟩
  have hft := (hL.f.below hI.b hL.f.lt).c
  have hfj : ∀ j, j < 4 → F.toArray[j]? = some (.int .u32 (V (fwl.getD j 0))) := fun j hj => by rw [hF, List.getElem?_toArray]; exact u32s_get fwl j hj
  have hFs : (Tryd.prog.info? 26).map (·.size) = some F.length := by rw [hF]; exact info4w
  rw [← hF] at hft
  have KEY := Lib.hid lk; have NON := Lib.hid ln; have HI := Lib.hid hI; have HC := Lib.hid hC; have HD := Lib.hid hD; have XS := Lib.hid hXs; have HCF := Lib.hid hcf; have LCF := Lib.hid lcf
  have K1 := Lib.hid k1; have K2 := Lib.hid k2; have K3 := Lib.hid k3; have K4 := Lib.hid k4; have FT := Lib.hid hft; have FJ := Lib.hid hfj; have FS := Lib.hid hFs
  have WORD := Lib.hid word_any
  clear lk ln hI hC hD hXs hX hcf lcf k1 k2 k3 k4 hft hfj hFs hF hL
  go_enter Tryd.func21, Tryd.ntmps21
  go_wp2_with (refine wpList_load_mid (by rfl) 26 _ (by rfl) 0 0 (by rfl) F _ FT.out Tryd.underlying26 (by rfl) FS.out ?_)
  clear FT FS hx
  generalize (((w.alloc (.cells C 22)).alloc (.cells D 23)).alloc (.cells X 46)).alloc (.cells X 46) = w4 at *
  go_loopw [8, 9, 13] (fun _ _ i wr => ∃ j : Nat, j ≤ 4 ∧ i = .int .i64 j ∧ LInv C D X (rowY cf 16 j) w wr) (fun _ _ i _ => 4 - (intOf i).toNat)
  case atStart => exact ⟨0, by omega, rfl, HI.out⟩
  case round =>
    clear HI
    obtain ⟨j, hj, rfl, hI⟩ := hrel
    by_cases hlt : j < 4
    · obtain ⟨x, hxx⟩ : ∃ x, x = fwl.getD j 0 := ⟨_, rfl⟩
      have hset : (u32s (rowY cf 16 j)).toArray.setIfInBounds j (.int .u32 (V x)) = (u32s (rowY cf 16 (j + 1))).toArray := by
        rw [← rowY_set cf 16 j LCF.out (by omega), K1.out j hlt, ← hxx]; exact u32s_set _ _ _
      have hEs : j < (u32s (rowY cf 16 j)).toArray.size := by simp [u32s, rowY_length cf 16 j LCF.out (by omega)]; omega
      have fj := FJ.out j hlt
      rw [← hxx] at fj
      have hk := hI.k
      obtain ⟨E, hE⟩ : ∃ E, E = (u32s (rowY cf 16 j)).toArray := ⟨_, rfl⟩
      rw [← hE] at hk hset hEs
      have KK := Lib.hid hk; have ST := Lib.hid hset; have ES := Lib.hid hEs; have CC := Lib.hid hI.c; have DD := Lib.hid hI.d; have RR := Lib.hid hI.r; have BB := Lib.hid hI.b; have FX := Lib.hid fj
      have hlt' : (j : Int) < 4 := by omega
      clear hk hset hEs hI hE fj hxx
      go_wp2_with (first
        | (refine wpList_index_row (by rfl) 26 _ _ (by rfl) 4 24 Tryd.underlying26 _ Tryd.underlying24 (by rfl) infoU32 F.toArray j (by rfl) (by rfl) hlt _ FX.out ?_)
        | (refine Mem.wpList_store_one (by rfl) 24 _ _ (by rfl) (by rfl) (w.heap.size + 1 + 1 + 1) j (.int .u32 (V x)) (by rfl) (by rfl) (by rfl) infoU32 _ _ KK.out ES.out ?_; intro w' hat' ho' hb'; have KK' := Lib.hid hat'; have CC' := Lib.hid (at_keep CC.out ho' (by omega)); have DD' := Lib.hid (at_keep DD.out ho' (by omega)); have RR' := Lib.hid (at_keep RR.out ho' (by omega)); have BB' := Lib.hid (hb' _ _ BB.out (by omega)); clear hat' ho' hb'))
      go_roundw
      case rel => exact ⟨j + 1, by omega, by go_num, CC'.out, DD'.out, RR'.out, by rw [← ST.out]; exact KK'.out, BB'.out⟩
      case measure => simp [intOf]; omega
    · have hj4 : j = 4 := by omega
      have hge : ¬ (j : Int) < 4 := by omega
      rw [hj4] at hI
      have II := Lib.hid hI
      clear hI hj4 hlt hj FJ
      go_wp2_with fail
      go_loopw [10, 21] (fun _ i wr => ∃ j : Nat, j ≤ 8 ∧ i = .int .i64 j ∧ LInv C D X (rowY cf 16 (4 + j)) w wr) (fun _ i _ => 8 - (intOf i).toNat)
      case atStart => exact ⟨0, by omega, rfl, II.out⟩
      case round =>
        clear II
        obtain ⟨j, hj, rfl, hI⟩ := hrel
        by_cases hlt : j < 8
        · obtain ⟨x, hxx⟩ : ∃ x, x = lew key j := ⟨_, rfl⟩
          have hset : (u32s (rowY cf 16 (4 + j))).toArray.setIfInBounds (4 + j) (.int .u32 (V x)) = (u32s (rowY cf 16 (4 + (j + 1)))).toArray := by
            rw [show 4 + (j + 1) = (4 + j) + 1 by omega, ← rowY_set cf 16 (4 + j) LCF.out (by omega), K2.out j hlt, ← hxx]; exact u32s_set _ _ _
          have hEs : 4 + j < (u32s (rowY cf 16 (4 + j))).toArray.size := by simp [u32s, rowY_length cf 16 (4 + j) LCF.out (by omega)]; omega
          have hsl := at_low (i := j) (by rw [← HC.out]; exact hI.c) KEY.out (by omega)
          have hw := fun wx (hb : Below wr.heap.size wr wx) => WORD.out _ _ wx (hsl.below hb) (by rw [List.length_drop, KEY.out]; omega)
          rw [lew_low key j, ← hxx] at hw
          have hk := hI.k
          obtain ⟨E, hE⟩ : ∃ E, E = (u32s (rowY cf 16 (4 + j))).toArray := ⟨_, rfl⟩
          rw [← hE] at hk hset hEs
          have KK := Lib.hid hk; have ST := Lib.hid hset; have ES := Lib.hid hEs; have CC := Lib.hid hI.c; have DD := Lib.hid hI.d; have RR := Lib.hid hI.r; have BB := Lib.hid hI.b; have HW := Lib.hid hw
          have hlt' : (j : Int) < 8 := by omega
          clear hk hset hEs hI hE hsl hw hxx
          go_wp2_with (first | (refine wpList_slice_arr (by rfl) 22 _ _ (by rfl) 32 5 Tryd.underlying22 infoB w.heap.size 0 (4 * j) (by rfl) (by exact congrArg (Value.int .i64) (by omega)) (by omega) ?_; rw [Nat.zero_add]))
          refine (HW.out _ (Below.refl _ _)).mono ?_
          rintro e w' ⟨rfl, hb⟩
          have KK2 := Lib.hid (KK.out.below hb KK.out.lt); have CC2 := Lib.hid (CC.out.below hb CC.out.lt); have DD2 := Lib.hid (DD.out.below hb DD.out.lt); have RR2 := Lib.hid (RR.out.below hb RR.out.lt); have BB2 := Lib.hid (BB.out.trans (hb.mono BB.out.size))
          clear hb HW KK CC DD RR BB
          go_wp2_with (refine Mem.wpList_store_one (by rfl) 24 _ _ (by rfl) (by rfl) (w.heap.size + 1 + 1 + 1) (4 + j) (.int .u32 (V x)) (by rfl) (by rfl) (by rfl) infoU32 _ _ KK2.out ES.out ?_; intro w' hat' ho' hb'; have KK' := Lib.hid hat'; have CC' := Lib.hid (at_keep CC2.out ho' (by omega)); have DD' := Lib.hid (at_keep DD2.out ho' (by omega)); have RR' := Lib.hid (at_keep RR2.out ho' (by omega)); have BB' := Lib.hid (hb' _ _ BB2.out (by omega)); clear hat' ho' hb')
          go_roundw
          case rel => exact ⟨j + 1, by omega, by go_num, CC'.out, DD'.out, RR'.out, by rw [← ST.out]; exact KK'.out, BB'.out⟩
          case measure => simp [intOf]; omega
        · have hj8 : j = 8 := by omega
          have hge : ¬ (j : Int) < 8 := by omega
          rw [hj8] at hI
          have hset : (u32s (rowY cf 16 12)).toArray.setIfInBounds 12 (.int .u32 (V n)) = (u32s (rowY cf 16 (13 + 0))).toArray := by
            rw [← rowY_set cf 16 12 LCF.out (by omega), K3.out]; exact u32s_set _ _ _
          have hEs : 12 < (u32s (rowY cf 16 12)).toArray.size := by simp [u32s, rowY_length cf 16 12 LCF.out (by omega)]
          have hk := hI.k
          obtain ⟨E, hE⟩ : ∃ E, E = (u32s (rowY cf 16 12)).toArray := ⟨_, rfl⟩
          rw [show 4 + 8 = 12 from rfl, ← hE] at hk
          rw [← hE] at hset hEs
          have KK := Lib.hid hk; have ST := Lib.hid hset; have ES := Lib.hid hEs; have CC := Lib.hid hI.c; have DD := Lib.hid hI.d; have RR := Lib.hid hI.r; have BB := Lib.hid hI.b
          clear hk hset hEs hI hE hj8 hlt hj
          go_wp2_with (refine Mem.wpList_store_one (by rfl) 24 _ _ (by rfl) (by rfl) (w.heap.size + 1 + 1 + 1) 12 (.int .u32 (V n)) (by rfl) (by rfl) (by rfl) infoU32 _ _ KK.out ES.out ?_; intro w' hat' ho' hb'; have KK' := Lib.hid hat'; have CC' := Lib.hid (at_keep CC.out ho' (by omega)); have DD' := Lib.hid (at_keep DD.out ho' (by omega)); have RR' := Lib.hid (at_keep RR.out ho' (by omega)); have BB' := Lib.hid (hb' _ _ BB.out (by omega)); clear hat' ho' hb')
          clear KK CC DD RR BB
          go_loopw [11, 34] (fun _ i wr => ∃ j : Nat, j ≤ 3 ∧ i = .int .i64 j ∧ LInv C D X (rowY cf 16 (13 + j)) w wr) (fun _ i _ => 3 - (intOf i).toNat)
          case atStart => exact ⟨0, by omega, rfl, CC'.out, DD'.out, RR'.out, by rw [← ST.out]; exact KK'.out, BB'.out⟩
          case round =>
            clear KK' CC' DD' RR' BB' ST ES
            obtain ⟨j, hj, rfl, hI⟩ := hrel
            by_cases hlt : j < 3
            · obtain ⟨x, hxx⟩ : ∃ x, x = lew nonce j := ⟨_, rfl⟩
              have hset : (u32s (rowY cf 16 (13 + j))).toArray.setIfInBounds (13 + j) (.int .u32 (V x)) = (u32s (rowY cf 16 (13 + (j + 1)))).toArray := by
                rw [show 13 + (j + 1) = (13 + j) + 1 by omega, ← rowY_set cf 16 (13 + j) LCF.out (by omega), K4.out j hlt, ← hxx]; exact u32s_set _ _ _
              have hEs : 13 + j < (u32s (rowY cf 16 (13 + j))).toArray.size := by simp [u32s, rowY_length cf 16 (13 + j) LCF.out (by omega)]; omega
              have hsl := at_low (i := j) (by rw [← HD.out]; exact hI.d) NON.out (by omega)
              have hw := fun wx (hb : Below wr.heap.size wr wx) => WORD.out _ _ wx (hsl.below hb) (by rw [List.length_drop, NON.out]; omega)
              rw [lew_low nonce j, ← hxx] at hw
              have hk := hI.k
              obtain ⟨E, hE⟩ : ∃ E, E = (u32s (rowY cf 16 (13 + j))).toArray := ⟨_, rfl⟩
              rw [← hE] at hk hset hEs
              have KK := Lib.hid hk; have ST := Lib.hid hset; have ES := Lib.hid hEs; have CC := Lib.hid hI.c; have DD := Lib.hid hI.d; have RR := Lib.hid hI.r; have BB := Lib.hid hI.b; have HW := Lib.hid hw
              have hlt' : (j : Int) < 3 := by omega
              clear hk hset hEs hI hE hsl hw hxx
              go_wp2_with (first | (refine wpList_slice_arr (by rfl) 23 _ _ (by rfl) 12 5 Tryd.underlying23 infoB (w.heap.size + 1) 0 (4 * j) (by rfl) (by exact congrArg (Value.int .i64) (by omega)) (by omega) ?_; rw [Nat.zero_add]))
              refine (HW.out _ (Below.refl _ _)).mono ?_
              rintro e w' ⟨rfl, hb⟩
              have KK2 := Lib.hid (KK.out.below hb KK.out.lt); have CC2 := Lib.hid (CC.out.below hb CC.out.lt); have DD2 := Lib.hid (DD.out.below hb DD.out.lt); have RR2 := Lib.hid (RR.out.below hb RR.out.lt); have BB2 := Lib.hid (BB.out.trans (hb.mono BB.out.size))
              clear hb HW KK CC DD RR BB
              go_wp2_with (refine Mem.wpList_store_one (by rfl) 24 _ _ (by rfl) (by rfl) (w.heap.size + 1 + 1 + 1) (13 + j) (.int .u32 (V x)) (by rfl) (by rfl) (by rfl) infoU32 _ _ KK2.out ES.out ?_; intro w' hat' ho' hb'; have KK' := Lib.hid hat'; have CC' := Lib.hid (at_keep CC2.out ho' (by omega)); have DD' := Lib.hid (at_keep DD2.out ho' (by omega)); have RR' := Lib.hid (at_keep RR2.out ho' (by omega)); have BB' := Lib.hid (hb' _ _ BB2.out (by omega)); clear hat' ho' hb')
              go_roundw
              case rel => exact ⟨j + 1, by omega, by go_num, CC'.out, DD'.out, RR'.out, by rw [← ST.out]; exact KK'.out, BB'.out⟩
              case measure => simp [intOf]; omega
            · have hj3 : j = 3 := by omega
              have hge : ¬ (j : Int) < 3 := by omega
              rw [hj3, rowY_all cf 16 LCF.out] at hI
              obtain ⟨M, hM⟩ : ∃ M, M = cfOf key nonce n := ⟨_, rfl⟩
              have hk := hI.k
              rw [show (u32s cf).toArray = M by rw [hM, HCF.out]; rfl] at hk
              have hMs : M.size = 16 := by rw [hM]; exact cfOf_size _ _ _
              have hMo : M.all (·.oneCell') = true := by rw [hM]; exact u32s_one _
              have HM := Lib.hid hM; have MS := Lib.hid hMs; have MO := Lib.hid hMo; have KK := Lib.hid hk; have RR := Lib.hid hI.r; have BB := Lib.hid hI.b
              clear hM hMs hMo hk hI hlt hj hj3
              go_wp2_with (first | (refine wpList_load_all (by rfl) 46 _ (by rfl) (w.heap.size + 1 + 1 + 1) (by rfl) _ Tryd.underlying46 (by rfl) M _ KK.out (by rw [MS.out]; exact info16) ?_) | (refine wpList_store_all (by rfl) 46 _ _ (by rfl) (by rfl) (w.heap.size + 1 + 1) M (by rfl) (by rfl) (by rw [MS.out]; exact info16) _ _ RR.out (by rw [MS.out, XS.out]) MO.out ?_))
              try simp only [Exit.inBlock, Exit.then]
              refine ret_row (by rfl) (w.heap.size + 1 + 1) 46 M _ (by rfl) (RR.out.row M) Tryd.underlying46 (by rfl) (by rw [MS.out]; exact info16) ?_
              exact ⟨by rw [HM.out], below_row BB.out (by omega) M⟩
end Sha
end Go.Proofs.YtikfhabcjjoloaaDoor
