/- The first words of a block: their walk. A block's words behind the rounds: the walks of the function literal and of the rounds. From the rows' condition (the four tables of packages cipher and sha read as listed) to the walks' facts; the start that meets it. -/
import Derived.Test.YtajdpbbbocnfiaaDoorBx19
import Derived.Test.YtajdpbbbocnfiaaDoorBx07
import Derived.Test.YtajdpbbbocnfiaaDoorBx04
namespace Go.Proofs.YtajdpbbbocnfiaaDoor
namespace Sha
open Go.RowKit Mem
def fwl : List (BitVec 32) := [1634760805, 857760878, 2036477234, 1797285236]
/-- The two tables of package cipher. -/
structure CTabs (w : World) : Prop where
  f : TabV w 2 (u32s fwl)
  p : TabV w 3 (ints plc.flatten)
theorem CTabs.below {w w' : World} {B : Nat} (h : CTabs w) (hb : Below B w w') (hB : w.heap.size ≤ B) : CTabs w' :=
  ⟨h.f.below hb (Nat.lt_of_lt_of_le h.f.lt hB), h.p.below hb (Nat.lt_of_lt_of_le h.p.lt hB)⟩
theorem cfirst_known (key nonce : List (BitVec 8)) (n : BitVec 32) (j : Nat) (h : j < 4) : (cfirst key nonce n).getD j 0 = fwl.getD j 0 := by
  have : j = 0 ∨ j = 1 ∨ j = 2 ∨ j = 3 := by omega
  rcases this with rfl | rfl | rfl | rfl <;> rfl
theorem cfirst_key (key nonce : List (BitVec 8)) (n : BitVec 32) (j : Nat) (h : j < 8) : (cfirst key nonce n).getD (4 + j) 0 = lew key j := by
  have : j = 0 ∨ j = 1 ∨ j = 2 ∨ j = 3 ∨ j = 4 ∨ j = 5 ∨ j = 6 ∨ j = 7 := by omega
  rcases this with rfl | rfl | rfl | rfl | rfl | rfl | rfl | rfl <;> rfl
theorem cfirst_count (key nonce : List (BitVec 8)) (n : BitVec 32) : (cfirst key nonce n).getD 12 0 = n := rfl
theorem cfirst_nonce (key nonce : List (BitVec 8)) (n : BitVec 32) (j : Nat) (h : j < 3) : (cfirst key nonce n).getD (13 + j) 0 = lew nonce j := by
  have : j = 0 ∨ j = 1 ∨ j = 2 := by omega
  rcases this with rfl | rfl | rfl <;> rfl
theorem at_low {w : World} {b n i : Nat} {l : List (BitVec 8)} {t : TypeId} (h : At w b (u8s l).toArray t) (hl : l.length = n) (hi : 4 * i + 4 ≤ n) :
    Sl w (.slice (some ⟨b, 4 * i, none⟩) (n - 4 * i) (n - 4 * i)) (l.drop (4 * i)) := by
  have hlen : (l.drop (4 * i)).length = n - 4 * i := by rw [List.length_drop, hl]
  refine ⟨_, _, by rw [hlen], by rw [hlen]; exact Nat.le_refl _, fun _ => ⟨b, 4 * i, rfl, h.lt, fun k hk => ?_⟩⟩
  rw [hlen] at hk
  rw [h.cell, List.getElem?_toArray, u8s_get l (4 * i + k) (by omega)]
  simp [List.getD_eq_getElem?_getD]
theorem lew_low (l : List (BitVec 8)) (i : Nat) : lew (l.drop (4 * i)) 0 = lew l i := by
  simp [lew, List.getD_eq_getElem?_getD]
def Z16 : Array Value := (u32s (List.replicate 16 0)).toArray
theorem zero16 (w : World) : (zeroValue 150).run Tryd.prog w = .ok (.agg Z16) w := by kernel_rfl
theorem info16 : (Tryd.prog.info? 150).map (·.size) = some 16 := by kernel_rfl
theorem info4w : (Tryd.prog.info? 156).map (·.size) = some 4 := by kernel_rfl
structure LInv (C D X : Array Value) (W : List (BitVec 32)) (w wr : World) : Prop where
  c : At wr w.heap.size C 22
  d : At wr (w.heap.size + 1) D 119
  r : At wr (w.heap.size + 1 + 1) X 150
  k : At wr (w.heap.size + 1 + 1 + 1) (u32s W).toArray 150
  b : Below w.heap.size w wr
def cfOf (key nonce : List (BitVec 8)) (n : BitVec 32) : Array Value := (u32s (cfirst key nonce n)).toArray
theorem cfOf_size (key nonce : List (BitVec 8)) (n : BitVec 32) : (cfOf key nonce n).size = 16 := by simp [cfOf, u32s, cfirst_length]
set_option maxRecDepth 100000 in
set_option maxHeartbeats 2000000 in
theorem layWords_any (key nonce : List (BitVec 8)) (n : BitVec 32) (lk : key.length = 32) (ln : nonce.length = 12) (w : World) (hL : CTabs w) :
    Calls Tryd.prog 91 #[.agg (u8s key).toArray, .agg (u8s nonce).toArray, .int .u32 (V n)] w fun o w' => o = .returned (.agg (cfOf key nonce n)) ∧ Below w.heap.size w w' := by
  obtain ⟨X, hX⟩ : ∃ X, X = Z16 := ⟨_, rfl⟩
  have hx := zero16
  rw [← hX] at hx
  have hXs : X.size = 16 := by rw [hX]; simp [Z16, u32s]
  obtain ⟨C, hC⟩ : ∃ C, C = (u8s key).toArray := ⟨_, rfl⟩
  obtain ⟨D, hD⟩ : ∃ D, D = (u8s nonce).toArray := ⟨_, rfl⟩
  obtain ⟨cf, hcf⟩ : ∃ cf, cf = cfirst key nonce n := ⟨_, rfl⟩
  have lcf : cf.length = 16 := by rw [hcf]; exact cfirst_length _ _ _
  have k1 : ∀ j, j < 4 → cf.getD j 0 = fwl.getD j 0 := by rw [hcf]; exact cfirst_known key nonce n
  have k2 : ∀ j, j < 8 → cf.getD (4 + j) 0 = lew key j := by rw [hcf]; exact cfirst_key key nonce n
  have k3 : cf.getD 12 0 = n := by rw [hcf]; exact cfirst_count key nonce n
  have k4 : ∀ j, j < 3 → cf.getD (13 + j) 0 = lew nonce j := by rw [hcf]; exact cfirst_nonce key nonce n
  rw [← hC, ← hD]
  have hI : LInv C D X (rowY cf 16 0) w ((((w.alloc (.cells C 22)).alloc (.cells D 119)).alloc (.cells X 150)).alloc (.cells X 150)) := by
    refine ⟨((at_new w C _).alloc _).alloc _ |>.alloc _, ?_, ?_, ?_, ((((Below.refl _ _).alloc (Nat.le_refl _) _).alloc (by simp) _).alloc (by simp; omega) _).alloc (by simp; omega) _⟩
    · have h := ((at_new (w.alloc (.cells C 22)) D 119).alloc (.cells X 150)).alloc (.cells X 150)
      simpa using h
    · have h := (at_new ((w.alloc (.cells C 22)).alloc (.cells D 119)) X 150).alloc (.cells X 150)
      simpa using h
    · have h := at_new (((w.alloc (.cells C 22)).alloc (.cells D 119)).alloc (.cells X 150)) X 150
      have e : (u32s (rowY cf 16 0)).toArray = X := by rw [hX]; simp [rowY, Z16]
      rw [e]
      simpa using h
  obtain ⟨F, hF⟩ : ∃ F, F = u32s fwl := ⟨_, rfl⟩
  have hft := (hL.f.below hI.b hL.f.lt).c
  have hfj : ∀ j, j < 4 → F.toArray[j]? = some (.int .u32 (V (fwl.getD j 0))) := fun j hj => by rw [hF, List.getElem?_toArray]; exact u32s_get fwl j hj
  have hFs : (Tryd.prog.info? 156).map (·.size) = some F.length := by rw [hF]; exact info4w
  rw [← hF] at hft
  have KEY := Lib.hid lk; have NON := Lib.hid ln; have HI := Lib.hid hI; have HC := Lib.hid hC; have HD := Lib.hid hD; have XS := Lib.hid hXs; have HCF := Lib.hid hcf; have LCF := Lib.hid lcf
  have K1 := Lib.hid k1; have K2 := Lib.hid k2; have K3 := Lib.hid k3; have K4 := Lib.hid k4; have FT := Lib.hid hft; have FJ := Lib.hid hfj; have FS := Lib.hid hFs
  have WORD := Lib.hid word_any
  clear lk ln hI hC hD hXs hX hcf lcf k1 k2 k3 k4 hft hfj hFs hF hL
  go_enter Tryd.func91, Tryd.ntmps91
  go_wp2_with (refine wpList_load_mid (by rfl) 156 _ (by rfl) 2 0 (by rfl) F _ FT.out Tryd.underlying156 (by rfl) FS.out ?_)
  clear FT FS hx
  generalize (((w.alloc (.cells C 22)).alloc (.cells D 119)).alloc (.cells X 150)).alloc (.cells X 150) = w4 at *
  go_loopw [8, 9, 13] (fun _ _ i wr => ∃ j : Nat, j ≤ 4 ∧ i = .int .i64 j ∧ LInv C D X (rowY cf 16 j) w wr) (fun _ _ i _ => 4 - (intOf i).toNat)
  case atStart => exact ⟨0, by omega, rfl, HI.out⟩
  case round =>
    clear HI
    obtain ⟨j, hj, rfl, hI⟩ := hrel
    by_cases hlt : j < 4
    · obtain ⟨x, hxx⟩ : ∃ x, x = fwl.getD j 0 := ⟨_, rfl⟩
      have hset : (u32s (rowY cf 16 j)).toArray.setIfInBounds j (.int .u32 (V x)) = (u32s (rowY cf 16 (j + 1))).toArray := by
        rw [← rowY_set cf 16 j LCF.out (by omega), K1.out j hlt, ← hxx]; exact u32s_set _ _ _
      have hEs : j < (u32s (rowY cf 16 j)).toArray.size := by simp [u32s, rowY_length cf 16 j LCF.out (by omega)]; omega
      have fj := FJ.out j hlt
      rw [← hxx] at fj
      have hk := hI.k
      obtain ⟨E, hE⟩ : ∃ E, E = (u32s (rowY cf 16 j)).toArray := ⟨_, rfl⟩
      rw [← hE] at hk hset hEs
      have KK := Lib.hid hk; have ST := Lib.hid hset; have ES := Lib.hid hEs; have CC := Lib.hid hI.c; have DD := Lib.hid hI.d; have RR := Lib.hid hI.r; have BB := Lib.hid hI.b; have FX := Lib.hid fj
      have hlt' : (j : Int) < 4 := by omega
      clear hk hset hEs hI hE fj hxx
      go_wp2_with (first
        | (refine wpList_index_row (by rfl) 156 _ _ (by rfl) 4 23 Tryd.underlying156 _ Tryd.underlying23 (by rfl) infoU32 F.toArray j (by rfl) (by rfl) hlt _ FX.out ?_)
        | (refine Mem.wpList_store_one (by rfl) 23 _ _ (by rfl) (by rfl) (w.heap.size + 1 + 1 + 1) j (.int .u32 (V x)) (by rfl) (by rfl) (by rfl) infoU32 _ _ KK.out ES.out ?_; intro w' hat' ho' hb'; have KK' := Lib.hid hat'; have CC' := Lib.hid (at_keep CC.out ho' (by omega)); have DD' := Lib.hid (at_keep DD.out ho' (by omega)); have RR' := Lib.hid (at_keep RR.out ho' (by omega)); have BB' := Lib.hid (hb' _ _ BB.out (by omega)); clear hat' ho' hb'))
      go_roundw
      case rel => exact ⟨j + 1, by omega, by go_num, CC'.out, DD'.out, RR'.out, by rw [← ST.out]; exact KK'.out, BB'.out⟩
      case measure => simp [intOf]; omega
    · have hj4 : j = 4 := by omega
      have hge : ¬ (j : Int) < 4 := by omega
      rw [hj4] at hI
      have II := Lib.hid hI
      clear hI hj4 hlt hj FJ
      go_wp2_with fail
      go_loopw [10, 21] (fun _ i wr => ∃ j : Nat, j ≤ 8 ∧ i = .int .i64 j ∧ LInv C D X (rowY cf 16 (4 + j)) w wr) (fun _ i _ => 8 - (intOf i).toNat)
      case atStart => exact ⟨0, by omega, rfl, II.out⟩
      case round =>
        clear II
        obtain ⟨j, hj, rfl, hI⟩ := hrel
        by_cases hlt : j < 8
        · obtain ⟨x, hxx⟩ : ∃ x, x = lew key j := ⟨_, rfl⟩
          have hset : (u32s (rowY cf 16 (4 + j))).toArray.setIfInBounds (4 + j) (.int .u32 (V x)) = (u32s (rowY cf 16 (4 + (j + 1)))).toArray := by
            rw [show 4 + (j + 1) = (4 + j) + 1 by omega, ← rowY_set cf 16 (4 + j) LCF.out (by omega), K2.out j hlt, ← hxx]; exact u32s_set _ _ _
          have hEs : 4 + j < (u32s (rowY cf 16 (4 + j))).toArray.size := by simp [u32s, rowY_length cf 16 (4 + j) LCF.out (by omega)]; omega
          have hsl := at_low (i := j) (by rw [← HC.out]; exact hI.c) KEY.out (by omega)
          have hw := fun wx (hb : Below wr.heap.size wr wx) => WORD.out _ _ wx (hsl.below hb) (by rw [List.length_drop, KEY.out]; omega)
          rw [lew_low key j, ← hxx] at hw
          have hk := hI.k
          obtain ⟨E, hE⟩ : ∃ E, E = (u32s (rowY cf 16 (4 + j))).toArray := ⟨_, rfl⟩
          rw [← hE] at hk hset hEs
          have KK := Lib.hid hk; have ST := Lib.hid hset; have ES := Lib.hid hEs; have CC := Lib.hid hI.c; have DD := Lib.hid hI.d; have RR := Lib.hid hI.r; have BB := Lib.hid hI.b; have HW := Lib.hid hw
          have hlt' : (j : Int) < 8 := by omega
          clear hk hset hEs hI hE hsl hw hxx
          go_wp2_with (first | (refine wpList_slice_arr (by rfl) 22 _ _ (by rfl) 32 5 Tryd.underlying22 infoB w.heap.size 0 (4 * j) (by rfl) (by exact congrArg (Value.int .i64) (by omega)) (by omega) ?_; rw [Nat.zero_add]))
          refine (HW.out _ (Below.refl _ _)).mono ?_
          rintro e w' ⟨rfl, hb⟩
          have KK2 := Lib.hid (KK.out.below hb KK.out.lt); have CC2 := Lib.hid (CC.out.below hb CC.out.lt); have DD2 := Lib.hid (DD.out.below hb DD.out.lt); have RR2 := Lib.hid (RR.out.below hb RR.out.lt); have BB2 := Lib.hid (BB.out.trans (hb.mono BB.out.size))
          clear hb HW KK CC DD RR BB
          go_wp2_with (refine Mem.wpList_store_one (by rfl) 23 _ _ (by rfl) (by rfl) (w.heap.size + 1 + 1 + 1) (4 + j) (.int .u32 (V x)) (by rfl) (by rfl) (by rfl) infoU32 _ _ KK2.out ES.out ?_; intro w' hat' ho' hb'; have KK' := Lib.hid hat'; have CC' := Lib.hid (at_keep CC2.out ho' (by omega)); have DD' := Lib.hid (at_keep DD2.out ho' (by omega)); have RR' := Lib.hid (at_keep RR2.out ho' (by omega)); have BB' := Lib.hid (hb' _ _ BB2.out (by omega)); clear hat' ho' hb')
          go_roundw
          case rel => exact ⟨j + 1, by omega, by go_num, CC'.out, DD'.out, RR'.out, by rw [← ST.out]; exact KK'.out, BB'.out⟩
          case measure => simp [intOf]; omega
        · have hj8 : j = 8 := by omega
          have hge : ¬ (j : Int) < 8 := by omega
          rw [hj8] at hI
          have hset : (u32s (rowY cf 16 12)).toArray.setIfInBounds 12 (.int .u32 (V n)) = (u32s (rowY cf 16 (13 + 0))).toArray := by
            rw [← rowY_set cf 16 12 LCF.out (by omega), K3.out]; exact u32s_set _ _ _
          have hEs : 12 < (u32s (rowY cf 16 12)).toArray.size := by simp [u32s, rowY_length cf 16 12 LCF.out (by omega)]
          have hk := hI.k
          obtain ⟨E, hE⟩ : ∃ E, E = (u32s (rowY cf 16 12)).toArray := ⟨_, rfl⟩
          rw [show 4 + 8 = 12 from rfl, ← hE] at hk
          rw [← hE] at hset hEs
          have KK := Lib.hid hk; have ST := Lib.hid hset; have ES := Lib.hid hEs; have CC := Lib.hid hI.c; have DD := Lib.hid hI.d; have RR := Lib.hid hI.r; have BB := Lib.hid hI.b
          clear hk hset hEs hI hE hj8 hlt hj
          go_wp2_with (refine Mem.wpList_store_one (by rfl) 23 _ _ (by rfl) (by rfl) (w.heap.size + 1 + 1 + 1) 12 (.int .u32 (V n)) (by rfl) (by rfl) (by rfl) infoU32 _ _ KK.out ES.out ?_; intro w' hat' ho' hb'; have KK' := Lib.hid hat'; have CC' := Lib.hid (at_keep CC.out ho' (by omega)); have DD' := Lib.hid (at_keep DD.out ho' (by omega)); have RR' := Lib.hid (at_keep RR.out ho' (by omega)); have BB' := Lib.hid (hb' _ _ BB.out (by omega)); clear hat' ho' hb')
          clear KK CC DD RR BB
          go_loopw [11, 34] (fun _ i wr => ∃ j : Nat, j ≤ 3 ∧ i = .int .i64 j ∧ LInv C D X (rowY cf 16 (13 + j)) w wr) (fun _ i _ => 3 - (intOf i).toNat)
          case atStart => exact ⟨0, by omega, rfl, CC'.out, DD'.out, RR'.out, by rw [← ST.out]; exact KK'.out, BB'.out⟩
          case round =>
            clear KK' CC' DD' RR' BB' ST ES
            obtain ⟨j, hj, rfl, hI⟩ := hrel
            by_cases hlt : j < 3
            · obtain ⟨x, hxx⟩ : ∃ x, x = lew nonce j := ⟨_, rfl⟩
              have hset : (u32s (rowY cf 16 (13 + j))).toArray.setIfInBounds (13 + j) (.int .u32 (V x)) = (u32s (rowY cf 16 (13 + (j + 1)))).toArray := by
                rw [show 13 + (j + 1) = (13 + j) + 1 by omega, ← rowY_set cf 16 (13 + j) LCF.out (by omega), K4.out j hlt, ← hxx]; exact u32s_set _ _ _
              have hEs : 13 + j < (u32s (rowY cf 16 (13 + j))).toArray.size := by simp [u32s, rowY_length cf 16 (13 + j) LCF.out (by omega)]; omega
              have hsl := at_low (i := j) (by rw [← HD.out]; exact hI.d) NON.out (by omega)
              have hw := fun wx (hb : Below wr.heap.size wr wx) => WORD.out _ _ wx (hsl.below hb) (by rw [List.length_drop, NON.out]; omega)
              rw [lew_low nonce j, ← hxx] at hw
              have hk := hI.k
              obtain ⟨E, hE⟩ : ∃ E, E = (u32s (rowY cf 16 (13 + j))).toArray := ⟨_, rfl⟩
              rw [← hE] at hk hset hEs
              have KK := Lib.hid hk; have ST := Lib.hid hset; have ES := Lib.hid hEs; have CC := Lib.hid hI.c; have DD := Lib.hid hI.d; have RR := Lib.hid hI.r; have BB := Lib.hid hI.b; have HW := Lib.hid hw
              have hlt' : (j : Int) < 3 := by omega
              clear hk hset hEs hI hE hsl hw hxx
              go_wp2_with (first | (refine wpList_slice_arr (by rfl) 119 _ _ (by rfl) 12 5 Tryd.underlying119 infoB (w.heap.size + 1) 0 (4 * j) (by rfl) (by exact congrArg (Value.int .i64) (by omega)) (by omega) ?_; rw [Nat.zero_add]))
              refine (HW.out _ (Below.refl _ _)).mono ?_
              rintro e w' ⟨rfl, hb⟩
              have KK2 := Lib.hid (KK.out.below hb KK.out.lt); have CC2 := Lib.hid (CC.out.below hb CC.out.lt); have DD2 := Lib.hid (DD.out.below hb DD.out.lt); have RR2 := Lib.hid (RR.out.below hb RR.out.lt); have BB2 := Lib.hid (BB.out.trans (hb.mono BB.out.size))
              clear hb HW KK CC DD RR BB
              go_wp2_with (refine Mem.wpList_store_one (by rfl) 23 _ _ (by rfl) (by rfl) (w.heap.size + 1 + 1 + 1) (13 + j) (.int .u32 (V x)) (by rfl) (by rfl) (by rfl) infoU32 _ _ KK2.out ES.out ?_; intro w' hat' ho' hb'; have KK' := Lib.hid hat'; have CC' := Lib.hid (at_keep CC2.out ho' (by omega)); have DD' := Lib.hid (at_keep DD2.out ho' (by omega)); have RR' := Lib.hid (at_keep RR2.out ho' (by omega)); have BB' := Lib.hid (hb' _ _ BB2.out (by omega)); clear hat' ho' hb')
              go_roundw
              case rel => exact ⟨j + 1, by omega, by go_num, CC'.out, DD'.out, RR'.out, by rw [← ST.out]; exact KK'.out, BB'.out⟩
              case measure => simp [intOf]; omega
            · have hj3 : j = 3 := by omega
              have hge : ¬ (j : Int) < 3 := by omega
              rw [hj3, rowY_all cf 16 LCF.out] at hI
              obtain ⟨M, hM⟩ : ∃ M, M = cfOf key nonce n := ⟨_, rfl⟩
              have hk := hI.k
              rw [show (u32s cf).toArray = M by rw [hM, HCF.out]; rfl] at hk
              have hMs : M.size = 16 := by rw [hM]; exact cfOf_size _ _ _
              have hMo : M.all (·.oneCell') = true := by rw [hM]; exact u32s_one _
              have HM := Lib.hid hM; have MS := Lib.hid hMs; have MO := Lib.hid hMo; have KK := Lib.hid hk; have RR := Lib.hid hI.r; have BB := Lib.hid hI.b
              clear hM hMs hMo hk hI hlt hj hj3
              go_wp2_with (first | (refine wpList_load_all (by rfl) 150 _ (by rfl) (w.heap.size + 1 + 1 + 1) (by rfl) _ Tryd.underlying150 (by rfl) M _ KK.out (by rw [MS.out]; exact info16) ?_) | (refine wpList_store_all (by rfl) 150 _ _ (by rfl) (by rfl) (w.heap.size + 1 + 1) M (by rfl) (by rfl) (by rw [MS.out]; exact info16) _ _ RR.out (by rw [MS.out, XS.out]) MO.out ?_))
              try simp only [Exit.inBlock, Exit.then]
              refine ret_row (by rfl) (w.heap.size + 1 + 1) 150 M _ (by rfl) (RR.out.row M) Tryd.underlying150 (by rfl) (by rw [MS.out]; exact info16) ?_
              exact ⟨by rw [HM.out], below_row BB.out (by omega) M⟩
end Sha
end Go.Proofs.YtajdpbbbocnfiaaDoor
namespace Go.Proofs.YtajdpbbbocnfiaaDoor
namespace Mem
open Go.RowKit
/-- A row out of a row of rows, by value. -/
theorem wpList_index_rows {P : Program} {ops : Array Oper} {rest : List Oper} {op : Oper} {a : Act} {w : World} {Q : Exit → Act → World → Prop} (hgd : op.guard = none) (ty : TypeId) (x i : Operand) (ho : op.op = .index ty x i)
    (n : Nat) (e : TypeId) (hu : P.underlying ty = some (.array n e)) (de : TypeDesc) (he : P.underlying e = some de) (hde : de.isRow = true) (z : Nat) (hs : (P.info? e).map (·.size) = some z)
    (C : Array Value) (k : Nat) (hx : a.eval x = .agg C) (hi : a.eval i = .int .i64 (k : Int)) (hk : k < n) (R : Array Value) (hR : C.extract (k * z) (k * z + z) = R)
    (h : wpList P ops Q rest (a.put op.dst (.agg R)) w) : wpList P ops Q (op :: rest) a w := by
  refine wpList_plain hgd fun K hK => ?_
  have hagg : (isAgg e).run P w = .ok true w := by
    unfold isAgg
    rw [Sem.run_bind, run_underlying he w]
    cases de <;> simp_all
  cases hq : P.info? e with
  | none => simp [hq] at hs
  | some q =>
    have hs1 : q.size = z := by simpa [hq] using hs
    have hrun : (Instr.index ty (.agg C) (.int .i64 (k : Int))).run P w = .ok (.agg R) w := by
      simp [Instr.index, asIntOf, Sem.run_bind, run_underlying hu, sizeOf, typeInfo, hq, hs1, hk, part, hagg, hR]
    unfold Oper.wp execOp
    simp only [ho, hx, hi, Sem.run_bind, hrun, Result.andThen_ok, Sem.run_pure]
    exact hK _ _ h
end Mem
namespace Sha
open Go.RowKit Mem
theorem ints_get (l : List Nat) (i : Nat) (h : i < l.length) : (ints l)[i]? = some (.int .i64 ((l.getD i 0 : Nat) : Int)) := by simp [ints, h]
theorem ints_one (l : List Nat) : (ints l).toArray.all (·.oneCell') = true := by simp [ints, Value.oneCell']
theorem ints_length (l : List Nat) : (ints l).length = l.length := by simp [ints]
/-- Some words laid at some places, in order. -/
def qset (W : List (BitVec 32)) (p : List Nat) (L : List (BitVec 32)) : Nat → List (BitVec 32)
  | 0 => W
  | j + 1 => (qset W p L j).set (p.getD j 0) (L.getD j 0)
theorem qset_length (W : List (BitVec 32)) (p : List Nat) (L : List (BitVec 32)) : ∀ j, (qset W p L j).length = W.length
  | 0 => rfl
  | j + 1 => by rw [qset, List.length_set, qset_length W p L j]
def qin (W : List (BitVec 32)) (p : List Nat) : Q4 := ⟨W.getD (p.getD 0 0) 0, W.getD (p.getD 1 0) 0, W.getD (p.getD 2 0) 0, W.getD (p.getD 3 0) 0⟩
theorem qin_get (W : List (BitVec 32)) (p : List Nat) (j : Nat) (h : j < 4) : (qin W p).list.getD j 0 = W.getD (p.getD j 0) 0 := by
  have : j = 0 ∨ j = 1 ∨ j = 2 ∨ j = 3 := by omega
  rcases this with rfl | rfl | rfl | rfl <;> rfl
theorem qset_all (W : List (BitVec 32)) (p : List Nat) : qset W p (qr (qin W p)).list 4 = qpl W p := rfl
theorem qOf_get (q : Q4) (j : Nat) (h : j < 4) : (qOf q)[j]? = some (.int .u32 (V (q.list.getD j 0))) := by
  rw [qOf, List.getElem?_toArray]; exact u32s_get q.list j h
structure T1Inv (G : Array Value) (L : List (BitVec 32)) (w wr : World) : Prop where
  g : At wr w.heap.size G 158
  k : At wr (w.heap.size + 1) (u32s L).toArray 156
  b : Below w.heap.size w wr
structure T2Inv (G : Array Value) (W : List (BitVec 32)) (bw : Nat) (w wr : World) : Prop where
  g : At wr w.heap.size G 158
  a : At wr bw (u32s W).toArray 150
  o : But bw w wr
  k : ∀ B x, Below B x w → B ≤ bw → B ≤ w.heap.size → Below B x wr
set_option maxRecDepth 100000 in
set_option maxHeartbeats 2000000 in
/-- The literal: the words that it holds on to are turned at four places. -/
theorem clit_any (W : List (BitVec 32)) (p : List Nat) (bw : Nat) (w : World) (lW : W.length = 16) (lp : p.length = 4) (hp : ∀ j, j < 4 → p.getD j 0 < 16) (ha : At w bw (u32s W).toArray 150) :
    Calls Tryd.prog 96 #[.agg (ints p).toArray, .pointer (some ⟨bw, 0, none⟩)] w fun e w' => e = .returned (.tuple #[]) ∧ At w' bw (u32s (qpl W p)).toArray 150 ∧ But bw w w' ∧ (∀ B x, Below B x w → B ≤ bw → B ≤ w.heap.size → Below B x w') := by
  obtain ⟨X, hX⟩ : ∃ X, X = Z4 := ⟨_, rfl⟩
  have hx := zero4
  rw [← hX] at hx
  obtain ⟨G, hG⟩ : ∃ G, G = (ints p).toArray := ⟨_, rfl⟩
  have gj : ∀ j, j < 4 → G[j]? = some (.int .i64 ((p.getD j 0 : Nat) : Int)) := fun j hj => by rw [hG, List.getElem?_toArray]; exact ints_get p j (by omega)
  obtain ⟨F, hF⟩ : ∃ F, F = (qin W p).list := ⟨_, rfl⟩
  have lF : F.length = 4 := by rw [hF]; rfl
  have fj : ∀ j, j < 4 → F.getD j 0 = W.getD (p.getD j 0) 0 := by rw [hF]; exact qin_get W p
  rw [← hG]
  have hI : T1Inv G (rowY F 4 0) w ((w.alloc (.cells G 158)).alloc (.cells X 156)) := by
    refine ⟨(at_new w G _).alloc _, ?_, ((Below.refl _ _).alloc (Nat.le_refl _) _).alloc (by simp) _⟩
    have h := at_new (w.alloc (.cells G 158)) X 156
    have e : (u32s (rowY F 4 0)).toArray = X := by rw [hX]; simp [rowY, Z4, u32s]
    rw [e]
    simpa using h
  have hbw : bw < w.heap.size := ha.lt
  have HI := Lib.hid hI; have GJ := Lib.hid gj; have LF := Lib.hid lF; have FJ := Lib.hid fj; have HF := Lib.hid hF; have LW := Lib.hid lW; have HP := Lib.hid hp; have HA := Lib.hid ha; have BW := Lib.hid hbw
  have HGS : Hid (G.size = 4) := by show G.size = 4; rw [hG]; simp [ints, lp]
  clear hI gj lF fj hF lW hp ha hG hX lp hbw
  go_enter Tryd.func96, Tryd.ntmps96
  go_wp2_with (refine wpList_load_all (by rfl) 158 _ (by rfl) w.heap.size (by rfl) _ Tryd.underlying158 (by rfl) G _ HI.out.g (by rw [HGS.out]; kernel_rfl) ?_)
  clear hx
  generalize (w.alloc (.cells G 158)).alloc (.cells X 156) = w4 at *
  go_loopw [4, 5, 9] (fun _ _ i wr => ∃ j : Nat, j ≤ 4 ∧ i = .int .i64 j ∧ T1Inv G (rowY F 4 j) w wr) (fun _ _ i _ => 4 - (intOf i).toNat)
  case atStart => exact ⟨0, by omega, rfl, HI.out⟩
  case round =>
    clear HI
    obtain ⟨j, hj, rfl, hI⟩ := hrel
    by_cases hlt : j < 4
    · obtain ⟨q, hq⟩ : ∃ q, q = p.getD j 0 := ⟨_, rfl⟩
      have gq := GJ.out j hlt
      have q16 := HP.out j hlt
      have fx := FJ.out j hlt
      rw [← hq] at gq q16 fx
      obtain ⟨x, hxx⟩ : ∃ x, x = W.getD q 0 := ⟨_, rfl⟩
      rw [← hxx] at fx
      have cq : wr.cell? ⟨bw, q, none⟩ = some (.int .u32 (V x)) := by
        rw [(HA.out.below hI.b HA.out.lt).cell, List.getElem?_toArray, u32s_get W q (by rw [LW.out]; exact q16), hxx]
      have hset : (u32s (rowY F 4 j)).toArray.setIfInBounds j (.int .u32 (V x)) = (u32s (rowY F 4 (j + 1))).toArray := by
        rw [← rowY_set F 4 j LF.out (by omega), fx]; exact u32s_set _ _ _
      have hEs : j < (u32s (rowY F 4 j)).toArray.size := by simp [u32s, rowY_length F 4 j LF.out (by omega)]; omega
      have hk := hI.k
      obtain ⟨E, hE⟩ : ∃ E, E = (u32s (rowY F 4 j)).toArray := ⟨_, rfl⟩
      rw [← hE] at hk hset hEs
      have KK := Lib.hid hk; have ST := Lib.hid hset; have ES := Lib.hid hEs; have GG := Lib.hid hI.g; have BB := Lib.hid hI.b; have GQ := Lib.hid gq
      have hlt' : (j : Int) < 4 := by omega
      have q16' : (q : Int) < 16 := by omega
      clear hk hset hEs hI hE hq hxx fx gq
      go_wp2_with (first
        | (refine wpList_index_row (by rfl) 158 _ _ (by rfl) 4 3 Tryd.underlying158 _ Tryd.underlying3 (by rfl) (by kernel_rfl) G j (by rfl) (by rfl) hlt _ GQ.out ?_)
        | (refine Mem.wpList_store_one (by rfl) 23 _ _ (by rfl) (by rfl) (w.heap.size + 1) j (.int .u32 (V x)) (by rfl) (by rfl) (by rfl) infoU32 _ _ KK.out ES.out ?_; intro w' hat' ho' hb'; have KK' := Lib.hid hat'; have GG' := Lib.hid (at_keep GG.out ho' (by omega)); have BB' := Lib.hid (hb' _ _ BB.out (by omega)); clear hat' ho' hb'))
      go_roundw
      case rel => exact ⟨j + 1, by omega, by go_num, GG'.out, by rw [← ST.out]; exact KK'.out, BB'.out⟩
      case measure => simp [intOf]; omega
    · have hj4 : j = 4 := by omega
      have hge : ¬ (j : Int) < 4 := by omega
      rw [hj4, rowY_all F 4 LF.out] at hI
      have hk := hI.k
      rw [show (u32s F).toArray = qOf (qin W p) by rw [HF.out]; rfl] at hk
      obtain ⟨K, hK⟩ : ∃ K, K = qOf (qin W p) := ⟨_, rfl⟩
      obtain ⟨R, hR⟩ : ∃ R, R = qOf (qr (qin W p)) := ⟨_, rfl⟩
      obtain ⟨L, hLL⟩ : ∃ L, L = (qr (qin W p)).list := ⟨_, rfl⟩
      have hq := fun wx => quarter_any (qin W p) wx
      rw [← hK, ← hR] at hq
      rw [← hK] at hk
      have hKs : K.size = 4 := by rw [hK]; rfl
      have rj : ∀ j, j < 4 → R[j]? = some (.int .u32 (V (L.getD j 0))) := by rw [hR, hLL]; exact qOf_get _
      have hend : qset W p L 4 = qpl W p := by rw [hLL]; exact qset_all W p
      have KK := Lib.hid hk; have QU := Lib.hid hq; have KS := Lib.hid hKs; have RJ := Lib.hid rj; have EN := Lib.hid hend; have GG := Lib.hid hI.g; have BB := Lib.hid hI.b
      clear hI hj4 hlt hj hk hq hKs rj hend hK hR hLL HF LF FJ
      go_wp2_with (refine wpList_load_all (by rfl) 156 _ (by rfl) (w.heap.size + 1) (by rfl) _ Tryd.underlying156 (by rfl) K _ KK.out (by rw [KS.out]; exact infoQ) ?_)
      refine (QU.out _).mono ?_
      rintro e w' ⟨rfl, hb⟩
      have hI2 : T2Inv G (qset W p L 0) bw w w' := by
        have hbb := BB.out.trans (hb.mono BB.out.size)
        exact ⟨GG.out.below hb GG.out.lt, HA.out.below hbb HA.out.lt, (But.refl _ _).below hbb, fun B x h _ h2 => h.trans (hbb.mono h2)⟩
      have II := Lib.hid hI2
      clear hb hI2 QU KK GG BB KS
      go_wp2_with fail
      go_loopw [6, 7, 21] (fun _ _ i wr => ∃ j : Nat, j ≤ 4 ∧ i = .int .i64 j ∧ T2Inv G (qset W p L j) bw w wr) (fun _ _ i _ => 4 - (intOf i).toNat)
      case atStart => exact ⟨0, by omega, rfl, II.out⟩
      case round =>
        clear II
        obtain ⟨j, hj, rfl, hI⟩ := hrel
        by_cases hlt : j < 4
        · obtain ⟨q, hq⟩ : ∃ q, q = p.getD j 0 := ⟨_, rfl⟩
          have gq := GJ.out j hlt
          have q16 := HP.out j hlt
          have rx := RJ.out j hlt
          rw [← hq] at gq q16
          obtain ⟨x, hxx⟩ : ∃ x, x = L.getD j 0 := ⟨_, rfl⟩
          rw [← hxx] at rx
          have cg : wr.cell? ⟨w.heap.size, j, none⟩ = some (.int .i64 (q : Int)) := by rw [hI.g.cell, gq]
          have hset : (u32s (qset W p L j)).toArray.setIfInBounds q (.int .u32 (V x)) = (u32s (qset W p L (j + 1))).toArray := by
            rw [qset, ← hq, ← hxx]; exact u32s_set _ _ _
          have hEs : q < (u32s (qset W p L j)).toArray.size := by have := LW.out; simp [u32s, qset_length]; omega
          have hk := hI.a
          obtain ⟨E, hE⟩ : ∃ E, E = (u32s (qset W p L j)).toArray := ⟨_, rfl⟩
          rw [← hE] at hk hset hEs
          have KK := Lib.hid hk; have ST := Lib.hid hset; have ES := Lib.hid hEs; have GG := Lib.hid hI.g; have OO := Lib.hid hI.o; have BB := Lib.hid hI.k; have RX := Lib.hid rx
          have hlt' : (j : Int) < 4 := by omega
          have q16' : (q : Int) < 16 := by omega
          clear hk hset hEs hI hE hq hxx rx gq
          go_wp2_with (first
            | (refine wpList_index_row (by rfl) 156 _ _ (by rfl) 4 23 Tryd.underlying156 _ Tryd.underlying23 (by rfl) infoU32 R j (by rfl) (by rfl) hlt _ RX.out ?_)
            | (refine Mem.wpList_store_one (by rfl) 23 _ _ (by rfl) (by rfl) bw q (.int .u32 (V x)) (by rfl) (by rfl) (by rfl) infoU32 _ _ KK.out ES.out ?_; intro w' hat' ho' hb'; have KK' := Lib.hid hat'; have GG' := Lib.hid (at_keep GG.out ho' (by have := BW.out; omega)); have OO' := Lib.hid (OO.out.row (hb' bw _ (Below.refl _ _) (Nat.le_refl _)).size ho'); have BB' := Lib.hid (fun B y (h : Below B y w) (hB : B ≤ bw) (h2 : B ≤ w.heap.size) => hb' B y (BB.out B y h hB h2) hB); clear hat' ho' hb'))
          go_roundw
          case rel => exact ⟨j + 1, by omega, by go_num, GG'.out, by rw [← ST.out]; exact KK'.out, OO'.out, BB'.out⟩
          case measure => simp [intOf]; omega
        · have hj4 : j = 4 := by omega
          have hge : ¬ (j : Int) < 4 := by omega
          rw [hj4, EN.out] at hI
          have II := Lib.hid hI
          clear hI hj4 hlt hj
          go_wp2_with fail
          go_end0
          exact ⟨rfl, II.out.a, II.out.o, II.out.k⟩
end Sha
end Go.Proofs.YtajdpbbbocnfiaaDoor
namespace Go.Proofs.YtajdpbbbocnfiaaDoor
namespace Sha
open Go.ChangeShapes Go.WideShapes Go.ChangeAt Go.WideMaps Go.WideElems Go.RowKit Mem
set_option maxRecDepth 100000
/-- Both packages' tables are laid. -/
def T9 (w : World) : Prop := Tabs w ∧ CTabs w
theorem T9.below {w w' : World} (h : T9 w) (hb : Below w.heap.size w w') : T9 w' := ⟨h.1.below hb (Nat.le_refl _), h.2.below hb (Nat.le_refl _)⟩
def laidL : List (String × DataW Unit) := [("carling/cipher.firstWords", Rows.laid_carling_cipher_firstWords), ("carling/cipher.quarterPlaces", Rows.laid_carling_cipher_quarterPlaces), ("carling/sha.roundConstants", Rows.laid_carling_sha_roundConstants), ("carling/sha.firstState", Rows.laid_carling_sha_firstState)]
theorem gF : Tryd.prog.globalNamed "carling/cipher.firstWords" = some 2 := by kernel_rfl
theorem gP : Tryd.prog.globalNamed "carling/cipher.quarterPlaces" = some 3 := by kernel_rfl
theorem gK : Tryd.prog.globalNamed "carling/sha.roundConstants" = some 1 := by kernel_rfl
theorem gI : Tryd.prog.globalNamed "carling/sha.firstState" = some 0 := by kernel_rfl
theorem tF : (Tryd.prog.globals[2]?).map (·.type) = some 156 := by kernel_rfl
theorem tP : (Tryd.prog.globals[3]?).map (·.type) = some 161 := by kernel_rfl
theorem tK : (Tryd.prog.globals[1]?).map (·.type) = some 153 := by kernel_rfl
theorem tI : (Tryd.prog.globals[0]?).map (·.type) = some 121 := by kernel_rfl
theorem cW : Tryd.prog.cellsOf 23 = 1 := by kernel_rfl
theorem cI : Tryd.prog.cellsOf 3 = 1 := by kernel_rfl
theorem cW4 : Tryd.prog.cellsOf 156 = 4 := by kernel_rfl
theorem cI4 : Tryd.prog.cellsOf 158 = 4 := by kernel_rfl
theorem cI32 : Tryd.prog.cellsOf 161 = 8 * 4 := by kernel_rfl
theorem c64 : Tryd.prog.cellsOf 153 = 64 := by kernel_rfl
theorem c8 : Tryd.prog.cellsOf 121 = 8 := by kernel_rfl
def plcZ : List (List Int) := plc.map fun r => r.map fun (k : Nat) => (k : Int)
theorem laidF : (Rows.laid_carling_cipher_firstWords : DataW Unit) = Lib.tabData .u32 (fwl.map V) := by rfl
theorem laidP : (Rows.laid_carling_cipher_quarterPlaces : DataW Unit) = .agg (plcZ.map (Lib.tabData .i64)) := by rfl
theorem laidK : (Rows.laid_carling_sha_roundConstants : DataW Unit) = Lib.tabData .u32 (Kl.map V) := by rfl
theorem laidI : (Rows.laid_carling_sha_firstState : DataW Unit) = Lib.tabData .u32 (IVl.map V) := by rfl
theorem tabV_of {W : World} {name : String} {g : Nat} {cs : List Value} (hg : Tryd.prog.globalNamed name = some g) (hv : W.var? Tryd.prog name = some cs.toArray) (h0 : cs ≠ []) : TabV W g cs := by
  have key : ∀ j v, cs[j]? = some v → W.cell? ⟨g, 0 + j, none⟩ = some v := fun j v hj => by
    rw [Nat.zero_add, World.var?_cell hg hv j]
    simpa using hj
  obtain ⟨x, r, rfl⟩ := List.exists_cons_of_ne_nil h0
  exact ⟨block_lt_of_cell (key 0 x rfl), key⟩
theorem tab_of {W : World} {name : String} {g : Nat} {l : List (BitVec 32)} (h : Lib.TabIs Tryd.prog W name .u32 (l.map V)) (hg : Tryd.prog.globalNamed name = some g) (h0 : 0 < l.length) : Tab W g l := by
  have key : ∀ i, i < l.length → W.cell? ⟨g, i, none⟩ = some (.int .u32 (V (l.getD i 0))) := fun i hi => by
    rw [h.cell hg i (by simpa using hi)]
    simp [List.getD_eq_getElem?_getD, hi]
  exact ⟨block_lt_of_cell (key 0 h0), key⟩
theorem tabs_of {W : World} (h : laidMetH Tryd.prog laidL W) : T9 W := by
  rw [MakeChecks.laidMetH_plain _ _ _ (by kernel_rfl)] at h
  obtain ⟨ps, ⟨g0, t0, cs0, f0, p0, q0, hg0, ht0, hv0, hd0, ⟨g1, t1, cs1, f1, p1, q1, hg1, ht1, hv1, hd1, ⟨g2, t2, cs2, f2, p2, q2, hg2, ht2, hv2, hd2, ⟨g3, t3, cs3, f3, p3, q3, hg3, ht3, hv3, hd3, _, _⟩, _⟩, _⟩, _⟩, _, _⟩ := h
  obtain rfl := Option.some.inj (gF.symm.trans hg0)
  obtain rfl := Option.some.inj (tF.symm.trans ht0)
  obtain rfl := Option.some.inj (gP.symm.trans hg1)
  obtain rfl := Option.some.inj (tP.symm.trans ht1)
  obtain rfl := Option.some.inj (gK.symm.trans hg2)
  obtain rfl := Option.some.inj (tK.symm.trans ht2)
  obtain rfl := Option.some.inj (gI.symm.trans hg3)
  obtain rfl := Option.some.inj (tI.symm.trans ht3)
  rw [laidF] at hd0
  rw [laidP] at hd1
  rw [laidK] at hd2
  rw [laidI] at hd3
  have e0 := Lib.cells_of_tab Tryd.underlying156 Tryd.underlying23 cW cW4 hd0
  have e2 := Lib.cells_of_tab Tryd.underlying153 Tryd.underlying23 cW c64 hd2
  have e3 := Lib.cells_of_tab Tryd.underlying121 Tryd.underlying23 cW c8 hd3
  obtain ⟨hl, hr⟩ := cells_of_rows Tryd.underlying161 Tryd.underlying158 Tryd.underlying3 cI cI4 cI32 (by decide) hd1
  have e1 : cs1.toList = ints plc.flatten := by
    apply List.ext_getElem?
    intro i
    by_cases hi : i < 32
    · have h8 := hr (i / 4) (by omega)
      have h9 := congrArg (fun l => l[i % 4]?) h8
      simp only [List.getElem?_take, List.getElem?_drop, if_pos (show i % 4 < 4 from Nat.mod_lt _ (by decide)), show i / 4 * 4 + i % 4 = i by omega] at h9
      rw [h9]
      have : i = 0 ∨ i = 1 ∨ i = 2 ∨ i = 3 ∨ i = 4 ∨ i = 5 ∨ i = 6 ∨ i = 7 ∨ i = 8 ∨ i = 9 ∨ i = 10 ∨ i = 11 ∨ i = 12 ∨ i = 13 ∨ i = 14 ∨ i = 15 ∨ i = 16 ∨ i = 17 ∨ i = 18 ∨ i = 19 ∨ i = 20 ∨ i = 21 ∨ i = 22 ∨ i = 23 ∨ i = 24 ∨ i = 25 ∨ i = 26 ∨ i = 27 ∨ i = 28 ∨ i = 29 ∨ i = 30 ∨ i = 31 := by omega
      rcases this with rfl | rfl | rfl | rfl | rfl | rfl | rfl | rfl | rfl | rfl | rfl | rfl | rfl | rfl | rfl | rfl | rfl | rfl | rfl | rfl | rfl | rfl | rfl | rfl | rfl | rfl | rfl | rfl | rfl | rfl | rfl | rfl <;> rfl
    · rw [List.getElem?_eq_none (by omega), List.getElem?_eq_none (by rw [show (ints plc.flatten).length = 32 from rfl]; omega)]
  refine ⟨⟨tab_of ?_ gK (by decide), tab_of ?_ gI (by decide)⟩, tabV_of gF ?_ (by decide), tabV_of gP ?_ (by decide)⟩
  · unfold Lib.TabIs
    rw [hv2, ← e2]
  · unfold Lib.TabIs
    rw [hv3, ← e3]
  · rw [hv0, ← Array.toArray_toList (xs := cs0), e0]; rfl
  · rw [hv1, ← Array.toArray_toList (xs := cs1), e1]
theorem door_met (os : Os) (args : Array Value) : laidMetH Tryd.prog laidL ((World.doorLaid Tryd.prog 4000 os).forCall (fun _ _ => 0) ⟨#[], args, []⟩).memory :=
  laidMetH_of_parts3 (fuel := 200) (laidMet_of_run' 200 (by kernel_rfl) (by kernel_rfl)) (by kernel_rfl) (by kernel_rfl)
theorem law_lift {f : FuncId} {fn : Func} {s : ChangeSpec} (hvars : s.vars = []) (hres : fn.resultTypes = #[4]) (hread : fn.params.toList.all (fun t => Tryd.prog.readableRec t && decide (t < Tryd.prog.types.size)) = true)
    (hs : ∀ (H : Type) (ds : List (DataW H)), ds.length = fn.params.size → s.fn H ds = { results := [.lit (.bool true)], args := ds }) (noInit : Tryd.checked.prog.inits.idxOf? f = none) (hfn : Tryd.prog.funcs[f]? = some fn)
    (os : Os) (started : os.Started) (H : Type) (enc : TypeId × Value → H) (wargs : Array Value) (fuel : Nat)
    (hok : Input.okWideB Tryd.prog ((World.doorLaid Tryd.prog 4000 os).forCall (fun _ _ => 0) ⟨#[], wargs, []⟩) f ⟨#[], wargs, []⟩ = true)
    (hpre : s.preB enc Tryd.prog fn [] false ((World.doorLaid Tryd.prog 4000 os).forCall (fun _ _ => 0) ⟨#[], wargs, []⟩).memory wargs fuel = true)
    (hsz : s.sizedB enc Tryd.prog fn false ((World.doorLaid Tryd.prog 4000 os).forCall (fun _ _ => 0) ⟨#[], wargs, []⟩).memory wargs fuel = true)
    (hsh : ((World.doorLaid Tryd.prog 4000 os).forCall (fun _ _ => 0) ⟨#[], wargs, []⟩).Shaped Tryd.prog)
    (hdoor : laidMetH Tryd.prog laidL ((World.doorLaid Tryd.prog 4000 os).forCall (fun _ _ => 0) ⟨#[], wargs, []⟩).memory)
    (hos : (World.doorLaid Tryd.prog 4000 os).os = os)
    (contract : ∀ (W : World) (base : Nat) (args : Array Value) (ds : List (DataW H)) (p : List MemPlace), (∀ (j : Nat) t v, fn.params[j]? = some t → args[j]? = some v → Value.okWide Tryd.prog W .any base t v) →
      DataW.TrodAll enc Tryd.prog W 0 (fun _ => true) true fn.params.toList args.toList ds p → T9 W → LawTrue f args W) :
    ReturnsInHanded {} Tryd.checked os f .any (fun w args => (s.pre enc Tryd.prog fn [] false w args ∧ laidMetH Tryd.prog laidL w) ∧ sizedMet enc Tryd.prog fn (OpenSpec.ofChange s) false w args) (s.post enc Tryd.prog fn false true false false) :=
  law_lift_of laidL T9 (fun h => tabs_of h) hvars hres hread hs noInit hfn os started H enc wargs fuel hok hpre hsz hsh hdoor hos contract
end Sha
end Go.Proofs.YtajdpbbbocnfiaaDoor
