/- Plain mathematics of stretched keys (RFC 8018) on lists of bytes. | Join, and the document's: their walks. | The function literal that joins macs, and the walk over a block's macs. | A block of a stretched key: its walk. -/
import Derived.Test.YtngegegomkclbaaDoorMacMath
import Derived.Test.YtngegegomkclbaaDoorMacRef
namespace Go.Proofs.YtngegegomkclbaaDoor
namespace Sha
/-- Two lists of bytes joined (either). -/
def joinB (a b : List (BitVec 8)) : List (BitVec 8) := List.zipWith (· ^^^ ·) a b
def joinTo (a b : List (BitVec 8)) (i : Nat) : List (BitVec 8) := (joinB a b).take i ++ a.drop i
theorem joinB_length (a b : List (BitVec 8)) (h : a.length = b.length) : (joinB a b).length = a.length := by simp [joinB, h]
theorem joinTo_length (a b : List (BitVec 8)) (h : a.length = b.length) (i : Nat) : (joinTo a b i).length = a.length := by
  simp [joinTo, joinB, h]; omega
theorem joinTo_zero (a b : List (BitVec 8)) : joinTo a b 0 = a := by simp [joinTo]
theorem joinTo_all (a b : List (BitVec 8)) (h : a.length = b.length) : joinTo a b a.length = joinB a b := by
  unfold joinTo
  rw [List.take_of_length_le (by rw [joinB_length a b h]; omega), List.drop_length, List.append_nil]
theorem joinTo_get (a b : List (BitVec 8)) (h : a.length = b.length) (i : Nat) (hi : i < a.length) : (joinTo a b i).getD i 0 = a.getD i 0 := by
  unfold joinTo
  rw [List.getD_eq_getElem?_getD, List.getD_eq_getElem?_getD, List.getElem?_append_right (by rw [List.length_take, joinB_length a b h]; omega)]
  rw [List.length_take, joinB_length a b h, Nat.min_eq_left (Nat.le_of_lt hi)]
  simp
theorem joinB_get (a b : List (BitVec 8)) (h : a.length = b.length) (i : Nat) (hi : i < a.length) : (joinB a b).getD i 0 = a.getD i 0 ^^^ b.getD i 0 := by
  have hb : i < b.length := by omega
  simp [joinB, List.getD_eq_getElem?_getD, List.getElem?_zipWith, hi, hb]
theorem joinB_next (a b : List (BitVec 8)) (h : a.length = b.length) (i : Nat) (hi : i < a.length) : (joinB a b).take (i + 1) = (joinB a b).take i ++ [a.getD i 0 ^^^ b.getD i 0] := by
  have hl : i < (joinB a b).length := by rw [joinB_length a b h]; exact hi
  rw [List.take_succ_eq_append_getElem hl, ← joinB_get a b h i hi]
  simp [hl]
theorem joinTo_set (a b : List (BitVec 8)) (h : a.length = b.length) (i : Nat) (hi : i < a.length) : (joinTo a b i).set i (a.getD i 0 ^^^ b.getD i 0) = joinTo a b (i + 1) := by
  unfold joinTo
  rw [joinB_next a b h i hi, List.set_append_right _ _ (by rw [List.length_take, joinB_length a b h]; omega), List.length_take, joinB_length a b h, Nat.min_eq_left (Nat.le_of_lt hi), Nat.sub_self, List.drop_eq_getElem_cons hi, List.set_cons_zero, List.append_assoc]
  rfl
theorem joinB_zero (a : List (BitVec 8)) (n : Nat) (h : a.length = n) : joinB (List.replicate n 0) a = a := by
  subst h
  apply List.ext_getElem (by simp [joinB])
  intro i h1 h2
  simp [joinB]
/-- A number as four bytes, the highest first. -/
def be4 (n : BitVec 32) : List (BitVec 8) := [wb n 24, wb n 16, wb n 8, wb n 0]
/-- The macs of the block n, from the first one on. -/
def mcs (k salt : List (BitVec 8)) (n : BitVec 32) : Nat → List (BitVec 8)
  | 0 => macOf k (salt ++ be4 n)
  | i + 1 => macOf k (mcs k salt n i)
theorem mcs_length (k salt : List (BitVec 8)) (n : BitVec 32) (i : Nat) : (mcs k salt n i).length = 32 := by
  cases i <;> exact macOf_length _ _
/-- So many of them joined. -/
def blk (k salt : List (BitVec 8)) (n : BitVec 32) : Nat → List (BitVec 8)
  | 0 => List.replicate 32 0
  | i + 1 => joinB (blk k salt n i) (mcs k salt n i)
theorem blk_length (k salt : List (BitVec 8)) (n : BitVec 32) : ∀ i, (blk k salt n i).length = 32
  | 0 => by simp [blk]
  | i + 1 => by rw [blk, joinB_length _ _ (by rw [blk_length k salt n i, mcs_length]), blk_length k salt n i]
/-- The first j blocks, one behind the other. -/
def blks (k salt : List (BitVec 8)) (r : Nat) : Nat → List (BitVec 8)
  | 0 => []
  | j + 1 => blks k salt r j ++ blk k salt (BitVec.ofNat 32 (j + 1)) r
theorem blks_length (k salt : List (BitVec 8)) (r : Nat) : ∀ j, (blks k salt r j).length = 32 * j
  | 0 => rfl
  | j + 1 => by rw [blks, List.length_append, blks_length k salt r j, blk_length]; omega
theorem blks_more (k salt : List (BitVec 8)) (r j : Nat) : ∀ i, (blks k salt r (j + i)).take (32 * j) = blks k salt r j
  | 0 => by rw [Nat.add_zero, List.take_of_length_le (by rw [blks_length]; omega)]
  | i + 1 => by
    rw [← Nat.add_assoc, blks, List.take_append_of_le_length (by rw [blks_length]; omega), blks_more k salt r j i]
/-- The stretched key. -/
def stretched (k salt : List (BitVec 8)) (r size : Nat) : List (BitVec 8) := (blks k salt r ((size + 31) / 32)).take size
theorem stretched_length (k salt : List (BitVec 8)) (r size : Nat) : (stretched k salt r size).length = size := by
  rw [stretched, List.length_take, blks_length]; omega
theorem stretched_from (k salt : List (BitVec 8)) (r size j : Nat) (h : size ≤ 32 * j) : (blks k salt r j).take size = stretched k salt r size := by
  have hc : (size + 31) / 32 ≤ j := by omega
  obtain ⟨i, rfl⟩ : ∃ i, j = (size + 31) / 32 + i := ⟨j - (size + 31) / 32, by omega⟩
  have e := blks_more k salt r ((size + 31) / 32) i
  rw [stretched, ← e, List.take_take]
  congr 1
  omega
/-- A longer key begins with the shorter one. -/
theorem stretched_begins (k salt : List (BitVec 8)) (r m n : Nat) (h : m ≤ n) : (stretched k salt r n).take m = stretched k salt r m := by
  rw [stretched, List.take_take, Nat.min_eq_left h]
  exact stretched_from k salt r m _ (by omega)
theorem keyOf_64 (k : List (BitVec 8)) (h : k.length = 64) : keyOf k = k := by
  unfold keyOf
  rw [if_neg (by omega)]
  simp [fill64, h]
theorem macOf_key (k m : List (BitVec 8)) : macOf (keyOf k) m = macOf k m := by
  unfold macOf
  rw [keyOf_64 (keyOf k) (keyOf_length k)]
theorem mcs_key (k salt : List (BitVec 8)) (n : BitVec 32) : ∀ i, mcs (keyOf k) salt n i = mcs k salt n i
  | 0 => macOf_key _ _
  | i + 1 => by rw [mcs, mcs_key k salt n i, macOf_key]; rfl
theorem blk_key (k salt : List (BitVec 8)) (n : BitVec 32) : ∀ i, blk (keyOf k) salt n i = blk k salt n i
  | 0 => rfl
  | i + 1 => by rw [blk, blk_key k salt n i, mcs_key]; rfl
end Sha
end Go.Proofs.YtngegegomkclbaaDoor
namespace Go.Proofs.YtngegegomkclbaaDoor
namespace Sha
open Go.RowKit Mem
structure JInv (L : List (BitVec 8)) (B R : Nat) (X : Array Value) (w wr : World) : Prop where
  k : At wr B (u8s L).toArray 25
  r : At wr R X 25
  b : Below w.heap.size w wr
def jnOf (a b : List (BitVec 8)) : Array Value := (u8s (joinB a b)).toArray
set_option maxRecDepth 100000 in
set_option maxHeartbeats 1000000 in
theorem join_any (a b : List (BitVec 8)) (la : a.length = 32) (lb : b.length = 32) (w : World) :
    Calls Tryd.prog 26 #[.agg (u8s a).toArray, .agg (u8s b).toArray] w fun e w' => e = .returned (.agg (jnOf a b)) ∧ Below w.heap.size w w' := by
  have hab : a.length = b.length := by rw [la, lb]
  obtain ⟨X, hX⟩ : ∃ X, X = Z32 := ⟨_, rfl⟩
  have hx := zero32
  rw [← hX] at hx
  have hXs : X.size = 32 := by rw [hX]; simp [Z32, u8s]
  obtain ⟨C, hC⟩ : ∃ C, C = (u8s a).toArray := ⟨_, rfl⟩
  obtain ⟨D, hD⟩ : ∃ D, D = (u8s b).toArray := ⟨_, rfl⟩
  have hDs : D.size = 32 := by rw [hD]; simp [u8s, lb]
  rw [← hC, ← hD]
  have HC := Lib.hid hC; have HD := Lib.hid hD; have HX := Lib.hid hX; have XS := Lib.hid hXs; have DSZ := Lib.hid hDs; have LA := Lib.hid la; have HAB := Lib.hid hab
  clear hC hD hX hXs hDs la lb hab
  go_enter Tryd.func26, Tryd.ntmps26
  have ad : At (((w.alloc (.cells C 25)).alloc (.cells D 25)).alloc (.cells X 25)) (w.heap.size + 1) D 25 := by
    have h := (at_new (w.alloc (.cells C 25)) D 25).alloc (.cells X 25)
    simpa using h
  have hI : JInv (joinTo a b 0) w.heap.size (w.heap.size + 1 + 1) X w (((w.alloc (.cells C 25)).alloc (.cells D 25)).alloc (.cells X 25)) := by
    refine ⟨by rw [joinTo_zero, ← HC.out]; exact ((at_new w C _).alloc _).alloc _, ?_, (((Below.refl _ _).alloc (Nat.le_refl _) _).alloc (by simp) _).alloc (by simp; omega) _⟩
    have h := at_new ((w.alloc (.cells C 25)).alloc (.cells D 25)) X 25
    simpa using h
  have AD := Lib.hid ad; have HI := Lib.hid hI
  clear ad hI
  go_wp2_with (refine wpList_load_all (by rfl) 25 _ (by rfl) (w.heap.size + 1) (by rfl) _ Tryd.underlying25 (by rfl) D _ AD.out (by rw [DSZ.out]; exact info32) ?_)
  clear AD
  generalize ((w.alloc (.cells C 25)).alloc (.cells D 25)).alloc (.cells X 25) = w3 at *
  go_loopw [5, 6, 8] (fun _ _ i wr => ∃ j : Nat, j ≤ 32 ∧ i = .int .i64 j ∧ JInv (joinTo a b j) w.heap.size (w.heap.size + 1 + 1) X w wr) (fun _ _ i _ => 32 - (intOf i).toNat)
  case atStart => exact ⟨0, by omega, rfl, HI.out⟩
  case round =>
    clear HI
    obtain ⟨j, hj, rfl, hI⟩ := hrel
    by_cases hlt : j < 32
    · have hja : j < a.length := by rw [LA.out]; exact hlt
      have hjb : j < b.length := by rw [← HAB.out]; exact hja
      have hk := hI.k
      obtain ⟨x, hxx⟩ : ∃ x, x = a.getD j 0 := ⟨_, rfl⟩
      obtain ⟨y, hyy⟩ : ∃ y, y = b.getD j 0 := ⟨_, rfl⟩
      have hset : (u8s (joinTo a b j)).toArray.setIfInBounds j (.int .u8 (B8 (x ^^^ y))) = (u8s (joinTo a b (j + 1))).toArray := by
        rw [← joinTo_set a b HAB.out j hja, ← hxx, ← hyy]; exact u8s_set _ _ _
      have cj : wr.cell? ⟨w.heap.size, j, none⟩ = some (.int .u8 (B8 x)) := by
        rw [hk.cell, List.getElem?_toArray, u8s_get _ _ (by rw [joinTo_length a b HAB.out]; exact hja), joinTo_get a b HAB.out j hja, hxx]; rfl
      have dj : D[j]? = some (.int .u8 (B8 y)) := by rw [HD.out, List.getElem?_toArray, u8s_get _ _ hjb, hyy]; rfl
      have hEs : j < (u8s (joinTo a b j)).toArray.size := by simp [u8s, joinTo_length a b HAB.out]; exact hja
      obtain ⟨E, hE⟩ : ∃ E, E = (u8s (joinTo a b j)).toArray := ⟨_, rfl⟩
      rw [← hE] at hk hset hEs
      have KK := Lib.hid hk; have ST := Lib.hid hset; have DS := Lib.hid hEs; have II := Lib.hid hI; have DJ := Lib.hid dj
      clear hk hset hEs hI hE hxx hyy hja hjb dj
      go_wp2_with (first
        | (refine wpList_index_row (by rfl) 25 _ _ (by rfl) 32 5 Tryd.underlying25 _ Tryd.underlying5 (by rfl) infoB D j (by rfl) (by rfl) hlt _ DJ.out ?_)
        | (refine Mem.wpList_store_one (by rfl) 5 _ _ (by rfl) (by rfl) w.heap.size j (.int .u8 (B8 (x ^^^ y))) (by rfl) (by exact congrArg (Value.int .u8) (B8_xor x y)) (by rfl) infoB _ _ KK.out DS.out ?_; intro w4 a4 o4 b4; have A4 := Lib.hid a4; have R4 := Lib.hid (at_keep II.out.r o4 (by omega)); have B4 := Lib.hid (b4 _ _ II.out.b (Nat.le_refl _)); clear a4 o4 b4))
      go_roundw
      case rel => exact ⟨j + 1, by omega, by go_num, by rw [← ST.out]; exact A4.out, R4.out, B4.out⟩
      case measure => simp [intOf]; omega
    · have hj32 : j = 32 := by omega
      have hall : joinTo a b j = joinB a b := by rw [hj32, ← LA.out]; exact joinTo_all a b HAB.out
      rw [hall] at hI
      have hge : ¬ (j : Int) < 32 := by omega
      obtain ⟨M, hM⟩ : ∃ M, M = jnOf a b := ⟨_, rfl⟩
      have hk := hI.k
      rw [show (u8s (joinB a b)).toArray = M from hM.symm] at hk
      have hMs : M.size = 32 := by rw [hM]; simp [jnOf, u8s, joinB_length a b HAB.out, LA.out]
      have hMo : M.all (·.oneCell') = true := by rw [hM]; exact u8s_one _
      have HM := Lib.hid hM; have MS := Lib.hid hMs; have MO := Lib.hid hMo; have KK := Lib.hid hk; have RR := Lib.hid hI.r; have BB := Lib.hid hI.b
      clear hM hMs hMo hk hI hall hj32 hlt hj
      go_wp2_with (first | (refine wpList_load_all (by rfl) 25 _ (by rfl) w.heap.size (by rfl) _ Tryd.underlying25 (by rfl) M _ KK.out (by rw [MS.out]; exact info32) ?_) | (refine wpList_store_all (by rfl) 25 _ _ (by rfl) (by rfl) (w.heap.size + 1 + 1) M (by rfl) (by rfl) (by rw [MS.out]; exact info32) _ _ RR.out (by rw [MS.out, XS.out]) MO.out ?_))
      try simp only [Exit.inBlock, Exit.then]
      refine ret_row (by rfl) (w.heap.size + 1 + 1) 25 M _ (by rfl) (RR.out.row M) Tryd.underlying25 (by rfl) (by rw [MS.out]; exact info32) ?_
      exact ⟨by rw [HM.out], below_row BB.out (by omega) M⟩
end Sha
end Go.Proofs.YtngegegomkclbaaDoor
namespace Go.Proofs.YtngegegomkclbaaDoor
namespace Sha
open Go.RowKit Mem
theorem jnOf_size (a b : List (BitVec 8)) (la : a.length = 32) (lb : b.length = 32) : (jnOf a b).size = 32 := by simp [jnOf, u8s, joinB_length a b (by rw [la, lb]), la]
set_option maxRecDepth 100000 in
set_option maxHeartbeats 1000000 in
/-- The literal: the variable that it holds on to has what it was handed joined to it. -/
theorem lit_any (a m : List (BitVec 8)) (la : a.length = 32) (lm : m.length = 32) (bb : Nat) (w : World) (ha : At w bb (u8s a).toArray 25) :
    Calls Tryd.prog 50 #[.agg (u8s m).toArray, .pointer (some ⟨bb, 0, none⟩)] w fun e w' => e = .returned (.tuple #[]) ∧ At w' bb (jnOf a m) 25 ∧ But bb w w' ∧ (∀ B x, Below B x w → B ≤ bb → B ≤ w.heap.size → Below B x w') := by
  have hj := fun wx => join_any a m la lm wx
  obtain ⟨C, hC⟩ : ∃ C, C = (u8s a).toArray := ⟨_, rfl⟩
  obtain ⟨D, hD⟩ : ∃ D, D = (u8s m).toArray := ⟨_, rfl⟩
  obtain ⟨M, hM⟩ : ∃ M, M = jnOf a m := ⟨_, rfl⟩
  have hCs : C.size = 32 := by rw [hC]; simp [u8s, la]
  have hDs : D.size = 32 := by rw [hD]; simp [u8s, lm]
  have hMs : M.size = 32 := by rw [hM]; exact jnOf_size a m la lm
  have hMo : M.all (·.oneCell') = true := by rw [hM]; exact u8s_one _
  rw [← hC] at ha
  rw [← hC, ← hD, ← hM] at hj
  rw [← hD, ← hM]
  have J := Lib.hid hj; have CS := Lib.hid hCs; have DS := Lib.hid hDs; have MS := Lib.hid hMs; have MO := Lib.hid hMo
  have A1 := Lib.hid (ha.alloc (.cells D 25)); have D1 := Lib.hid (at_new w D 25); have LT := Lib.hid ha.lt
  clear hj hC hD hM hCs hDs hMs hMo ha la lm
  go_enter Tryd.func50, Tryd.ntmps50
  go_wp2_with (first
    | (refine wpList_load_all (by rfl) 25 _ (by rfl) bb (by rfl) _ Tryd.underlying25 (by rfl) C _ A1.out (by rw [CS.out]; exact info32) ?_)
    | (refine wpList_load_all (by rfl) 25 _ (by rfl) w.heap.size (by rfl) _ Tryd.underlying25 (by rfl) D _ D1.out (by rw [DS.out]; exact info32) ?_)
    | (go_at_call 26; refine (J.out _).mono ?_; rintro e w2 ⟨rfl, hb2⟩; have A2 := Lib.hid (A1.out.below hb2 A1.out.lt); have B2 := Lib.hid (((Below.refl w.heap.size w).alloc (Nat.le_refl _) (.cells D 25)).trans (hb2.mono (by simp))); clear hb2)
    | (refine wpList_store_all (by rfl) 25 _ _ (by rfl) (by rfl) bb M (by rfl) (by rfl) (by rw [MS.out]; exact info32) _ _ A2.out (by rw [MS.out, CS.out]) MO.out ?_))
  go_end0
  exact ⟨rfl, A2.out.row M, ((But.refl bb w).below B2.out).row (by simp) (fun k hk => setRow_other _ _ k M hk), fun B x hb h1 h2 => below_row (hb.trans (B2.out.mono h2)) h1 M⟩
theorem info4 : (Tryd.prog.info? 81).map (·.size) = some 4 := by kernel_rfl
theorem num_any (n : BitVec 32) : V n / (16777216 : Int) % (256 : Int) = ((wb n 24).toNat : Int) ∧ V n / (65536 : Int) % (256 : Int) = ((wb n 16).toNat : Int) ∧ V n / (256 : Int) % (256 : Int) = ((wb n 8).toNat : Int) ∧ V n % (256 : Int) = ((wb n 0).toNat : Int) := ⟨wb24 n, wb16 n, wb8 n, by rw [← wb0]⟩
theorem one_mac (K salt : List (BitVec 8)) (n : BitVec 32) (i : Nat) (vk vp : Value) (w : World) (hk : Sl w vk K) (hv : Sls w vp [mcs K salt n i]) (lK : K.length = 64) (hL : Tabs w) :
    Calls Tryd.prog 16 #[vk, vp] w fun e w' => e = .returned (.agg (u8s (mcs K salt n (i + 1))).toArray) ∧ Below w.heap.size w w' := by
  have h := mac_any K [mcs K salt n i] vk vp w hk hv (by rw [lK]; decide) (by simp [mcs_length]) (by simp) hL
  rw [show [mcs K salt n i].flatten = mcs K salt n i by simp] at h
  exact h
theorem But.over {b c : Nat} {w w' w2 : World} (h : But b w w') (k : But c w' w2) (hc : w.heap.size ≤ c) : But b w w2 :=
  ⟨Nat.le_trans h.size k.size, fun j hj hne => (k.block j (Nat.lt_of_lt_of_le hj h.size) (by omega)).trans (h.block j hj hne)⟩
theorem But.same {b : Nat} {w w' w2 : World} (h : But b w w') (k : But b w' w2) : But b w w2 :=
  ⟨Nat.le_trans h.size k.size, fun j hj hne => (k.block j (Nat.lt_of_lt_of_le hj h.size) hne).trans (h.block j hj hne)⟩
/-- What stands between two macs. -/
structure EInv (K salt : List (BitVec 8)) (n : BitVec 32) (w0 w : World) (bb bk bm i : Nat) (wr : World) : Prop where
  acc : At wr bb (u8s (blk K salt n i)).toArray 25
  key : At wr bk (u8s K).toArray 28
  mac : At wr bm (u8s (mcs K salt n (i - 1))).toArray 25
  b : Below w0.heap.size w0 wr
  bt : But bb w wr
set_option maxRecDepth 100000 in
set_option maxHeartbeats 2000000 in
theorem each_any (K salt : List (BitVec 8)) (n : BitVec 32) (r : Nat) (vs : Value) (bb : Nat) (w0 w : World) (lK : K.length = 64) (hr1 : 1 ≤ r) (hr2 : r ≤ 10000) (ls : salt.length ≤ 1099511627776)
    (hs : Sl w0 vs salt) (hL : Tabs w0) (hb : Below w0.heap.size w0 w) (hbb : w0.heap.size ≤ bb) (ha : At w bb (u8s (List.replicate 32 0)).toArray 25) :
    Calls Tryd.prog 49 #[.agg (u8s K).toArray, vs, .int .i64 (r : Int), .int .u32 (V n), .func (.func 50) #[] #[.pointer (some ⟨bb, 0, none⟩)]] w
      fun e w' => e = .returned (.tuple #[]) ∧ At w' bb (u8s (blk K salt n r)).toArray 25 ∧ Below w0.heap.size w0 w' ∧ But bb w w' := by
  have hs0 := hs
  obtain ⟨az, cz, rfl, _, _⟩ := hs
  obtain ⟨ns, hns⟩ : ∃ ns, ns = salt.length := ⟨_, rfl⟩
  rw [← hns] at hs0 ⊢
  obtain ⟨F, hF⟩ : ∃ F, F = (u8s K).toArray := ⟨_, rfl⟩
  have hFs : F.size = 64 := by rw [hF]; simp [u8s, lK]
  rw [← hF]
  obtain ⟨e24, e16, e8, e0⟩ := num_any n
  have bs0 : Below w0.heap.size w0 (w.alloc (.cells F 28)) := hb.alloc hb.size _
  have E24 := Lib.hid e24; have E16 := Lib.hid e16; have E8 := Lib.hid e8; have E0 := Lib.hid e0
  have HF := Lib.hid hF; have FS := Lib.hid hFs; have HS := Lib.hid hs0; have HL := Lib.hid hL; have B0 := Lib.hid bs0; have HB := Lib.hid hb; have HBB := Lib.hid hbb; have HA := Lib.hid ha; have LK := Lib.hid lK; have LS := Lib.hid ls
  clear hF hFs hs0 hns hL hb hbb ha lK e24 e16 e8 e0 bs0 ls
  go_enter Tryd.func49, Tryd.ntmps49
  go_wp2_with fail
  rw [E24.out, E16.out, E8.out, E0.out]
  generalize hw1 : (w.alloc (.cells F 28)).alloc _ = w1
  have k5 : At w1 w.heap.size F 28 := by rw [← hw1]; exact (at_new w F _).alloc _
  have n10 : At w1 (w.heap.size + 1) (u8s (be4 n)).toArray 81 := by
    have h := at_new (w.alloc (.cells F 28)) (u8s (be4 n)).toArray 81
    rw [show (w.alloc (.cells F 28)).heap.size = w.heap.size + 1 by simp] at h
    rw [← hw1]; exact h
  have acc : At w1 bb (u8s (List.replicate 32 0)).toArray 25 := by rw [← hw1]; exact (HA.out.alloc _).alloc _
  have b1 : Below w0.heap.size w0 w1 := by rw [← hw1]; exact B0.out.alloc B0.out.size _
  have bt1 : But bb w w1 := (But.refl bb w).below (by rw [← hw1]; exact ((Below.refl _ _).alloc (Nat.le_refl _) _).alloc (by simp) _)
  have slk : Sl w1 (.slice (some ⟨w.heap.size, 0, none⟩) 64 64) K := at_sl (by rw [← HF.out]; exact k5) LK.out
  have sln : Sl w1 (.slice (some ⟨w.heap.size + 1, 0, none⟩) 4 4) (be4 n) := at_sl n10 rfl
  have sls : Sl w1 (.slice az ns cz) salt := HS.out.below b1
  have hmac := fun (wx : World) (vp : Value) (hx : Below w1.heap.size w1 wx) (h2 : Sls wx vp [salt, be4 n]) => mac_any K [salt, be4 n] (.slice (some ⟨w.heap.size, 0, none⟩) 64 64) vp wx (slk.below hx) h2 (by rw [LK.out]; decide) (by have := LS.out; simp [be4]; omega) (by simp) (HL.out.below (b1.trans (hx.mono b1.size)) (Nat.le_refl _))
  rw [show [salt, be4 n].flatten = salt ++ be4 n by simp] at hmac
  have hone := fun (wx : World) (vp : Value) (i : Nat) (hx : Sl wx (.slice (some ⟨w.heap.size, 0, none⟩) 64 64) K) (hb : Below w0.heap.size w0 wx) (h2 : Sls wx vp [mcs K salt n i]) => one_mac K salt n i (.slice (some ⟨w.heap.size, 0, none⟩) 64 64) vp wx hx h2 LK.out (HL.out.below hb (Nat.le_refl _))
  have hbk : w.heap.size < w1.heap.size := k5.lt
  have hba : bb < w.heap.size := HA.out.lt
  have ALL := Lib.hid run_allocDg
  obtain ⟨Z, hZ⟩ : ∃ Z, Z = Z32 := ⟨_, rfl⟩
  rw [← hZ] at ALL
  have hZs : Z.size = 32 := by rw [hZ]; simp [Z32, u8s]
  obtain ⟨G, hG⟩ : ∃ G, G = mcOf K (salt ++ be4 n) := ⟨_, rfl⟩
  have hGs : G.size = 32 := by rw [hG]; exact mcOf_size _ _
  have hGo : G.all (·.oneCell') = true := by rw [hG]; exact mcOf_one _ _
  rw [← hG] at hmac
  obtain ⟨bk, hbkk⟩ : ∃ b, b = w.heap.size := ⟨_, rfl⟩
  obtain ⟨bn, hbn⟩ : ∃ b, b = w.heap.size + 1 := ⟨_, rfl⟩
  rw [← hbn] at sln
  rw [← hbkk] at slk hmac hone k5 hbk hba
  rw [show w.heap.size + 1 = bn from hbn.symm, show w.heap.size = bk from hbkk.symm]
  have MAC := Lib.hid hmac; have ONE := Lib.hid hone; have SLK := Lib.hid slk; have SLN := Lib.hid sln; have SLS := Lib.hid sls; have B1 := Lib.hid b1; have BT1 := Lib.hid bt1; have ACC := Lib.hid acc; have K5 := Lib.hid k5; have BKL := Lib.hid hbk; have BAL := Lib.hid hba
  have ZS := Lib.hid hZs; have GS := Lib.hid hGs; have GO := Lib.hid hGo; have HG := Lib.hid hG
  clear hmac hone slk sln sls b1 bt1 acc k5 n10 hbk hba hZs hGs hGo hG hZ hw1 hbkk hbn E24 E16 E8 E0 B0 HB HA
  go_cut [11] (fun x wx => OneAt w1 G 25 x wx)
  case first =>
    refine wp_region_plan (.take 0 (.take 1 (.take 2 (.two 3 5 (.two 4 5 (.sole 5 (.sole 6 .done)) (.sole 4 (.sole 6 .done))) (.sole 3 (.sole 4 (.sole 6 .done))))))) (by kernel_rfl) (by kernel_rfl) (by kernel_rfl) ?_
    refine plan_cut _ _ 64 5 bk 0 (by rfl) (by rfl) (by rfl) (by first | (with_reducible exact Mem.ev_const _ _) | (with_reducible exact Mem.ev_zero _ _ _) | (with_reducible (apply Eq.trans (Mem.ev_tmp _ _ _)); simp only [List.getD_cons_succ, List.getD_cons_zero] <;> rfl)) Tryd.underlying28 infoB ?_
    (simp only [Act.put, List.setIfInBounds_toArray, List.set_cons_zero, List.set_cons_succ])
    (first | (refine plan_move _ _ (by rfl) (by rfl) (.inl (by rfl)) (by first | (with_reducible exact Mem.ev_const _ _) | (with_reducible exact Mem.ev_zero _ _ _) | (with_reducible (apply Eq.trans (Mem.ev_tmp _ _ _)); simp only [List.getD_cons_succ, List.getD_cons_zero] <;> rfl)) ?_) | (refine plan_move _ _ (by rfl) (by rfl) (.inr (by rfl)) (by first | (with_reducible exact Mem.ev_const _ _) | (with_reducible exact Mem.ev_zero _ _ _) | (with_reducible (apply Eq.trans (Mem.ev_tmp _ _ _)); simp only [List.getD_cons_succ, List.getD_cons_zero] <;> rfl)) ?_) | (refine plan_pick_t _ _ _ _ (by rfl) (by rfl) (by rfl) (by first | (with_reducible exact Mem.ev_const _ _) | (with_reducible exact Mem.ev_zero _ _ _) | (with_reducible (apply Eq.trans (Mem.ev_tmp _ _ _)); simp only [List.getD_cons_succ, List.getD_cons_zero] <;> rfl)) (by first | (with_reducible exact Mem.ev_const _ _) | (with_reducible exact Mem.ev_zero _ _ _) | (with_reducible (apply Eq.trans (Mem.ev_tmp _ _ _)); simp only [List.getD_cons_succ, List.getD_cons_zero] <;> rfl)) ?_) | (refine plan_pick_f _ _ _ _ (by rfl) (by rfl) (by rfl) (by first | (with_reducible exact Mem.ev_const _ _) | (with_reducible exact Mem.ev_zero _ _ _) | (with_reducible (apply Eq.trans (Mem.ev_tmp _ _ _)); simp only [List.getD_cons_succ, List.getD_cons_zero] <;> rfl)) (by first | (with_reducible exact Mem.ev_const _ _) | (with_reducible exact Mem.ev_zero _ _ _) | (with_reducible (apply Eq.trans (Mem.ev_tmp _ _ _)); simp only [List.getD_cons_succ, List.getD_cons_zero] <;> rfl)) ?_))
    (simp only [Act.put, List.setIfInBounds_toArray, List.set_cons_zero, List.set_cons_succ])
    refine plan_cut _ _ 4 5 bn 0 (by rfl) (by rfl) (by rfl) (by first | (with_reducible exact Mem.ev_const _ _) | (with_reducible exact Mem.ev_zero _ _ _) | (with_reducible (apply Eq.trans (Mem.ev_tmp _ _ _)); simp only [List.getD_cons_succ, List.getD_cons_zero] <;> rfl)) Tryd.underlying81 infoB ?_
    (simp only [Act.put, List.setIfInBounds_toArray, List.set_cons_zero, List.set_cons_succ])
    have B : Hid (Below w1.heap.size w1 w1.drew) := (Below.refl _ _).drew
    generalize w1.drew = W at *
    repeat' (first
      | (refine plan_two ?_ ?_)
      | (refine plan_slice (i := 3) 51 22 2 _ #[.slice az ns cz, .slice (some ⟨bn, 0, none⟩) 4 4] (by rfl) (by rfl) (by rfl) Tryd.underlying51 (by kernel_rfl) (B.out.alloc B.out.size _) ?_
         have LIT := Lib.hid (sls_lit2 (SLS.out.below B.out) (SLN.out.below B.out))
         (try (have A8 := Lib.hid (A8.out.alloc (.cells #[.slice az ns cz, .slice (some ⟨bn, 0, none⟩) 4 4] 22))))
         have B := Lib.hid (B.out.alloc B.out.size (.cells #[.slice az ns cz, .slice (some ⟨bn, 0, none⟩) 4 4] 22))
         (simp only [Act.put, List.setIfInBounds_toArray, List.set_cons_zero, List.set_cons_succ])
         obtain ⟨bl, hbl⟩ : ∃ b, b = W.heap.size := ⟨_, rfl⟩
         rw [← hbl] at LIT ⊢
         clear hbl
         generalize W.alloc _ = W at *)
      | (refine plan_call (i := 4) 16 _ _ _ (by kernel_rfl) (by rfl) (by rfl) (by rfl) (by first | exact Mem.ev_none _ | (simp only [List.map_toArray, List.map_cons, List.map_nil, Mem.ev_tmp, List.getD_cons_succ, List.getD_cons_zero] <;> rfl)) ?_
         refine (MAC.out _ _ B.out LIT.out).mono ?_
         rintro e W ⟨rfl, hbn⟩
         have B := Lib.hid (B.out.trans (hbn.mono B.out.size))
         (try (have A8 := Lib.hid (A8.out.below hbn A8.out.lt)))
         clear hbn
         refine ⟨_, rfl, B.out, ?_⟩
         (simp only [Act.put, List.setIfInBounds_toArray, List.set_cons_zero, List.set_cons_succ]))
      | (refine plan_alloc_any (i := 5) 25 Z (by rfl) (by rfl) (by rfl) ALL.out (fun W' h => h _ _ B.out B.out.size) ?_
         intro b8 W ha hlo _ hbb
         have LO8 := Lib.hid (Nat.le_trans B.out.size hlo)
         (try (have LIT := Lib.hid (LIT.out.below (hbb _ _ (Below.refl _ _) (Nat.le_refl _)))))
         have B := Lib.hid (hbb _ _ B.out B.out.size)
         have A8 := Lib.hid ha
         clear ha hlo hbb
         (simp only [Act.put, List.setIfInBounds_toArray, List.set_cons_zero, List.set_cons_succ]))
      | (refine plan_store_any (i := 6) 25 _ _ b8 G Z 25 (by rfl) (by rfl) (by rfl) (by rfl) (by rfl) (by rfl) (by rw [GS.out]; exact info32) A8.out (by rw [GS.out, ZS.out]) GO.out (fun W' h => h _ _ B.out LO8.out) ?_
         intro W ha _ hbb
         have B := Lib.hid (hbb _ _ B.out LO8.out)
         have A8 := Lib.hid ha
         clear ha hbb))
    all_goals (refine plan_nil ?_; go_wp2_with fail; go_meet; exact ⟨b8, rfl, LO8.out, A8.out, B.out⟩)
  case rest =>
    obtain ⟨bm, rfl, hlo, hat, hb⟩ := hcut
    rw [HG.out, show mcOf K (salt ++ be4 n) = (u8s (mcs K salt n 0)).toArray from rfl] at hat
    have hlit := lit_any (List.replicate 32 0) (mcs K salt n 0) (by simp) (mcs_length K salt n 0) bb wc (ACC.out.below hb (Nat.lt_trans BAL.out BKL.out))
    have hwc : w.heap.size ≤ wc.heap.size := Nat.le_trans BT1.out.size hb.size
    have hbm : w.heap.size ≤ bm := Nat.le_trans BT1.out.size hlo
    have hbm0 : w0.heap.size ≤ bm := Nat.le_trans B1.out.size hlo
    have hkm : bk ≠ bm := by have := BKL.out; omega
    have ham : bb ≠ bm := by have := BKL.out; have := BAL.out; omega
    have hbka : bk ≠ bb := by have := BAL.out; omega
    obtain ⟨D, hD⟩ : ∃ D, D = (u8s (mcs K salt n 0)).toArray := ⟨_, rfl⟩
    have hDs : D.size = 32 := by rw [hD]; simp [u8s, mcs_length]
    rw [← hD] at hat hlit
    have LIT := Lib.hid hlit; have HAT := Lib.hid hat; have BMW := Lib.hid hbm; have BM0 := Lib.hid hbm0; have KM := Lib.hid hkm; have AM := Lib.hid ham; have KA := Lib.hid hbka; have DS := Lib.hid hDs; have HD := Lib.hid hD
    have BC := Lib.hid (B1.out.trans (hb.mono B1.out.size)); have BTC := Lib.hid (BT1.out.below hb); have KC := Lib.hid (K5.out.below hb BKL.out)
    clear hlit hat hbm hbm0 hkm ham hbka hDs hD hb hlo hwc MAC SLK SLN SLS B1 BT1 ACC K5 BKL BAL ZS GS GO HG ALL
    go_wp2_with (refine wpList_load_all (by rfl) 25 _ (by rfl) bm (by rfl) _ Tryd.underlying25 (by rfl) D _ HAT.out (by rw [DS.out]; exact info32) ?_)
    refine LIT.out.mono ?_
    rintro e w2 ⟨rfl, ha2, hb2, hbl2⟩
    have I0 : Hid (EInv K salt n w0 w bb bk bm 1 w2) := ⟨ha2, by rw [← HF.out]; exact KC.out.but hb2 KA.out, by show At w2 bm (u8s (mcs K salt n 0)).toArray _; rw [← HD.out]; exact HAT.out.but hb2 (Ne.symm AM.out), hbl2 _ _ BC.out HBB.out BC.out.size, But.same BTC.out hb2⟩
    clear ha2 hb2 hbl2 LIT HAT BC BTC KC HD DS
    go_wp2_with fail
    go_loopw [34] (fun i wr => ∃ j : Nat, j ≤ r - 1 ∧ i = .int .i64 j ∧ EInv K salt n w0 w bb bk bm (j + 1) wr) (fun i _ => r - (intOf i).toNat)
    case atStart => exact ⟨0, by omega, rfl, I0.out⟩
    case round =>
      clear I0
      obtain ⟨j, hj, rfl, hI⟩ := hrel
      by_cases hlt : j < r - 1
      · have hlt' : (j : Int) < (r : Int) - 1 := by omega
        have slk : Sl wr.drew (.slice (some ⟨bk, 0, none⟩) 64 64) K := at_sl hI.key LK.out
        have slm : Sl wr.drew (.slice (some ⟨bm, 0, none⟩) 32 32) (mcs K salt n j) := at_sl (by have h := hI.mac; rw [Nat.add_sub_cancel] at h; exact h) (mcs_length K salt n j)
        have mac0 : At wr bm (u8s (mcs K salt n j)).toArray 25 := by have h := hI.mac; rw [Nat.add_sub_cancel] at h; exact h
        have hlit := fun (wx : World) (h : At wx bb (u8s (blk K salt n (j + 1))).toArray 25) => lit_any (blk K salt n (j + 1)) (mcs K salt n (j + 1)) (blk_length K salt n (j + 1)) (mcs_length K salt n (j + 1)) bb wx h
        obtain ⟨D, hD⟩ : ∃ D, D = (u8s (mcs K salt n (j + 1))).toArray := ⟨_, rfl⟩
        have hDs : D.size = 32 := by rw [hD]; simp [u8s, mcs_length]
        have hDo : D.all (·.oneCell') = true := by rw [hD]; exact u8s_one _
        have hone := fun (wx : World) (vp : Value) (hx : Sl wx (.slice (some ⟨bk, 0, none⟩) 64 64) K) (hb : Below w0.heap.size w0 wx) (h2 : Sls wx vp [mcs K salt n j]) => ONE.out wx vp j hx hb h2
        have m0s : (u8s (mcs K salt n j)).toArray.size = 32 := by simp [u8s, mcs_length]
        rw [← hD] at hlit hone
        have SLK := Lib.hid slk; have SLM := Lib.hid slm; have M0 := Lib.hid mac0; have LIT := Lib.hid hlit; have ON := Lib.hid hone; have DS := Lib.hid hDs; have DO := Lib.hid hDo; have HD := Lib.hid hD; have II := Lib.hid hI; have MS := Lib.hid m0s
        clear slk slm mac0 hlit hone hDs hDo hD hI m0s
        go_wp2_with fail
        refine wp_region_plan_in (fun w' => But bm wr w' ∧ Below w0.heap.size w0 w') (.take 0 (.take 1 (.sole 2 (.sole 3 (.sole 4 .done))))) (by kernel_rfl) (by kernel_rfl) (by kernel_rfl) ⟨⟨Nat.le_refl _, fun _ _ _ => rfl⟩, II.out.b.drew⟩ ?_
        refine plan_cut _ _ 64 5 bk 0 (by rfl) (by rfl) (by rfl) (by first | (with_reducible exact Mem.ev_const _ _) | (with_reducible exact Mem.ev_zero _ _ _) | (with_reducible (apply Eq.trans (Mem.ev_tmp _ _ _)); simp only [List.getD_cons_succ, List.getD_cons_zero] <;> rfl)) Tryd.underlying28 infoB ?_
        (simp only [Act.put, List.setIfInBounds_toArray, List.set_cons_zero, List.set_cons_succ])
        refine plan_cut _ _ 32 5 bm 0 (by rfl) (by rfl) (by rfl) (by first | (with_reducible exact Mem.ev_const _ _) | (with_reducible exact Mem.ev_zero _ _ _) | (with_reducible (apply Eq.trans (Mem.ev_tmp _ _ _)); simp only [List.getD_cons_succ, List.getD_cons_zero] <;> rfl)) Tryd.underlying25 infoB ?_
        (simp only [Act.put, List.setIfInBounds_toArray, List.set_cons_zero, List.set_cons_succ])
        have B : Hid (Below wr.heap.size wr wr.drew) := (Below.refl _ _).drew
        generalize wr.drew = W at *
        refine plan_slice 51 22 1 _ #[.slice (some ⟨bm, 0, none⟩) 32 32] (by rfl) (by rfl) (by rfl) Tryd.underlying51 (by kernel_rfl) ⟨(But.refl _ _).below (B.out.alloc B.out.size _), II.out.b.trans ((B.out.alloc B.out.size _).mono II.out.b.size)⟩ ?_
        have SLS := Lib.hid (sls_lit1 SLM.out)
        have SK := Lib.hid (SLK.out.below ((Below.refl _ _).alloc (Nat.le_refl _) (.cells #[.slice (some ⟨bm, 0, none⟩) 32 32] 22)))
        have B := Lib.hid (B.out.alloc B.out.size (.cells #[.slice (some ⟨bm, 0, none⟩) 32 32] 22))
        (simp only [Act.put, List.setIfInBounds_toArray, List.set_cons_zero, List.set_cons_succ])
        refine plan_call 16 _ _ _ (by kernel_rfl) (by rfl) (by rfl) (by rfl) (by first | exact Mem.ev_none _ | (simp only [List.map_toArray, List.map_cons, List.map_nil, Mem.ev_tmp, List.getD_cons_succ, List.getD_cons_zero] <;> rfl)) ?_
        refine (ON.out _ _ SK.out (II.out.b.trans (B.out.mono II.out.b.size)) SLS.out).mono ?_
        rintro e W ⟨rfl, hbn⟩
        have B := Lib.hid (B.out.trans (hbn.mono B.out.size))
        clear hbn
        refine ⟨_, rfl, ⟨(But.refl _ _).below B.out, II.out.b.trans (B.out.mono II.out.b.size)⟩, ?_⟩
        (simp only [Act.put, List.setIfInBounds_toArray, List.set_cons_zero, List.set_cons_succ])
        refine plan_store 25 _ _ bm D _ 25 (by rfl) (by rfl) (by rfl) (by rfl) (by first | (with_reducible exact Mem.ev_const _ _) | (with_reducible exact Mem.ev_zero _ _ _) | (with_reducible (apply Eq.trans (Mem.ev_tmp _ _ _)); simp only [List.getD_cons_succ, List.getD_cons_zero] <;> rfl)) (by first | (with_reducible exact Mem.ev_const _ _) | (with_reducible exact Mem.ev_zero _ _ _) | (with_reducible (apply Eq.trans (Mem.ev_tmp _ _ _)); simp only [List.getD_cons_succ, List.getD_cons_zero] <;> rfl)) (by rw [DS.out]; exact info32) (M0.out.below B.out M0.out.lt) (by rw [DS.out, MS.out]) DO.out ⟨((But.refl _ _).below B.out).row (by simp) (fun k hk => setRow_other _ _ _ _ hk), below_row (II.out.b.trans (B.out.mono II.out.b.size)) BM0.out D⟩ ?_
        refine plan_nil ?_
        have a3 : At (W.setRow bm D) bb (u8s (blk K salt n (j + 1))).toArray 25 := (II.out.acc.below B.out II.out.acc.lt).row_other D AM.out
        have k3 : At (W.setRow bm D) bk (u8s K).toArray 28 := (II.out.key.below B.out II.out.key.lt).row_other D KM.out
        have m3 : At (W.setRow bm D) bm D 25 := (M0.out.below B.out M0.out.lt).row D
        have b3 : Below w0.heap.size w0 (W.setRow bm D) := below_row (II.out.b.trans (B.out.mono II.out.b.size)) BM0.out D
        have t3 : But bb w (W.setRow bm D) := But.over II.out.bt (((But.refl bm wr).below B.out).row (by simp) (fun k hk => setRow_other _ _ _ _ hk)) BMW.out
        have A3 := Lib.hid a3; have K3 := Lib.hid k3; have M3 := Lib.hid m3; have B3 := Lib.hid b3; have T3 := Lib.hid t3
        clear a3 k3 m3 b3 t3
        generalize W.setRow bm D = W3 at *
        go_wp2_with (refine wpList_load_all (by rfl) 25 _ (by rfl) bm (by rfl) _ Tryd.underlying25 (by rfl) D _ M3.out (by rw [DS.out]; exact info32) ?_)
        refine (LIT.out _ A3.out).mono ?_
        rintro e w4 ⟨rfl, ha4, hb4, hbl4⟩
        have I4 : Hid (EInv K salt n w0 w bb bk bm (j + 1 + 1) w4) := ⟨ha4, K3.out.but hb4 KA.out, by rw [Nat.add_sub_cancel, ← HD.out]; exact M3.out.but hb4 (Ne.symm AM.out), hbl4 _ _ B3.out HBB.out B3.out.size, But.same T3.out hb4⟩
        clear ha4 hb4 hbl4
        go_wp2_with fail
        go_roundw
        case rel => exact ⟨j + 1, by omega, by go_num, I4.out⟩
        case measure => simp [intOf]; omega
      · have hjr : j + 1 = r := by omega
        have hge : ¬ (j : Int) < (r : Int) - 1 := by omega
        rw [hjr] at hI
        have II := Lib.hid hI
        clear hI hjr hlt hj
        go_wp2_with fail
        go_end0
        exact ⟨rfl, II.out.acc, II.out.b, II.out.bt⟩
end Sha
end Go.Proofs.YtngegegomkclbaaDoor
namespace Go.Proofs.YtngegegomkclbaaDoor
namespace Sha
open Go.RowKit Mem
def bkOf (k salt : List (BitVec 8)) (n : BitVec 32) (r : Nat) : Array Value := (u8s (blk k salt n r)).toArray
theorem bkOf_size (k salt : List (BitVec 8)) (n : BitVec 32) (r : Nat) : (bkOf k salt n r).size = 32 := by simp [bkOf, u8s, blk_length]
theorem bkOf_one (k salt : List (BitVec 8)) (n : BitVec 32) (r : Nat) : (bkOf k salt n r).all (·.oneCell') = true := u8s_one _
set_option maxRecDepth 100000 in
set_option maxHeartbeats 1000000 in
theorem joined_any (K salt : List (BitVec 8)) (n : BitVec 32) (r : Nat) (vs : Value) (w : World) (lK : K.length = 64) (hr1 : 1 ≤ r) (hr2 : r ≤ 10000) (ls : salt.length ≤ 1099511627776) (hs : Sl w vs salt) (hL : Tabs w) :
    Calls Tryd.prog 41 #[.agg (u8s K).toArray, vs, .int .i64 (r : Int), .int .u32 (V n)] w fun e w' => e = .returned (.agg (bkOf K salt n r)) ∧ Below w.heap.size w w' := by
  have hmf : ∀ (fn : Fn) (first cap : Array Value) (w : World), (Instr.makeFunc fn first cap).run Tryd.prog w = .ok (.func fn first cap) w := fun _ _ _ _ => rfl
  obtain ⟨F, hF⟩ : ∃ F, F = (u8s K).toArray := ⟨_, rfl⟩
  have hFs : F.size = 64 := by rw [hF]; simp [u8s, lK]
  obtain ⟨X, hX⟩ : ∃ X, X = Z32 := ⟨_, rfl⟩
  have hx := zero32
  rw [← hX] at hx
  have hXs : X.size = 32 := by rw [hX]; simp [Z32, u8s]
  obtain ⟨M, hM⟩ : ∃ M, M = bkOf K salt n r := ⟨_, rfl⟩
  have hMs : M.size = 32 := by rw [hM]; exact bkOf_size _ _ _ _
  have hMo : M.all (·.oneCell') = true := by rw [hM]; exact bkOf_one _ _ _ _
  have f3 : At (((w.alloc (.cells F 28)).alloc (.cells X 25)).alloc (.cells X 25)) w.heap.size F 28 := ((at_new w F _).alloc _).alloc _
  have r3 : At (((w.alloc (.cells F 28)).alloc (.cells X 25)).alloc (.cells X 25)) (w.heap.size + 1) X 25 := by
    have h := (at_new (w.alloc (.cells F 28)) X 25).alloc (.cells X 25)
    simpa using h
  have k3 : At (((w.alloc (.cells F 28)).alloc (.cells X 25)).alloc (.cells X 25)) (w.heap.size + 1 + 1) X 25 := by
    have h := at_new ((w.alloc (.cells F 28)).alloc (.cells X 25)) X 25
    simpa using h
  have b3 : Below w.heap.size w (((w.alloc (.cells F 28)).alloc (.cells X 25)).alloc (.cells X 25)) := (((Below.refl _ _).alloc (Nat.le_refl _) _).alloc (by simp) _).alloc (by simp; omega) _
  have hea := each_any K salt n r vs (w.heap.size + 1 + 1) w (((w.alloc (.cells F 28)).alloc (.cells X 25)).alloc (.cells X 25)) lK hr1 hr2 ls hs hL b3 (by omega) (by rw [show (u8s (List.replicate 32 0)).toArray = X by rw [hX]; rfl]; exact k3)
  rw [← hF] at hea
  rw [show (u8s (blk K salt n r)).toArray = M from hM.symm] at hea
  rw [← hF, ← hM]
  have EA := Lib.hid hea; have FS := Lib.hid hFs; have XS := Lib.hid hXs; have MS := Lib.hid hMs; have MO := Lib.hid hMo; have F3 := Lib.hid f3; have R3 := Lib.hid r3
  clear hea hFs hXs hMs hMo f3 r3 k3 b3 hF hX hM hs hL lK ls
  go_enter Tryd.func41, Tryd.ntmps41
  go_wp2_with (refine wpList_load_all (by rfl) 28 _ (by rfl) w.heap.size (by rfl) _ Tryd.underlying28 (by rfl) F _ F3.out (by rw [FS.out]; exact infoK) ?_)
  refine EA.out.mono ?_
  rintro e w4 ⟨rfl, ha4, hb4, ht4⟩
  have A4 := Lib.hid ha4; have B4 := Lib.hid hb4; have R4 := Lib.hid (R3.out.but ht4 (by omega))
  clear ha4 hb4 ht4 EA F3 R3
  go_wp2_with (first | (refine wpList_load_all (by rfl) 25 _ (by rfl) (w.heap.size + 1 + 1) (by rfl) _ Tryd.underlying25 (by rfl) M _ A4.out (by rw [MS.out]; exact info32) ?_) | (refine wpList_store_all (by rfl) 25 _ _ (by rfl) (by rfl) (w.heap.size + 1) M (by rfl) (by rfl) (by rw [MS.out]; exact info32) _ _ R4.out (by rw [MS.out, XS.out]) MO.out ?_))
  try simp only [Exit.inBlock, Exit.then]
  refine ret_row (by rfl) (w.heap.size + 1) 25 M _ (by rfl) (R4.out.row M) Tryd.underlying25 (by rfl) (by rw [MS.out]; exact info32) ?_
  exact ⟨rfl, below_row B4.out (by omega) M⟩
/-- May there be so many rounds? -/
def roundsB (r : Int) : Bool := decide (1 ≤ r) && decide (r ≤ 10000)
set_option maxHeartbeats 400000 in
theorem areRounds_any (r : Int) (w : World) : Calls Tryd.prog 40 #[.int .i64 r] w fun e w' => e = .returned (.bool (roundsB r)) ∧ w = w' := by
  by_cases h1 : 1 ≤ r
  · by_cases h2 : r ≤ 10000
    · have e : Hid (roundsB r = true) := by simp [Hid, roundsB, h1, h2]
      go_enter Tryd.func40, Tryd.ntmps40
      go_wp2
      go_ret
      exact ⟨by rw [e.out]; rfl, rfl⟩
    · have e : Hid (roundsB r = false) := by simp [Hid, roundsB, h2]
      go_enter Tryd.func40, Tryd.ntmps40
      go_wp2
      go_ret
      exact ⟨by rw [e.out]; rfl, rfl⟩
  · have e : Hid (roundsB r = false) := by simp [Hid, roundsB, h1]
    go_enter Tryd.func40, Tryd.ntmps40
    go_wp2
    go_ret
    exact ⟨by rw [e.out]; rfl, rfl⟩
end Sha
end Go.Proofs.YtngegegomkclbaaDoor
