/- My own texts, merged. -/
import Derived.Test.YtahcjnganedbiaaGreatDoorBN33
import Derived.Test.YtahcjnganedbiaaGreatDoorBN15
import Derived.Test.YtahcjnganedbiaaGreatDoorBN01
import Derived.Test.YtahcjnganedbiaaGreatDoorBN09
import Derived.Test.YtahcjnganedbiaaGreatDoorBN21
import Derived.Test.YtahcjnganedbiaaGreatDoorBN34
import Derived.Test.YtahcjnganedbiaaGreatDoorBN04
import Derived.Test.YtahcjnganedbiaaGreatDoorBN14
import Derived.Great.Walk
import Derived.OwnWalk
import Derived.Deep.DeepCutAuto
import Derived.Test.YtahcjnganedbiaaGreatDoorBN22
import Derived.Lib.SlBytesConst
import Derived.Test.YtahcjnganedbiaaGreatDoorBN25
import Derived.Test.YtahcjnganedbiaaGreatDoorBN20
namespace Go.Proofs.YtahcjnganedbiaaGreatDoor
namespace Sha
open Go.RowKit Mem
def ksr (key nonce : List (BitVec 8)) (n : BitVec 32) (size j : Nat) : List (BitVec 8) := (cblks key nonce n j).take size ++ List.replicate (size - 64 * j) 0
theorem ksr_length (key nonce : List (BitVec 8)) (n : BitVec 32) (size j : Nat) : (ksr key nonce n size j).length = size := by
 simp [ksr, cblks_length]; omega
theorem ksr_splice (key nonce : List (BitVec 8)) (n : BitVec 32) (size j : Nat) (h : 64 * j < size) :
 Mem.splice (u8s (ksr key nonce n size j)).toArray (64 * j) (u8s ((cblk key nonce (n + BitVec.ofNat 32 j)).take (min 64 (size - 64 * j)))) = (u8s (ksr key nonce n size (j + 1))).toArray := by
 have e0 : ksr key nonce n size j = cblks key nonce n j ++ List.replicate (size - 64 * j) 0 := by
  rw [ksr, List.take_of_length_le (by rw [cblks_length]; omega)]
 have lb := cblks_length key nonce n j
 have lk := cblk_length key nonce (n + BitVec.ofNat 32 j)
 have e1 : ksr key nonce n size (j + 1) = cblks key nonce n j ++ (cblk key nonce (n + BitVec.ofNat 32 j)).take (min 64 (size - 64 * j)) ++ List.replicate (size - 64 * j - min 64 (size - 64 * j)) 0 := by
  rw [ksr, cblks, List.take_append, lb, List.take_of_length_le (by omega)]
  congr 2
  ·by_cases h32 : 64 ≤ size - 64 * j
   ·rw [Nat.min_eq_left h32, List.take_of_length_le (by omega), List.take_of_length_le (by omega)]
   ·rw [Nat.min_eq_right (by omega)]
  ·omega
 rw [e0, e1]
 unfold Mem.splice u8s
 rw [List.map_append, List.map_append, List.map_append]
 have h1 : (List.map (fun x : BitVec 8 => Value.int .u8 (x.toNat : Int)) (cblks key nonce n j)).length = 64 * j := by simp [lb]
 congr 1
 rw [List.take_left' h1]
 congr 1
 rw [List.length_map, List.length_take, lk, List.drop_append, h1, List.drop_of_length_le (by omega), List.nil_append, ← List.map_drop, List.drop_replicate]
 congr 2
 omega
theorem ksr_zero (key nonce : List (BitVec 8)) (n : BitVec 32) (size : Nat) : ksr key nonce n size 0 = List.replicate size 0 := by simp [ksr, cblks]
theorem ksr_all (key nonce : List (BitVec 8)) (n : BitVec 32) (size j : Nat) (h : size ≤ 64 * j) : ksr key nonce n size j = cstream key nonce n size := by
 rw [ksr, cstream_from key nonce n size j h, Nat.sub_eq_zero_of_le h, List.replicate_zero, List.append_nil]
theorem V_up (n : BitVec 32) (j : Nat) : (V (n + BitVec.ofNat 32 j) + 1) % (4294967296 : Int) = V (n + BitVec.ofNat 32 (j + 1)) := by
 rw [show (1 : Int) = V 1 from rfl, r_add]
 congr 1
 rw [BitVec.add_assoc]
 congr 1
 apply BitVec.eq_of_toNat_eq
 simp
structure CSInv (key nonce : List (BitVec 8)) (n : BitVec 32) (size : Nat) (C D : Array Value) (w : World) (j : Nat) (wr : World) : Prop where
 row : At wr (w.heap.size + 1 + 1) (u8s (ksr key nonce n size j)).toArray 5
 c : At wr w.heap.size C 61
 d : At wr (w.heap.size + 1) D 173
 b : Below w.heap.size w wr
def StRel (key nonce : List (BitVec 8)) (n : BitVec 32) (size : Nat) (C D : Array Value) (w : World) (vn vl : Value) (wr : World) : Prop :=
 ∃ j : Nat, 64 * j ≤ size + 63 ∧ vn = .int .u32 (V (n + BitVec.ofNat 32 j)) ∧ (∃ a c, vl = .slice a (size - 64 * j) c ∧ (64 * j < size → a = some ⟨w.heap.size + 1 + 1, 64 * j, none⟩ ∧ c = size - 64 * j)) ∧ CSInv key nonce n size C D w j wr
set_option maxRecDepth 100000 in
set_option maxHeartbeats 2000000 in
theorem stream_good (key nonce : List (BitVec 8)) (n : BitVec 32) (size : Nat) (lk : key.length = 32) (ln : nonce.length = 12) (hz : size ≤ 1048576) (w : World) (hL : CTabs w) :
 Calls Tryz.prog 149 #[.agg (u8s key).toArray, .agg (u8s nonce).toArray, .int .u32 (V n), .int .i64 (size : Int)] w (SEnd w (cstream key nonce n size)) := by
 obtain ⟨X, hX⟩ : ∃ X, X = CZ64 := ⟨_, rfl⟩
 have hx := czero64
 rw [← hX] at hx
 have hXs : X.size = 64 := by rw [hX]; simp [CZ64, u8s]
 have hbl := fun (m : BitVec 32) wx (h : Below w.heap.size w wx) => blk_any key nonce m lk ln wx (hL.below h (Nat.le_refl _))
 obtain ⟨C, hC⟩ : ∃ C, C = (u8s key).toArray := ⟨_, rfl⟩
 obtain ⟨D, hD⟩ : ∃ D, D = (u8s nonce).toArray := ⟨_, rfl⟩
 have hCs : C.size = 32 := by rw [hC]; simp [u8s, lk]
 have hDs : D.size = 12 := by rw [hD]; simp [u8s, ln]
 rw [← hC, ← hD] at hbl
 rw [← hC, ← hD]
 obtain ⟨i8, hi8, hz8, hs8, hb8⟩ := info_parts infoU8
 have h0 : ¬ (size : Int) < 0 := by omega
 have h1 : ¬ (1048576 : Int) < (size : Int) := by omega
 have aC : At ((w.alloc (.cells C 61)).alloc (.cells D 173)) w.heap.size C 61 := (at_new w C _).alloc _
 have aD : At ((w.alloc (.cells C 61)).alloc (.cells D 173)) (w.heap.size + 1) D 173 := by
  have h := at_new (w.alloc (.cells C 61)) D 173
  simpa using h
 have aB : Below w.heap.size w ((w.alloc (.cells C 61)).alloc (.cells D 173)) := ((Below.refl _ _).alloc (Nat.le_refl _) _).alloc (by simp) _
 have BL := zh hbl; have XS := zh hXs; have CS := zh hCs; have DS := zh hDs; have I8 := zh hi8; have Z8 := zh hz8; have S8 := zh hs8; have B8' := zh hb8; have AC := zh aC; have AD := zh aD; have AB := zh aB
 clear hbl hXs hCs hDs hi8 hz8 hs8 hb8 aC aD aB hX hC hD lk ln hL
 go_enter Tryz.func149, Tryz.ntmps149
 go_wp2_with (refine wpList_make_full _ zr _ _ 36 zr ((w.alloc (.cells C 61)).alloc (.cells D 173)).heap.size 5 i8 (.int .u8 0) 1 Tryz.underlying36 I8.out Z8.out S8.out .i64 .i64 _ _ size zr zr rfl rfl (by rw [B8'.out]; omega) (by simp [maxLen]; omega) (Nat.le_refl _) ?_; intro w4 ho4 hg4; have O4 := zh ho4; have G4 := zh hg4; clear ho4 hg4)
 have row0 : At w4 (w.heap.size + 1 + 1) (u8s (ksr key nonce n size 0)).toArray 5 := by
  rw [ksr_zero]
  have h := own_full O4.out
  rw [made_zeros] at h
  simpa using h
 have key0 : ∀ b E t, At ((w.alloc (.cells C 61)).alloc (.cells D 173)) b E t → At w4 b E t := fun b E t h => by
  have hl := h.lt
  unfold At at *
  rw [G4.out.block b hl (by simp)]; exact h
 have b40 : Below w.heap.size w w4 := AB.out.grown G4.out AB.out.size (fun _ h => by cases h)
 have I0 : Hid (CSInv key nonce n size C D w 0 w4) := ⟨row0, key0 _ _ _ AC.out, key0 _ _ _ AD.out, b40⟩
 have N0 : Hid (V n = V (n + BitVec.ofNat 32 0)) := by show V n = V (n + BitVec.ofNat 32 0); simp
 clear row0 key0 b40 O4 G4 I8 Z8 S8 B8' AC AD AB h0 h1
 generalize ((w.alloc (.cells C 61)).alloc (.cells D 173)).heap.size = bx at *
 go_loopw [2, 10, 11] (fun vn vl _ wr => StRel key nonce n size C D w vn vl wr) (fun _ vl _ _ => (match vl with | .slice _ l _ => l | _ => 0))
 case atStart => exact ⟨0, by omega, by rw [N0.out], ⟨some ⟨w.heap.size + 1 + 1, 0, none⟩, size, by simp, fun _ => ⟨by simp, by simp⟩⟩, I0.out⟩
 case round =>
  clear I0 N0
  obtain ⟨j, hj, rfl, ⟨al, cl, rfl, hal⟩, hI⟩ := hrel
  obtain ⟨q, hq⟩ : ∃ q, q = size - 64 * j := ⟨_, rfl⟩
  rw [← hq] at hal ⊢
  by_cases hlt : 64 * j < size
  ·obtain ⟨rfl, hcq⟩ := hal hlt
   rw [hcq]
   clear hcq
   have hq0 : (q : Int) > 0 := by omega
   obtain ⟨k, hk⟩ : ∃ k, k = min 64 (size - 64 * j) := ⟨_, rfl⟩
   have hsp := ksr_splice key nonce n size j hlt
   rw [← hk] at hsp
   have hkq : k ≤ q := by omega
   have hk64 : k = min 64 q := by omega
   obtain ⟨N, hN⟩ : ∃ N, N = n + BitVec.ofNat 32 j := ⟨_, rfl⟩
   have hN2 : (V N + 1) % (4294967296 : Int) = V (n + BitVec.ofNat 32 (j + 1)) := by rw [hN]; exact V_up n j
   have hjo := BL.out N
   rw [← hN] at hsp ⊢
   obtain ⟨T, hT⟩ : ∃ T, T = cblk key nonce N := ⟨_, rfl⟩
   have hTl : T.length = 64 := by rw [hT]; exact cblk_length _ _ _
   unfold cbOf at hjo
   rw [← hT] at hjo hsp
   obtain ⟨F, hF⟩ : ∃ F, F = (u8s T).toArray := ⟨_, rfl⟩
   have hFs : F.size = 64 := by rw [hF]; simp [u8s, hTl]
   have hFo : F.all (·.oneCell') = true := by rw [hF]; exact u8s_one _
   rw [← hF] at hjo
   have hrs : (u8s (ksr key nonce n size j)).toArray.size = size := by simp [u8s, ksr_length]
   have II := zh hI; have SP := zh hsp; have JJ := zh hjo; have N2 := zh hN2; have TL := zh hTl; have HF := zh hF; have FS := zh hFs; have FO := zh hFo; have HK := zh hk64; have KQ := zh hkq; have RS := zh hrs; have HQ := zh hq
   clear hI hsp hjo hN2 hTl hF hFs hFo hk64 hkq hk hrs hT hN hal hq
   go_wp2_with (first
    | (refine wpList_load_all zr 61 _ zr w.heap.size zr _ Tryz.underlying61 zr C _ II.out.c (by rw [CS.out]; exact info32b) ?_)
    | (refine wpList_load_all zr 173 _ zr (w.heap.size + 1) zr _ Tryz.underlying173 zr D _ II.out.d (by rw [DS.out]; exact info12) ?_)
    | (go_at_call 162; refine (JJ.out _ II.out.b).mono ?_; rintro e w5 ⟨rfl, hb5⟩; have R5 := zh (II.out.row.below hb5 II.out.row.lt); have C5 := zh (II.out.c.below hb5 II.out.c.lt); have D5 := zh (II.out.d.below hb5 II.out.d.lt); have B5 := zh (II.out.b.trans (hb5.mono II.out.b.size)); clear hb5)
    | (refine wpList_store_new zr 217 _ _ zr zr F _ _ zr zr (by rw [FS.out]; exact cinfo64) (by rw [FS.out, XS.out]) FO.out ?_; have F6 := zh (at_new w5 F 217); have R6 := zh (R5.out.alloc (.cells F 217)); have C6 := zh (C5.out.alloc (.cells F 217)); have D6 := zh (D5.out.alloc (.cells F 217)); have B6 := zh (B5.out.alloc B5.out.size (.cells F 217)); generalize w5.alloc (.cells F 217) = w6 at *; generalize w5.heap.size = bg at *)
    | (refine wpList_copy_sl zr _ _ zr (w.heap.size + 1 + 1) (64 * j) q q (.slice (some ⟨bg, 0, none⟩) 64 64) T zr zr (at_sl (by have h := F6.out; rw [HF.out] at h; exact h) TL.out) k (by rw [TL.out]; exact HK.out) _ _ R6.out (by have := HQ.out; have := KQ.out; rw [RS.out]; omega) _ SP.out ?_; intro w7 ha7 hs7 ho7 hbb7; have R7 := zh ha7; have C7 := zh (at_keep C6.out ho7 (by omega)); have D7 := zh (at_keep D6.out ho7 (by omega)); have B7 := zh (hbb7 _ _ B6.out (by omega)); clear ha7 hs7 ho7 hbb7)
    | (refine wpList_slice_low zr _ _ _ zr 5 Tryz.underlying36 infoB (some ⟨w.heap.size + 1 + 1, 64 * j, none⟩) q q k zr zr KQ.out ?_; intro a8 ha8; have A8 := zh ha8; clear ha8))
   rw [N2.out]
   go_roundw
   case rel =>
    have hq := HQ.out
    have hk := HK.out
    refine ⟨j + 1, by omega, rfl, ⟨a8, q - k, by rw [show size - 64 * (j + 1) = q - k by omega], fun h => ⟨by rw [A8.out _ _ rfl (by omega), show 64 * j + k = 64 * (j + 1) by omega], by omega⟩⟩, R7.out, C7.out, D7.out, B7.out⟩
   case measure => simp only; have := HK.out; omega
  ·have hq0 : q = 0 := by omega
   have hall := ksr_all key nonce n size j (by omega)
   have hrow := hI.row
   rw [hall] at hrow
   have hge : ¬ (q : Int) > 0 := by omega
   have RW := zh hrow; have BB := zh hI.b
   clear hrow hI hall hq0 hal hq hlt
   go_wp2_with fail
   go_ret
   exact ⟨w.heap.size + 1 + 1, by rw [cstream_length]; rfl, RW.out, by omega, BB.out⟩
theorem cturn_joinB (b s : List (BitVec 8)) (h : b.length = s.length) : cturn b s = joinB b s := by
 rw [cturn, ← h, List.drop_length, List.append_nil]; rfl
theorem splice_full (l : List (BitVec 8)) (n : Nat) (h : l.length = n) : Mem.splice (u8s (List.replicate n 0)).toArray 0 (u8s (l.take n)) = (u8s l).toArray := by
 subst h
 rw [List.take_length]
 have h1 : List.drop (0 + (u8s l).length) (u8s (List.replicate l.length 0)).toArray.toList = [] := List.drop_of_length_le (by simp [u8s])
 unfold Mem.splice
 rw [h1, List.take_zero, List.nil_append, List.append_nil]
theorem two_made {w w4 : World} {C D : Array Value} {m : Nat} (ho : w4.ownsRow ((w.alloc (.cells C 61)).alloc (.cells D 173)).heap.size 5 1 (.slice (some ⟨((w.alloc (.cells C 61)).alloc (.cells D 173)).heap.size, 0, none⟩) m m) m (madeCells (Value.int .u8 0).cells (m * 1)).toList)
 (hg : World.grownBy ((w.alloc (.cells C 61)).alloc (.cells D 173)) w4 none) :
 At w4 (w.heap.size + 1 + 1) (u8s (List.replicate m 0)).toArray 5 ∧ At w4 w.heap.size C 61 ∧ At w4 (w.heap.size + 1) D 173 ∧ Below w.heap.size w w4 := by
 have aC : At ((w.alloc (.cells C 61)).alloc (.cells D 173)) w.heap.size C 61 := (at_new w C _).alloc _
 have aD : At ((w.alloc (.cells C 61)).alloc (.cells D 173)) (w.heap.size + 1) D 173 := by
  have h := at_new (w.alloc (.cells C 61)) D 173
  simpa using h
 have aB : Below w.heap.size w ((w.alloc (.cells C 61)).alloc (.cells D 173)) := ((Below.refl _ _).alloc (Nat.le_refl _) _).alloc (by simp) _
 have key0 : ∀ b E t, At ((w.alloc (.cells C 61)).alloc (.cells D 173)) b E t → At w4 b E t := fun b E t h => by
  have hl := h.lt
  unfold At at *
  rw [hg.block b hl (by simp)]; exact h
 refine ⟨?_, key0 _ _ _ aC, key0 _ _ _ aD, aB.grown hg aB.size (fun _ h => by cases h)⟩
 have h := own_full ho
 rw [made_zeros] at h
 simpa using h
structure TuInv (L s : List (BitVec 8)) (g : Nat) (w wr : World) : Prop where
 row : At wr (w.heap.size + 1 + 1) (u8s L).toArray 5
 st : At wr g (u8s s).toArray 5
 b : Below w.heap.size w wr
set_option maxRecDepth 100000 in
set_option maxHeartbeats 2000000 in
theorem turned_any (key nonce : List (BitVec 8)) (n : BitVec 32) (l : List (BitVec 8)) (v : Value) (lk : key.length = 32) (ln : nonce.length = 12) (hz : l.length ≤ 1048576) (w : World) (hv : Sl w v l) (hL : CTabs w) :
 Calls Tryz.prog 131 #[.agg (u8s key).toArray, .agg (u8s nonce).toArray, .int .u32 (V n), v] w (SEnd w (cturn l (cstream key nonce n l.length))) := by
 have hst := fun wx (h : Below w.heap.size w wx) => stream_good key nonce n l.length lk ln hz wx (hL.below h (Nat.le_refl _))
 obtain ⟨s, hs⟩ : ∃ s, s = cstream key nonce n l.length := ⟨_, rfl⟩
 have ls : s.length = l.length := by rw [hs]; exact cstream_length _ _ _ _
 rw [← hs] at hst ⊢
 rw [cturn_joinB l s ls.symm]
 have hv0 := hv
 obtain ⟨a0, cap, rfl, _, _⟩ := hv
 have hsp := splice_full l l.length rfl
 have jl := joinTo_length l s ls.symm
 have jz := joinTo_zero l s
 have ja := joinTo_all l s ls.symm
 have jg := fun j hj => joinTo_get l s ls.symm j hj
 have js := fun j hj => joinTo_set l s ls.symm j hj
 have jB := joinB_length l s ls.symm
 obtain ⟨m, hm⟩ : ∃ m, m = l.length := ⟨_, rfl⟩
 rw [← hm] at hst hsp jl ja jg js jB ls hz hv0 ⊢
 have hmin : min (m : Int) 1048576 = (m : Int) := by omega
 have hmle : (m : Int) ≤ 1048576 := by omega
 have hmlt : ¬ (1048576 : Int) < (m : Int) := by omega
 obtain ⟨C, hC⟩ : ∃ C, C = (u8s key).toArray := ⟨_, rfl⟩
 obtain ⟨D, hD⟩ : ∃ D, D = (u8s nonce).toArray := ⟨_, rfl⟩
 have hCs : C.size = 32 := by rw [hC]; simp [u8s, lk]
 have hDs : D.size = 12 := by rw [hD]; simp [u8s, ln]
 rw [← hC, ← hD] at hst
 rw [← hC, ← hD]
 obtain ⟨i8, hi8, hz8, hs8, hb8⟩ := info_parts infoU8
 have ST := zh hst; have CS := zh hCs; have DS := zh hDs; have I8 := zh hi8; have Z8 := zh hz8; have S8 := zh hs8; have B8' := zh hb8; have HV := zh hv0; have SP := zh hsp
 have JL := zh jl; have JZ := zh jz; have JA := zh ja; have JG := zh jg; have JS := zh js; have JB := zh jB; have LS := zh ls; have HM := zh hm
 clear hst hCs hDs hi8 hz8 hs8 hb8 hC hD lk ln hL hv0 hsp jl jz ja jg js jB ls hm hs
 go_enter Tryz.func131, Tryz.ntmps131
 go_wp2_with (first
  | (refine wpList_make_full _ zr _ _ 36 zr ((w.alloc (.cells C 61)).alloc (.cells D 173)).heap.size 5 i8 (.int .u8 0) 1 Tryz.underlying36 I8.out Z8.out S8.out .i64 .i64 _ _ m zr zr rfl rfl (by rw [B8'.out]; omega) (by simp [maxLen]; omega) (Nat.le_refl _) ?_; intro w4 ho4 hg4; have hf := two_made ho4 hg4; have R4 := zh hf.1; have C4 := zh hf.2.1; have D4 := zh hf.2.2.1; have B4 := zh hf.2.2.2; clear ho4 hg4 hf)
  | (refine wpList_copy_sl zr _ _ zr (w.heap.size + 1 + 1) 0 m m (.slice a0 m cap) l zr zr (HV.out.below B4.out) m (by rw [← HM.out]; exact (Nat.min_self m).symm) _ _ R4.out (by simp [u8s]) _ SP.out ?_; intro w5 ha5 hs5 ho5 hbb5; have R5 := zh ha5; have C5 := zh (at_keep C4.out ho5 (by omega)); have D5 := zh (at_keep D4.out ho5 (by omega)); have B5 := zh (hbb5 _ _ B4.out (by omega)); clear ha5 hs5 ho5 hbb5)
  | (refine wpList_load_all zr 61 _ zr w.heap.size zr _ Tryz.underlying61 zr C _ C5.out (by rw [CS.out]; exact info32b) ?_)
  | (refine wpList_load_all zr 173 _ zr (w.heap.size + 1) zr _ Tryz.underlying173 zr D _ D5.out (by rw [DS.out]; exact info12) ?_))
 refine (ST.out _ B5.out).mono ?_
 rintro e w6 ⟨g, rfl, hg6, hgl, hb6⟩
 rw [LS.out]
 have I6 : Hid (TuInv (joinTo l s 0) s g w w6) := ⟨by rw [JZ.out]; exact R5.out.below hb6 R5.out.lt, hg6, B5.out.trans (hb6.mono B5.out.size)⟩
 have GNE : Hid (w.heap.size + 1 + 1 ≠ g) := by have := R5.out.lt; show w.heap.size + 1 + 1 ≠ g; omega
 have GLE : Hid (w.heap.size ≤ g) := Nat.le_trans B5.out.size hgl
 clear hg6 hgl hb6 R4 C4 D4 B4 R5 C5 D5 B5 ST HV SP
 go_wp2_with fail
 go_loopw [10, 11, 26] (fun _ _ i wr => ∃ j : Nat, j ≤ m ∧ i = .int .i64 j ∧ TuInv (joinTo l s j) s g w wr) (fun _ _ i _ => m - (intOf i).toNat)
 case atStart => exact ⟨0, by omega, rfl, I6.out⟩
 case round =>
  clear I6
  obtain ⟨j, hj, rfl, hI⟩ := hrel
  by_cases hlt : j < m
  ·obtain ⟨x, hxx⟩ : ∃ x, x = l.getD j 0 := ⟨_, rfl⟩
   obtain ⟨y, hyy⟩ : ∃ y, y = s.getD j 0 := ⟨_, rfl⟩
   have cj : wr.cell? ⟨w.heap.size + 1 + 1, j, none⟩ = some (.int .u8 (B8 x)) := by
    rw [hI.row.cell, List.getElem?_toArray, u8s_get _ _ (by rw [JL.out]; exact hlt), JG.out j hlt, hxx]; rfl
   have dj : wr.cell? ⟨g, j, none⟩ = some (.int .u8 (B8 y)) := by
    rw [hI.st.cell, List.getElem?_toArray, u8s_get _ _ (by rw [LS.out]; exact hlt), hyy]; rfl
   have hset : (u8s (joinTo l s j)).toArray.setIfInBounds j (.int .u8 (B8 (x ^^^ y))) = (u8s (joinTo l s (j + 1))).toArray := by
    rw [← JS.out j hlt, ← hxx, ← hyy]; exact u8s_set _ _ _
   have hEs : j < (u8s (joinTo l s j)).toArray.size := by rw [List.size_toArray, u8s_length, JL.out]; exact hlt
   have hk := hI.row
   obtain ⟨E, hE⟩ : ∃ E, E = (u8s (joinTo l s j)).toArray := ⟨_, rfl⟩
   rw [← hE] at hk hset hEs
   have KK := zh hk; have ST := zh hset; have DS := zh hEs; have SS := zh hI.st; have BB := zh hI.b
   have hlt' : (j : Int) < (m : Int) := by omega
   clear hk hset hEs hI hE hxx hyy
   go_wp2_with (refine Mem.wpList_store_one zr 5 _ _ zr zr (w.heap.size + 1 + 1) j (.int .u8 (B8 (x ^^^ y))) zr (by exact congrArg (Value.int .u8) (B8_xor x y)) zr infoB _ _ KK.out DS.out ?_; intro w7 a7 o7 b7; have K7 := zh a7; have S7 := zh (at_keep SS.out o7 (Ne.symm GNE.out)); have B7 := zh (b7 _ _ BB.out (by omega)); clear a7 o7 b7)
   go_roundw
   case rel => exact ⟨j + 1, by omega, by go_num, by rw [← ST.out]; exact K7.out, S7.out, B7.out⟩
   case measure => simp [intOf]; omega
  ·have hjm : j = m := by omega
   have hge : ¬ (j : Int) < (m : Int) := by omega
   rw [hjm, JA.out] at hI
   have II := zh hI
   clear hI hjm hlt hj
   go_wp2_with fail
   go_ret
   exact ⟨w.heap.size + 1 + 1, by rw [JB.out]; rfl, II.out.row, by omega, II.out.b⟩
end Sha
end Go.Proofs.YtahcjnganedbiaaGreatDoor
namespace Go.Proofs.YtahcjnganedbiaaGreatDoor
namespace Mem
open Go.RowKit
theorem OwnV.set {w : World} {B : Nat} {e : TypeId} {v : Value} {xs : List Value} (h : OwnV w B e v xs) (i : Nat) (u : Value) (hi : i < xs.length) :
 ∃ g cap C, v = .slice (some ⟨g, 0, none⟩) xs.length cap ∧ B ≤ g ∧ At w g C e ∧ i < C.size ∧ ∀ w', At w' g (C.setIfInBounds i u) e → OwnV w' B e v (xs.set i u) := by
 obtain ⟨_, h | ⟨g, cap, cur, rfl, hg, hh, hn, hc, hs, ht⟩⟩ := h
 ·obtain ⟨_, h0⟩ := h
  omega
 ·refine ⟨g, cap, cur, rfl, hg, hh, by rw [hs]; omega, fun w' hw' => ⟨by simp, .inr ⟨g, cap, cur.setIfInBounds i u, by rw [List.length_set], hg, hw', by rw [List.length_set]; exact hn, hc, by rw [Array.size_setIfInBounds]; exact hs, ?_⟩⟩⟩
  rw [List.length_set, Array.toList_setIfInBounds, List.take_set, ht]
end Mem
namespace Sha
open Go.RowKit Mem
end Sha
end Go.Proofs.YtahcjnganedbiaaGreatDoor
namespace Go.Proofs.YtahcjnganedbiaaGreatDoor
namespace Sha
open Go.RowKit Mem
theorem conv_i64u (z : Int) (bb : BitVec 64) (hb : bb = BitVec.ofNat 64 z.toNat) (h0 : 0 ≤ z) (h1 : z ≤ 9223372036854775807) (w : World) : (convert 3 169 (.int .i64 z)).run Tryz.prog w = .ok (.int .u64 (bb.toNat : Int)) w := by
 have e : (bb.toNat : Int) = z := by rw [hb, BitVec.toNat_ofNat]; omega
 rw [e]
 have h2 : IntKind.u64.wrap z = z := by rw [IntKind.wrap_u64]; omega
 go_simp
def sealL (key : List (BitVec 8)) (ep : BitVec 32) (block : Int) (page : List (BitVec 8)) : List (BitVec 8) := cturn page (cstream key (cnonce ep (BitVec.ofNat 64 block.toNat)) 0 page.length)
theorem sealL_length (key : List (BitVec 8)) (ep : BitVec 32) (block : Int) (page : List (BitVec 8)) : (sealL key ep block page).length = page.length := cturn_length _ _ (by rw [cstream_length]; exact Nat.le_refl _)
def sealBad (block : Int) (page : List (BitVec 8)) : Bool := decide (page.length ≠ 256 ∨ block < 0)
def sealR (key : List (BitVec 8)) (ep : BitVec 32) (block : Int) (page : List (BitVec 8)) : List (BitVec 8) × Int := if sealBad block page then ([], 1) else (sealL key ep block page, 0)
def hideR (key : List (BitVec 8)) (ep : BitVec 32) (place block : Int) (page : List (BitVec 8)) : List (BitVec 8) × RefV × Int :=
 if sealBad block page || decide (place < 0 ∨ 1 < place) then ([], zref, 1) else (sealL key ep block page, ⟨place, ep, digestOf (sealL key ep block page)⟩, 0)
theorem wf_dig (place : Int) (ep : BitVec 32) (l : List (BitVec 8)) (h0 : 0 ≤ place) (h1 : place ≤ 1) : RefV.Wf ⟨place, ep, digestOf l⟩ := by
 have hd := digestOf_length l
 generalize digestOf l = D at *
 exact ⟨by show _ ≤ place; omega, by show place ≤ _; omega, hd⟩
theorem hideR_wf (key : List (BitVec 8)) (ep : BitVec 32) (place block : Int) (page : List (BitVec 8)) : (hideR key ep place block page).2.1.Wf := by
 unfold hideR
 split
 ·exact zref_wf
 ·rename_i h
  simp at h
  exact wf_dig place ep _ (by omega) (by omega)
def pageL (l : List (BitVec 8)) : List (BitVec 8) := l.take 256 ++ List.replicate (256 - l.length) 0
theorem pageL_length (l : List (BitVec 8)) : (pageL l).length = 256 := by simp [pageL]; omega
theorem splice_page (l : List (BitVec 8)) (k : Nat) (hk : k = Nat.min l.length 256) : Mem.splice (u8s (List.replicate 256 0)).toArray 0 (u8s (l.take k)) = (u8s (pageL l)).toArray := by
 have hk' : k = min l.length 256 := hk
 have e1 : l.take k = l.take 256 := by
  rw [hk']
  rcases Nat.le_total l.length 256 with h | h
  ·rw [Nat.min_eq_left h, List.take_of_length_le (Nat.le_refl _), List.take_of_length_le h]
  ·rw [Nat.min_eq_right h]
 have e2 : (l.take 256).length = k := by rw [List.length_take, hk', Nat.min_comm]
 have e3 : (u8s (List.replicate 256 (0 : BitVec 8))).drop k = u8s (List.replicate (256 - l.length) 0) := by
  unfold u8s
  rw [← List.map_drop, List.drop_replicate, show 256 - k = 256 - l.length by omega]
 unfold Mem.splice pageL
 rw [e1, List.take_zero, List.nil_append, u8s_length, e2, Nat.zero_add]
 show (u8s (l.take 256) ++ (u8s (List.replicate 256 (0 : BitVec 8))).drop k).toArray = _
 rw [e3]
 unfold u8s
 rw [List.map_append]
def K1 : List (BitVec 8) := 1 :: List.replicate 31 0
theorem notBad (block : Int) (l : List (BitVec 8)) (h : l.length = 256) (hb : 0 ≤ block) : sealBad block l = false := by
 have h1 : ¬ block < 0 := by omega
 simp [sealBad, h, h1]
theorem hideR_good (key : List (BitVec 8)) (ep : BitVec 32) (place block : Int) (page : List (BitVec 8)) (h : page.length = 256) (hb : 0 ≤ block) (h0 : 0 ≤ place) (h1 : place ≤ 1) : hideR key ep place block page = (sealL key ep block page, ⟨place, ep, digestOf (sealL key ep block page)⟩, 0) := by
 have g : ¬ (place < 0 ∨ 1 < place) := by omega
 unfold hideR
 rw [notBad block page h hb, Bool.false_or, if_neg (by simpa using g)]
theorem at_slB {F : Foot} {w : World} {g n : Nat} {l : List (BitVec 8)} {t : TypeId} (h : At w g (u8s l).toArray t) (hn : l.length = n) (hF : F g) : SlB F w (.slice (some ⟨g, 0, none⟩) n n) l := by
 subst hn
 refine ⟨by simp [u8s_length], some ⟨g, 0, none⟩, l.length, rfl, Nat.le_refl _, fun _ => ⟨g, 0, rfl, hF, h.lt, fun j u hu => ?_⟩⟩
 rw [h.cell, Nat.zero_add, List.getElem?_toArray]; exact hu
def SBEnd (w : World) (L : List (BitVec 8)) (e : Ending) (w' : World) : Prop := ∃ v, e = .returned v ∧ SlB (fun k => w.heap.size ≤ k) w' v L ∧ Below w.heap.size w w'
theorem send_sb {w w' : World} {L : List (BitVec 8)} {e : Ending} (h : SEnd w L e w') : SBEnd w L e w' := by
 obtain ⟨g, rfl, ha, hg, hb⟩ := h
 exact ⟨_, rfl, at_slB ha rfl hg, hb⟩
def SealBEnd (w : World) (l : List (BitVec 8)) (n : Int) (e : Ending) (w' : World) : Prop := ∃ v, e = .returned (.tuple #[v, .int .i64 n]) ∧ SlB (fun k => w.heap.size ≤ k) w' v l ∧ Below w.heap.size w w'
set_option maxRecDepth 100000 in
set_option maxHeartbeats 1000000 in
theorem pisBlock_any (block : Int) (l : List (BitVec 8)) (v : Value) (w : World) (hv : Sl w v l) : Calls Tryz.prog 108 #[.int .i64 block, v] w fun e w' => e = .returned (.bool (!(sealBad block l))) ∧ Below w.heap.size w w' := by
 obtain ⟨a0, c0, rfl⟩ := sl_inv hv
 by_cases h2 : block < 0
 ·have e0 : sealBad block l = true := by simp [sealBad, h2]
  rw [e0]
  obtain ⟨n, hn⟩ : ∃ n, n = l.length := ⟨_, rfl⟩
  rw [← hn]
  have h2' : ¬ (0 : Int) ≤ block := by omega
  clear hv e0 hn
  go_enter Tryz.func108, Tryz.ntmps108
  go_wp2_with fail
  go_ret
  exact ⟨rfl, Below.refl _ _⟩
 ·have h2' : (0 : Int) ≤ block := by omega
  by_cases h1 : l.length = 256
  ·have e0 : sealBad block l = false := by simp [sealBad, h1, h2]
   rw [e0, h1]
   clear hv e0 h1
   go_enter Tryz.func108, Tryz.ntmps108
   go_wp2_with fail
   go_ret
   exact ⟨rfl, Below.refl _ _⟩
  ·have e0 : sealBad block l = true := by simp [sealBad, h1]
   rw [e0]
   obtain ⟨n, hn⟩ : ∃ n, n = l.length := ⟨_, rfl⟩
   rw [← hn] at h1 ⊢
   have h1' : ((n : Int) == 256) = false := by
    have : ¬ (n : Int) = 256 := by omega
    simpa using this
   clear hv e0 hn
   go_enter Tryz.func108, Tryz.ntmps108
   go_wp2_with fail
   go_ret
   exact ⟨rfl, Below.refl _ _⟩
set_option maxRecDepth 100000 in
set_option maxHeartbeats 1000000 in
theorem pisPlace_any (place : Int) (w : World) : Calls Tryz.prog 92 #[.int .i64 place] w fun e w' => e = .returned (.bool (!(decide (place < 0 ∨ 1 < place)))) ∧ Below w.heap.size w w' := by
 by_cases h0 : place < 0
 ·have e0 : decide (place < 0 ∨ 1 < place) = true := by simp [h0]
  rw [e0]
  have h0' : ¬ (0 : Int) ≤ place := by omega
  clear e0
  go_enter Tryz.func92, Tryz.ntmps92
  go_wp2_with fail
  go_ret
  exact ⟨rfl, Below.refl _ _⟩
 ·have h0' : (0 : Int) ≤ place := by omega
  by_cases h1 : 1 < place
  ·have e0 : decide (place < 0 ∨ 1 < place) = true := by simp [h1]
   rw [e0]
   have h1' : ¬ place ≤ 1 := by omega
   clear e0
   go_enter Tryz.func92, Tryz.ntmps92
   go_wp2_with fail
   go_ret
   exact ⟨rfl, Below.refl _ _⟩
  ·have e0 : decide (place < 0 ∨ 1 < place) = false := by simp [h0, h1]
   rw [e0]
   have h1' : place ≤ 1 := by omega
   clear e0
   go_enter Tryz.func92, Tryz.ntmps92
   go_wp2_with fail
   go_ret
   exact ⟨rfl, Below.refl _ _⟩
set_option maxRecDepth 100000 in
set_option maxHeartbeats 4000000 in
theorem pturn_any (key : List (BitVec 8)) (lk : key.length = 32) (ep : BitVec 32) (block : Int) (h0 : 0 ≤ block) (hbk : block ≤ 9223372036854775807) (page : List (BitVec 8)) (v : Value) (w : World) (hv : Sl w v page) (hp : page.length ≤ 1048576) (hT : CTabs w) :
 Calls Tryz.prog 109 #[.agg (u8s key).toArray, .int .u32 (V ep), .int .i64 block, v] w (SBEnd w (sealL key ep block page)) := by
 obtain ⟨bb, hbb⟩ : ∃ bb, bb = BitVec.ofNat 64 block.toNat := ⟨_, rfl⟩
 have cv := fun wx => conv_i64u block bb hbb h0 hbk wx
 have non := fun wx => nonce_any ep bb wx
 have rt : ∀ wx, Sl wx v page → CTabs wx → Calls Tryz.prog 131 #[.agg (u8s key).toArray, .agg (ncOf ep bb), .int .u32 0, v] wx (SBEnd wx (sealL key ep block page)) := fun wx h hL => by
  have k := turned_any key (cnonce ep bb) 0 page _ lk (cnonce_length _ _) hp wx h hL
  unfold sealL
  rw [← hbb]
  exact k.mono fun _ _ h => send_sb h
 have ha : Below w.heap.size w (w.alloc (.cells (u8s key).toArray 61)) := (Below.refl _ _).alloc (Nat.le_refl _) _
 obtain ⟨C, hC⟩ : ∃ C, C = (u8s key).toArray := ⟨_, rfl⟩
 have cs : C.size = 32 := by rw [hC]; simp [u8s_length, lk]
 rw [← hC] at rt ha ⊢
 have an := at_new w C 61
 obtain ⟨L, hL⟩ : ∃ L, L = sealL key ep block page := ⟨_, rfl⟩
 rw [← hL] at rt ⊢
 have CV := zh cv; have NON := zh non; have RT := zh rt; have CS := zh cs; have A1 := zh an; have BA := zh ha; have S1 := zh (hv.below ha); have T1 := zh (hT.below ha (Nat.le_refl _))
 clear cv non rt cs an ha hv hC hL hbb lk hp hT h0 hbk
 obtain ⟨nc, hnc⟩ : ∃ nc, nc = ncOf ep bb := ⟨_, rfl⟩
 rw [← hnc] at NON RT
 clear hnc
 go_enter Tryz.func109, Tryz.ntmps109
 go_wp2_with fail
 obtain ⟨b1, hb1⟩ : ∃ b1, b1 = w.heap.size := ⟨_, rfl⟩
 rw [← hb1] at A1 ⊢
 clear hb1
 generalize w.alloc (.cells C 61) = w1 at *
 have B1 : Hid (Below w1.heap.size w1 w1.drew) := zh (Below.refl _ _).drew
 refine wp_region_plan_in (fun x => Below w1.heap.size w1 x) (.take 0 (.take 1 (.take 2 (.take 3 (.take 5 (.sole 4 (.sole 6 (.take 7 .done)))))))) (by kernel_rfl) (by kernel_rfl) (by kernel_rfl) B1.out ?_
 refine plan_row 61 _ b1 _ C 61 zr zr zr Mem.ev_a (fun w' hw' => A1.out.below hw' A1.out.lt) Tryz.underlying61 zr (by rw [CS.out]; exact infoDg) ?_
 (simp only [Act.put, Mem.pa, Mem.pb, Mem.pc])
 (first | refine Mem.pm1 ?_ | refine Mem.pm2 ?_ | refine Mem.pt ?_ | refine Mem.pf ?_)
 (simp only [Act.put, Mem.pa, Mem.pb, Mem.pc])
 (first | refine Mem.pm1 ?_ | refine Mem.pm2 ?_ | refine Mem.pt ?_ | refine Mem.pf ?_)
 (simp only [Act.put, Mem.pa, Mem.pb, Mem.pc])
 refine plan_conv 3 169 _ (.int .i64 block) (.int .u64 (bb.toNat : Int)) zr zr zr Mem.ev_a (fun wx => CV.out wx) ?_
 (simp only [Act.put, Mem.pa, Mem.pb, Mem.pc])
 (first | refine Mem.pm1 ?_ | refine Mem.pm2 ?_ | refine Mem.pt ?_ | refine Mem.pf ?_)
 (simp only [Act.put, Mem.pa, Mem.pb, Mem.pc])
 refine plan_call 132 _ _ _ (by kernel_rfl) zr zr zr (by first | exact Mem.ev_none _ | (simp only [List.map_toArray, List.map_cons, List.map_nil, Mem.ev_tmp, List.getD_cons_succ, List.getD_cons_zero] <;> rfl)) ?_
 refine (NON.out _).mono ?_
 rintro o2 w2 ⟨rfl, hb⟩
 have B2 : Hid (Below w1.heap.size w1 w2) := zh (B1.out.trans (hb.mono B1.out.size))
 clear hb
 refine ⟨_, rfl, B2.out, ?_⟩
 (simp only [Act.put, Mem.pa, Mem.pb, Mem.pc])
 refine plan_call 131 _ _ _ (by kernel_rfl) zr zr zr (by first | exact Mem.ev_none _ | (simp only [List.map_toArray, List.map_cons, List.map_nil, Mem.ev_tmp, List.getD_cons_succ, List.getD_cons_zero] <;> rfl)) ?_
 refine (RT.out _ (S1.out.below B2.out) (T1.out.below B2.out (Nat.le_refl _))).mono ?_
 rintro o3 w3 ⟨v3, rfl, hs, hb⟩
 have B3 : Hid (Below w1.heap.size w1 w3) := zh (B2.out.trans (hb.mono B2.out.size))
 have S3 := zh hs
 clear hs hb
 refine ⟨_, rfl, B3.out, ?_⟩
 (simp only [Act.put, Mem.pa, Mem.pb, Mem.pc])
 (first | refine Mem.pm1 ?_ | refine Mem.pm2 ?_ | refine Mem.pt ?_ | refine Mem.pf ?_)
 (simp only [Act.put, Mem.pa, Mem.pb, Mem.pc])
 refine plan_nil ?_
 go_wp2_with fail
 go_ret
 exact ⟨_, rfl, S3.out.mono fun k hk _ => Nat.le_trans BA.out.size (Nat.le_trans B2.out.size hk), BA.out.trans (B3.out.mono BA.out.size)⟩
set_option maxRecDepth 100000 in
set_option maxHeartbeats 4000000 in
theorem pseal_any (key : List (BitVec 8)) (lk : key.length = 32) (ep : BitVec 32) (block : Int) (hbk : block ≤ 9223372036854775807) (page : List (BitVec 8)) (v : Value) (w : World) (hv : Sl w v page) (hp : page.length ≤ 1048576) (hT : CTabs w) :
 Calls Tryz.prog 93 #[.agg (u8s key).toArray, .int .u32 (V ep), .int .i64 block, v] w (SealBEnd w (sealR key ep block page).1 (sealR key ep block page).2) := by
 have ha : Below w.heap.size w (w.alloc (.cells (u8s key).toArray 61)) := (Below.refl _ _).alloc (Nat.le_refl _) _
 have ib := fun wx (h : Below w.heap.size w wx) => pisBlock_any block page v wx (hv.below h)
 have tn := fun (h0 : 0 ≤ block) wx (h : Below w.heap.size w wx) => pturn_any key lk ep block h0 hbk page v wx (hv.below h) hp (hT.below h (Nat.le_refl _))
 obtain ⟨C, hC⟩ : ∃ C, C = (u8s key).toArray := ⟨_, rfl⟩
 have cs : C.size = 32 := by rw [hC]; simp [u8s_length, lk]
 rw [← hC] at tn ha ⊢
 have an := at_new w C 61
 have IB := zh ib; have CS := zh cs; have A1 := zh an; have BA := zh ha
 clear ib cs an ha hC
 by_cases hb : sealBad block page = true
 ·have e0 : sealR key ep block page = ([], 1) := by simp [sealR, hb]
  rw [e0]
  rw [hb] at IB
  clear tn hb e0 hv hp hT lk hbk
  go_enter Tryz.func93, Tryz.ntmps93
  go_wp2_with fail
  refine (IB.out _ BA.out).mono ?_
  rintro e w2 ⟨rfl, hb2⟩
  have B2 := zh (BA.out.trans (hb2.mono BA.out.size))
  clear hb2
  go_wp2_with fail
  go_ret2
  exact ⟨_, rfl, slB_nil _ _, B2.out⟩
 ·have e0 : sealR key ep block page = (sealL key ep block page, 0) := by simp [sealR, hb]
  rw [e0]
  have hb' : sealBad block page = false := by simpa using hb
  have h0 : 0 ≤ block := by simp [sealBad] at hb'; omega
  rw [hb'] at IB
  have TN := zh (tn h0)
  clear tn hb hb' e0 hv hp hT lk hbk h0
  go_enter Tryz.func93, Tryz.ntmps93
  go_wp2_with fail
  refine (IB.out _ BA.out).mono ?_
  rintro e w2 ⟨rfl, hb2⟩
  have B2 := zh (BA.out.trans (hb2.mono BA.out.size)); have A2 := zh (A1.out.below hb2 A1.out.lt)
  clear hb2
  go_wp2_with (refine wpList_load_all zr 61 _ zr w.heap.size zr _ Tryz.underlying61 zr C _ A2.out (by rw [CS.out]; exact infoDg) ?_)
  refine (TN.out _ B2.out).mono ?_
  rintro e w3 ⟨v3, rfl, hs3, hb3⟩
  have B3 := zh (B2.out.trans (hb3.mono B2.out.size)); have S3 := zh hs3
  clear hs3 hb3
  go_wp2_with fail
  go_ret2
  exact ⟨_, rfl, S3.out.mono fun k hk _ => Nat.le_trans B2.out.size hk, B3.out⟩
set_option maxRecDepth 100000 in
set_option maxHeartbeats 4000000 in
theorem pdigN_any (l : List (BitVec 8)) (v : Value) (w : World) (hv : Sl w v l) (hp : l.length ≤ 1048576) (hT : Tabs w) :
 Calls Tryz.prog 94 #[.pointer none, v] w fun e w' => e = .returned (.agg (u8s (digestOf l)).toArray) ∧ Below w.heap.size w w' := by
 obtain ⟨Z, hZ⟩ : ∃ Z, Z = (u8s (List.replicate 32 (0 : BitVec 8))).toArray := ⟨_, rfl⟩
 have zs : Z.size = 32 := by rw [hZ]; simp [u8s_length]
 have hx : ∀ w, (zeroValue 61).run Tryz.prog w = .ok (.agg Z) w := by rw [hZ]; exact fun _ => by kernel_rfl
 obtain ⟨G, hG⟩ : ∃ G, G = (u8s (digestOf l)).toArray := ⟨_, rfl⟩
 have gs : G.size = 32 := by rw [hG]; simp [u8s_length, digestOf_length]
 have go : G.all (·.oneCell') = true := by rw [hG]; exact u8s_one _
 have hsum := fun (wx : World) (vx : Value) (hx : Sls wx vx [l]) (ht : Tabs wx) => sumAll_any [l] vx wx (by simp; omega) (by simp) hx ht
 rw [show [l].flatten = l by simp, ← hG] at hsum
 have az := at_new w Z 61
 have bz : Below w.heap.size w (w.alloc (.cells Z 61)) := (Below.refl _ _).alloc (Nat.le_refl _) _
 have hsl := sls_lit1 (hv.below bz)
 rw [← hG]
 have bl : Below w.heap.size w ((w.alloc (.cells Z 61)).alloc (.cells #[v] 36)) := bz.alloc (by simp) _
 have az2 := az.alloc (.cells #[v] 36)
 have ht2 := hT.below bl (Nat.le_refl _)
 obtain ⟨a0, c0, rfl⟩ := sl_inv hv
 obtain ⟨n, hn⟩ : ∃ n, n = l.length := ⟨_, rfl⟩
 rw [← hn] at hsl bl az2 ht2 ⊢
 have ZS := zh zs; have GS := zh gs; have GO := zh go; have SUM := zh hsum; have SLS := zh hsl; have BL := zh bl; have AZ := zh az2; have TT := zh ht2
 clear zs gs go hsum hsl bl az2 ht2 az bz hv hp hT hZ hG hn
 go_enter Tryz.func94, Tryz.ntmps94
 go_wp2_with fail
 clear hx
 have hs2 : (w.alloc (.cells Z 61)).heap.size = w.heap.size + 1 := by simp
 rw [hs2] at SLS
 refine (SUM.out _ _ SLS.out TT.out).mono ?_
 rintro e w3 ⟨rfl, hb3⟩
 have A3 := zh (AZ.out.below hb3 AZ.out.lt); have B3 := zh (BL.out.trans (hb3.mono BL.out.size))
 clear hb3 SLS hs2 BL AZ TT SUM
 go_wp2_with (refine wpList_store_all zr 61 _ _ zr zr w.heap.size G zr zr (by rw [GS.out]; exact infoDg) Z _ A3.out (by rw [ZS.out, GS.out]) GO.out ?_)
 try simp only [Exit.inBlock, Exit.then]
 refine ret_row zr w.heap.size 61 G _ zr (A3.out.row G) Tryz.underlying61 zr (by rw [GS.out]; exact infoDg) ?_
 exact ⟨rfl, below_row B3.out (Nat.le_refl _) G⟩
abbrev bkp (b : Nat) : Value := .pointer (some ⟨b, 0, none⟩)
structure BkV (F D : Foot) (bk : Nat) (w : World) (ts : List (List (BitVec 8))) (v : Value) : Prop where
 box : F bk
 lt : ∀ k, F k → k < w.heap.size
 row : At w bk #[v] 195
 ov : ∀ k, v.ownBlock = some k → F k ∧ k ≠ bk
 dF : ∀ k, D k → F k ∧ k ≠ bk ∧ v.ownBlock ≠ some k
 hs : ∃ hs : List Value, Each2 (fun p q => SlB D w p q) hs ts ∧ w.ownsRow 0 36 1 v ts.length hs
def Bk (F : Foot) (bk : Nat) (w : World) (ts : List (List (BitVec 8))) : Prop := ∃ D v, BkV F D bk w ts v
theorem BkV.keep {F D : Foot} {bk : Nat} {w w' : World} {ts : List (List (BitVec 8))} {v : Value} (h : BkV F D bk w ts v) (hs : w.heap.size ≤ w'.heap.size) (hk : ∀ k, F k → k < w.heap.size → w'.heap[k]? = w.heap[k]?) : BkV F D bk w' ts v := by
 obtain ⟨l, h1, h2⟩ := h.hs
 refine ⟨h.box, fun k hF => Nat.lt_of_lt_of_le (h.lt k hF) hs, ?_, h.ov, h.dF, l, h1.mono fun _ _ g => g.keep hs fun k hd hlt => hk k (h.dF k hd).1 hlt, ownsRow_keep h2 fun g hg => hk g (h.ov g hg).1 (World.ownsRow.lt h2 g hg).2⟩
 have h8 := h.row
 unfold At at *
 rw [hk bk h.box (h.lt bk h.box)]; exact h8
theorem Bk.keep {F : Foot} {bk : Nat} {w w' : World} {ts : List (List (BitVec 8))} (h : Bk F bk w ts) (hs : w.heap.size ≤ w'.heap.size) (hk : ∀ k, F k → k < w.heap.size → w'.heap[k]? = w.heap[k]?) : Bk F bk w' ts := by
 obtain ⟨D, v, h⟩ := h
 exact ⟨D, v, h.keep hs hk⟩
theorem bk_add {F D : Foot} {bk : Nat} {w w2 w3 w5 w8 : World} {ts : List (List (BitVec 8))} {v v' v2 : Value} {x : List (BitVec 8)} {hs : List Value} (h : BkV F D bk w ts v) (he : Each2 (fun p q => SlB D w p q) hs ts) (hown : w.ownsRow 0 36 1 v ts.length hs)
 (hb : Below w.heap.size w w2) (ho : OwnB w2 w.heap.size v2 x) (hb2 : Below w2.heap.size w2 w3) (ha : App w3 w5 v v') (hb5 : Below 0 w3 w5) (ho5 : w5.ownsRow 0 36 1 v' (ts.length + 1) (hs ++ [v2]))
 (hA : At w8 bk #[v'] 195) (hk2 : ∀ k, k ≠ bk → w8.heap[k]? = w5.heap[k]?) (hk : ∀ B a, Below B a w5 → B ≤ bk → Below B a w8) :
 Bk (grow F w w8) bk w8 (ts ++ [x]) ∧ Chg F w w8 := by
 have hb3 : Below w.heap.size w w3 := hb.trans (hb2.mono hb.size)
 have hbk := h.lt bk h.box
 have h58 := hk 0 w5 (Below.refl _ _) (Nat.zero_le _)
 have h35 := ha.size
 have hsz : w.heap.size ≤ w8.heap.size := Nat.le_trans hb3.size (Nat.le_trans h35 h58.size)
 have s2 : SlB (fun k => D k ∨ v2.ownBlock = some k) w3 v2 x := by
  have h0 : SlB (fun k => D k ∨ v2.ownBlock = some k) w2 v2 x := by
   refine ⟨by simp [u8s_length], ?_⟩
   obtain ⟨a, cap, e, hc, hr⟩ := ho.open
   refine ⟨a, cap, e, hc, fun hne => ?_⟩
   obtain ⟨g, ea, _, hlt, hcell⟩ := hr (fun h0 => hne (by rw [h0]; rfl))
   refine ⟨g, 0, ea, .inr (by rw [e, ea]; rfl), hlt, fun j u hu => ?_⟩
   have hj : j < x.length := by
    have := (List.getElem?_eq_some_iff.1 hu).1
    rwa [u8s_length] at this
   rw [Nat.zero_add, hcell j hj, ← u8s_get x j hj, hu]
  exact h0.keep hb2.size fun k _ hlt => hb2.block k hlt
 have e3 : Each2 (fun p q => SlB (fun k => D k ∨ v2.ownBlock = some k) w3 p q) (hs ++ [v2]) (ts ++ [x]) :=
  Each2.snoc s2 (he.mono fun _ _ g => (g.keep hb3.size fun k _ hlt => hb3.block k hlt).mono fun _ hk _ => .inl hk)
 have hv' : ∀ k, v'.ownBlock = some k → (F k ∨ w3.heap.size ≤ k) ∧ k ≠ bk ∧ k < w5.heap.size := fun k hk' => by
  have hlt := (World.ownsRow.lt ho5 k hk').2
  rcases ha.b with e | ⟨g, e, hg⟩
  ·rw [e] at hk'; exact ⟨.inl (h.ov k hk').1, (h.ov k hk').2, hlt⟩
  ·rw [e] at hk'
   have e2 : g = k := by simpa using hk'
   have := hb3.size
   exact ⟨.inr (by omega), by omega, hlt⟩
 have hd' : ∀ k, (D k ∨ v2.ownBlock = some k) → (F k ∨ w.heap.size ≤ k) ∧ k ≠ bk ∧ v.ownBlock ≠ some k ∧ k < w3.heap.size := fun k hk' => by
  rcases hk' with hk' | hk'
  ·have hl := h.lt k (h.dF k hk').1
   have := hb3.size
   exact ⟨.inl (h.dF k hk').1, (h.dF k hk').2.1, (h.dF k hk').2.2, by omega⟩
  ·have h6 := ho.lt k hk'
   have := hb2.size
   refine ⟨.inr h6.1, by omega, fun e => ?_, by omega⟩
   have := (World.ownsRow.lt hown k e).2
   omega
 refine ⟨⟨fun k => D k ∨ v2.ownBlock = some k, v', ⟨.inl h.box, hA.lt⟩, grow_lt, hA, fun k hk' => ?_, fun k hk' => ?_, hs ++ [v2], ?_, ?_⟩, ?_⟩
 ·obtain ⟨h1, h2, h3⟩ := hv' k hk'
  have := hb3.size
  have := h58.size
  exact ⟨⟨h1.imp id fun g => by omega, by omega⟩, h2⟩
 ·obtain ⟨h1, h2, h3, h4⟩ := hd' k hk'
  have := h58.size
  refine ⟨⟨h1, by omega⟩, h2, fun e => ?_⟩
  rcases ha.b with e2 | ⟨g, e2, hg⟩
  ·rw [e2] at e; exact h3 e
  ·rw [e2] at e
   have : g = k := by simpa using e
   omega
 ·refine e3.mono fun _ _ g => g.keep (Nat.le_trans h35 h58.size) fun k hd hlt => ?_
  obtain ⟨_, h2, h3, _⟩ := hd' k hd
  rw [hk2 k h2, ha.k k hlt h3]
 ·rw [List.length_append]
  exact ownsRow_keep ho5 fun g hg => hk2 g (hv' g hg).2.1
 ·refine ⟨h58.os.trans (hb5.os.trans hb3.os), h58.tape.trans (hb5.tape.trans hb3.tape), h58.output.trans (hb5.output.trans hb3.output), hsz, fun k hlt hn => ?_⟩
  have hne : k ≠ bk := fun e => hn (e ▸ h.box)
  rw [hk2 k hne, ha.k k (Nat.lt_of_lt_of_le hlt hb3.size) fun e => hn (h.ov k e).1, hb3.block k hlt]
def BkO (F : Foot) (bp : Value) (w : World) (ts : List (List (BitVec 8))) : Prop := (bp = .pointer none ∧ ∀ k, ¬ F k) ∨ ∃ bk, bp = bkp bk ∧ Bk F bk w ts
theorem BkO.keep {F : Foot} {bp : Value} {w w' : World} {ts : List (List (BitVec 8))} (h : BkO F bp w ts) (hs : w.heap.size ≤ w'.heap.size) (hk : ∀ k, F k → k < w.heap.size → w'.heap[k]? = w.heap[k]?) : BkO F bp w' ts :=
 h.imp id fun ⟨bk, e, g⟩ => ⟨bk, e, g.keep hs hk⟩
theorem BkO.below {F : Foot} {bp : Value} {w w' : World} {ts : List (List (BitVec 8))} (h : BkO F bp w ts) (hb : Below w.heap.size w w') : BkO F bp w' ts := h.keep hb.size fun k _ hlt => hb.block k hlt
theorem BkO.lt {F : Foot} {bp : Value} {w : World} {ts : List (List (BitVec 8))} (h : BkO F bp w ts) : ∀ k, F k → k < w.heap.size := fun k hF => by
 rcases h with ⟨_, h⟩ | ⟨bk, _, D, v, h⟩
 ·exact absurd hF (h k)
 ·exact h.lt k hF
def BkEnd (F : Foot) (bp : Value) (w : World) (ts : List (List (BitVec 8))) (w' : World) : Prop := (∃ F', BkO F' bp w' ts ∧ ∀ k, F' k → F k ∨ w.heap.size ≤ k) ∧ Chg F w w'
theorem elemRS9 : elemR Tryz.prog 81 36 (.slice none 0 0) 1 24 := ⟨Tryz.underlying81, by kernel_rfl⟩
theorem infoSh9 : (Tryz.prog.info? 81).map (·.size) = some 1 := by kernel_rfl
theorem own_hd9 {w : World} {B n : Nat} {v : Value} {l : List (BitVec 8)} (h : OwnB w B v l) (hn : n = l.length) : ∃ a c, v = .slice a n c := by
 subst hn
 obtain ⟨a, c, e, _⟩ := h.open
 exact ⟨a, c, e⟩
theorem dig_end {F : Foot} {bk : Nat} {w w1 w8 w9 : World} {ts : List (List (BitVec 8))} (hal : Below w.heap.size w w1) (flt : ∀ k, F k → k < w.heap.size) (h1 : w1.heap.size = w.heap.size + 1) (h : Bk (grow F w1.drew w8) bk w8 ts ∧ Chg F w1.drew w8) (hb : Below w8.heap.size w8 w9) (M : Array Value) :
 (∃ F', Bk F' bk (w9.setRow w.heap.size M) ts ∧ ∀ k, F' k → F k ∨ w.heap.size ≤ k) ∧ Chg F w (w9.setRow w.heap.size M) := by
 refine ⟨⟨grow F w1.drew w8, (h.1.keep hb.size fun k _ hlt => hb.block k hlt).keep (by simp) fun k hk _ => setRow_other w9 _ k M ?_, fun k hk => ?_⟩, ?_⟩
 ·rcases hk.1 with g | g
  ·have := flt k g; omega
  ·have g : w1.heap.size ≤ k := g
   omega
 ·rcases hk.1 with g | g
  ·exact .inl g
  ·have g : w1.heap.size ≤ k := g
   exact .inr (by omega)
 ·have c9 : Chg F w w9 := (((Chg.of_below hal).drew).trans (F1 := F) h.2 fun _ hx => .inl hx).trans (F1 := F) (Chg.of_below hb) fun _ hx => .inl hx
  exact c9.trans (F1 := fun k => k = w.heap.size) ⟨rfl, rfl, rfl, by simp, fun k _ hn => setRow_other w9 _ k M hn⟩ fun x hx => .inr (by omega)
set_option maxRecDepth 100000 in
set_option maxHeartbeats 4000000 in
theorem pdigB_any {F G : Foot} {bk : Nat} {ts : List (List (BitVec 8))} (l : List (BitVec 8)) (v : Value) (w x : World) (hr : Bk F bk w ts) (hn : ts.length < 100000) (hv : SlB G w v l) (hG : ∀ k, G k → ¬ F k) (hp : l.length ≤ 1000000) (hT : Tabs x) (hxw : Below x.heap.size x w) (hF : ∀ k, F k → x.heap.size ≤ k) :
 Calls Tryz.prog 94 #[bkp bk, v] w fun e w' => e = .returned (.agg (u8s (digestOf l)).toArray) ∧ ((∃ F', Bk F' bk w' (ts ++ [l]) ∧ ∀ k, F' k → F k ∨ w.heap.size ≤ k) ∧ Chg F w w') := by
 obtain ⟨Z, hZ⟩ : ∃ Z, Z = (u8s (List.replicate 32 (0 : BitVec 8))).toArray := ⟨_, rfl⟩
 have zs : Z.size = 32 := by rw [hZ]; simp [u8s_length]
 have hx : ∀ w, (zeroValue 61).run Tryz.prog w = .ok (.agg Z) w := by rw [hZ]; exact fun _ => by kernel_rfl
 obtain ⟨G32, hG32⟩ : ∃ G, G = (u8s (digestOf l)).toArray := ⟨_, rfl⟩
 have gs : G32.size = 32 := by rw [hG32]; simp [u8s_length, digestOf_length]
 have go : G32.all (·.oneCell') = true := by rw [hG32]; exact u8s_one _
 have hsum := fun (wx : World) (vx : Value) (hx : Sls wx vx [l]) (ht : Tabs wx) => sumAll_any [l] vx wx (by simp; omega) (by simp) hx ht
 rw [show [l].flatten = l by simp, ← hG32] at hsum
 rw [← hG32]
 have hal : Below w.heap.size w (w.alloc (.cells Z 61)) := (Below.refl _ _).alloc (Nat.le_refl _) _
 have haz := at_new w Z 61
 obtain ⟨w1, hw1⟩ : ∃ w1, w1 = w.alloc (.cells Z 61) := ⟨_, rfl⟩
 obtain ⟨D, vb, hb0⟩ := hr
 have hb1 : BkV F D bk w1 ts vb := by rw [hw1]; exact hb0.keep hal.size fun k _ hlt => hal.block k hlt
 have hv1 : SlB G w1 v l := by rw [hw1]; exact hv.keep hal.size fun k _ hlt => hal.block k hlt
 rw [← hw1] at haz hal
 obtain ⟨hs, he, hown⟩ := hb1.hs
 obtain ⟨asx, caps, rfl⟩ := rows_hd hown
 have hbkw : bk < w.heap.size := hb0.lt bk hb0.box
 have hFlt := hb0.lt
 have hne := own_ne_at hown hb1.row (by decide)
 have hcl := pclone_any l v w1.drew hp (hv1.sl.below (Below.refl _ _).drew)
 obtain ⟨a0, c0, rfl⟩ := sl_inv hv.sl
 obtain ⟨L, hL⟩ : ∃ L, L = l.length := ⟨_, rfl⟩
 obtain ⟨M, hM⟩ : ∃ M, M = ts.length := ⟨_, rfl⟩
 rw [← hL] at hv hv1 hcl ⊢
 rw [← hM] at hn hb1 hown hne
 have hrow := hb1.row
 have g1 : (M : Int) < 100000 := by omega
 have c1 : w1.drew.cell? ⟨bk, 0, none⟩ = some (.slice asx M caps) := by show w1.cell? _ = _; rw [hrow.cell]; rfl
 have c1' : w1.cell? ⟨bk, 0, none⟩ = some (.slice asx M caps) := c1
 have HV : Hid (BkV F D bk w1.drew ts (.slice asx M caps)) := zh (hb1.keep (Nat.le_refl _) fun _ _ _ => rfl)
 have CL := zh hcl; have HROW : Hid (At w1.drew bk #[.slice asx M caps] 195) := hrow.drew; have HO : Hid (w1.drew.ownsRow 0 36 1 (.slice asx M caps) M hs) := hown; have HE : Hid (Each2 (fun p q => SlB D w1.drew p q) hs ts) := he
 have ZS := zh zs; have GS := zh gs; have GO := zh go; have SUM := zh hsum; have HAL := zh hal; have HAZ := zh haz; have HV1 := zh hv1; have HG := zh hG; have HF := zh hF; have HX := zh hxw; have HT := zh hT; have C1 := zh c1; have NE := zh hne; have HM := zh hM; have XL := zh hL; have BKW := zh hbkw; have HW1 := zh hw1; have FLT := zh hFlt
 clear zs gs go hsum hal haz hv1 hv hG hF hxw hT hb1 hb0 hcl hrow hown he hne hM hL hZ hG32 hp hbkw hFlt
 go_enter Tryz.func94, Tryz.ntmps94
 go_upto_region 1 with fail
 rw [← HW1.out]
 clear hx hw1
 go_wp2_with fail
 refine wp_region_plan_in (fun _ => True) (.take 0 (.take 1 (.take 2 (.take 3 (.take 5 (.two 4 6 (.sole 6 (.sole 7 (.sole 8 (.take 9 (.take 10 (.sole 11 .done)))))) (.two 4 7 (.sole 7 (.sole 8 (.take 9 (.take 10 (.sole 11 .done))))) (.sole 4 (.sole 8 (.take 9 (.take 10 (.sole 11 .done)))))))))))) (by kernel_rfl) (by kernel_rfl) (by kernel_rfl) trivial ?_
 (first | refine Mem.pm1 ?_ | refine Mem.pm2 ?_ | refine Mem.pt ?_ | refine Mem.pf ?_)
 (simp only [Act.put, Mem.pa, Mem.pb, Mem.pc])
 (first | refine Mem.pm1 ?_ | refine Mem.pm2 ?_ | refine Mem.pt ?_ | refine Mem.pf ?_)
 (simp only [Act.put, Mem.pa, Mem.pb, Mem.pc])
 refine plan_nilcheck _ ⟨bk, 0, none⟩ zr zr zr Mem.ev_a ?_
 (simp only [Act.put, Mem.pa, Mem.pb, Mem.pc])
 refine plan_field 195 _ 0 bk 0 ⟨bk, 0, none⟩ zr zr zr Mem.ev_a (fun wx => by go_simp) ?_
 (simp only [Act.put, Mem.pa, Mem.pb, Mem.pc])
 (first | refine Mem.pm1 ?_ | refine Mem.pm2 ?_ | refine Mem.pt ?_ | refine Mem.pf ?_)
 (simp only [Act.put, Mem.pa, Mem.pb, Mem.pc])
 refine plan_two ?_ ?_
 ·refine plan_sole_cell 81 _ _ (.slice asx M caps) _ zr zr zr Mem.ev_a (by first | exact C1.out | exact C2.out | exact C3.out) Tryz.underlying81 zr trivial ?_
  (simp only [Act.put, Mem.pa, Mem.pb, Mem.pc])
  refine plan_call 85 _ _ _ (by kernel_rfl) zr zr zr (by first | exact Mem.ev_none _ | (simp only [List.map_toArray, List.map_cons, List.map_nil, Mem.ev_tmp, List.getD_cons_succ, List.getD_cons_zero] <;> rfl)) ?_
  refine CL.out.mono ?_
  rintro o w2 ⟨v2, rfl, ho2, hb2⟩
  obtain ⟨a2, c2, rfl⟩ := own_hd9 ho2 XL.out
  have C2 : Hid (w2.cell? ⟨bk, 0, none⟩ = some (.slice asx M caps)) := by have h := C1.out; rw [hb2.cell (p := ⟨bk, 0, none⟩) (HV.out.lt bk HV.out.box)]; exact h
  have C3 : Hid ((w2.alloc (.cells #[.slice a2 L c2] 36)).cell? ⟨bk, 0, none⟩ = some (.slice asx M caps)) := (cell_alloc (block_lt_of_cell C2.out)).trans C2.out
  have O2 := zh ho2; have B2 := zh hb2; have OW := zh (ownsRow_below (ownsRow_below HO.out hb2) ((Below.refl _ w2).alloc (Nat.le_refl _) (.cells #[.slice a2 L c2] 36)))
  clear ho2 hb2
  refine ⟨_, rfl, trivial, ?_⟩
  (simp only [Act.put, Mem.pa, Mem.pb, Mem.pc])
  refine plan_slice 81 36 1 _ #[.slice a2 L c2] zr zr zr Tryz.underlying81 (by kernel_rfl) trivial ?_
  (simp only [Act.put, Mem.pa, Mem.pb, Mem.pc])
  refine plan_append_app _ _ 81 zr zr zr (.slice (some ⟨w2.heap.size, 0, none⟩) 1 1) M 1 1 [.slice a2 L c2] (.slice none 0 0) 24 elemRS9 zr (by decide) Mem.ev_a OW.out Mem.ev_a (by exact rdR_new (e := 36) (C := #[.slice a2 L c2])) (by simp [Value.oneCell']) (by omega) (by omega) (by omega) ?_
  intro v5 w5 ho5 ha5 hb5
  obtain ⟨a5, c5, rfl⟩ := rows_hd ho5
  have O5 := zh ho5; have A5 := zh ha5; have B5 := zh hb5
  have R5 : Hid (At w5 bk #[.slice asx M caps] 195) := zh (at_appd (((HROW.out.below B2.out (HV.out.lt bk HV.out.box))).alloc _) A5.out NE.out)
  clear ho5 ha5 hb5
  refine ⟨trivial, ?_⟩
  (simp only [Act.put, Mem.pa, Mem.pb, Mem.pc])
  refine plan_nilcheck _ ⟨bk, 0, none⟩ zr zr zr Mem.ev_a ?_
  (simp only [Act.put, Mem.pa, Mem.pb, Mem.pc])
  refine plan_field 195 _ 0 bk 0 ⟨bk, 0, none⟩ zr zr zr Mem.ev_a (fun wx => by go_simp) ?_
  (simp only [Act.put, Mem.pa, Mem.pb, Mem.pc])
  refine plan_store_one 81 _ _ bk 0 (.slice a5 (M + 1) c5) _ 195 zr zr zr zr Mem.ev_a Mem.ev_a zr infoSh9 R5.out (by simp) trivial ?_
  refine plan_nil ?_
  have E8 := zh (bk_add (v' := .slice a5 (M + 1) c5) HV.out HE.out (by rw [← HM.out]; exact HO.out) B2.out O2.out ((Below.refl _ w2).alloc (Nat.le_refl _) _) A5.out B5.out (by rw [← HM.out]; exact O5.out) (R5.out.set 0 (.slice a5 (M + 1) c5)) (fun k hk => heap_setCell_other w5 ⟨bk, 0, none⟩ k _ hk) (fun B a hB hle => hB.setCell hle _))
  generalize w5.setCell ⟨bk, 0, none⟩ (.slice a5 (M + 1) c5) = w8 at *
  clear R5 A5 B5 O5 OW C2 C3 O2 B2 HO HE HROW C1 CL NE XL
  clear HV
  have S8 : Hid (SlB G w8 (.slice a0 L c0) l) := zh (HV1.out.keep E8.out.2.size fun k hg hlt => E8.out.2.block k hlt (HG.out k hg))
  have BX : Hid (Below x.heap.size x w1) := zh (HX.out.trans (HAL.out.mono HX.out.size))
  have BX8 : Hid (Below x.heap.size x w8) := zh (E8.out.2.below BX.out.drew HF.out BX.out.size)
  have A8 : Hid (At w8 w.heap.size Z 61) := zh (HAZ.out.drew.chg E8.out.2 fun hf => Nat.lt_irrefl _ (FLT.out _ hf))
  have SLS := zh (sls_lit1 S8.out.sl)
  have T8 := zh (HT.out.below (BX8.out.alloc BX8.out.size (.cells #[.slice a0 L c0] 36)) (Nat.le_refl _))
  have A9 := zh (A8.out.alloc (.cells #[.slice a0 L c0] 36))
  clear S8 BX BX8 A8
  go_wp2_with fail
  refine (SUM.out _ _ SLS.out T8.out).mono ?_
  rintro e w9 ⟨rfl, hb9⟩
  have A10 := zh (A9.out.below hb9 A9.out.lt)
  have B10 : Hid (Below w8.heap.size w8 w9) := zh (((Below.refl _ w8).alloc (Nat.le_refl _) (.cells #[.slice a0 L c0] 36)).trans (hb9.mono (by simp)))
  clear hb9 SLS T8 A9
  go_wp2_with (refine wpList_store_all zr 61 _ _ zr zr w.heap.size G32 zr zr (by rw [GS.out]; exact infoDg) Z _ A10.out (by rw [ZS.out, GS.out]) GO.out ?_)
  try simp only [Exit.inBlock, Exit.then]
  refine ret_row zr w.heap.size 61 G32 _ zr (A10.out.row G32) Tryz.underlying61 zr (by rw [GS.out]; exact infoDg) ?_
  exact ⟨rfl, dig_end HAL.out FLT.out (by rw [HW1.out]; simp) E8.out B10.out G32⟩
 ·refine plan_call 85 _ _ _ (by kernel_rfl) zr zr zr (by first | exact Mem.ev_none _ | (simp only [List.map_toArray, List.map_cons, List.map_nil, Mem.ev_tmp, List.getD_cons_succ, List.getD_cons_zero] <;> rfl)) ?_
  refine CL.out.mono ?_
  rintro o w2 ⟨v2, rfl, ho2, hb2⟩
  obtain ⟨a2, c2, rfl⟩ := own_hd9 ho2 XL.out
  have C2 : Hid (w2.cell? ⟨bk, 0, none⟩ = some (.slice asx M caps)) := by have h := C1.out; rw [hb2.cell (p := ⟨bk, 0, none⟩) (HV.out.lt bk HV.out.box)]; exact h
  have C3 : Hid ((w2.alloc (.cells #[.slice a2 L c2] 36)).cell? ⟨bk, 0, none⟩ = some (.slice asx M caps)) := (cell_alloc (block_lt_of_cell C2.out)).trans C2.out
  have O2 := zh ho2; have B2 := zh hb2; have OW := zh (ownsRow_below (ownsRow_below HO.out hb2) ((Below.refl _ w2).alloc (Nat.le_refl _) (.cells #[.slice a2 L c2] 36)))
  clear ho2 hb2
  refine ⟨_, rfl, trivial, ?_⟩
  (simp only [Act.put, Mem.pa, Mem.pb, Mem.pc])
  refine plan_two ?_ ?_
  ·refine plan_sole_cell 81 _ _ (.slice asx M caps) _ zr zr zr Mem.ev_a (by first | exact C1.out | exact C2.out | exact C3.out) Tryz.underlying81 zr trivial ?_
   (simp only [Act.put, Mem.pa, Mem.pb, Mem.pc])
   refine plan_slice 81 36 1 _ #[.slice a2 L c2] zr zr zr Tryz.underlying81 (by kernel_rfl) trivial ?_
   (simp only [Act.put, Mem.pa, Mem.pb, Mem.pc])
   refine plan_append_app _ _ 81 zr zr zr (.slice (some ⟨w2.heap.size, 0, none⟩) 1 1) M 1 1 [.slice a2 L c2] (.slice none 0 0) 24 elemRS9 zr (by decide) Mem.ev_a OW.out Mem.ev_a (by exact rdR_new (e := 36) (C := #[.slice a2 L c2])) (by simp [Value.oneCell']) (by omega) (by omega) (by omega) ?_
   intro v5 w5 ho5 ha5 hb5
   obtain ⟨a5, c5, rfl⟩ := rows_hd ho5
   have O5 := zh ho5; have A5 := zh ha5; have B5 := zh hb5
   have R5 : Hid (At w5 bk #[.slice asx M caps] 195) := zh (at_appd (((HROW.out.below B2.out (HV.out.lt bk HV.out.box))).alloc _) A5.out NE.out)
   clear ho5 ha5 hb5
   refine ⟨trivial, ?_⟩
   (simp only [Act.put, Mem.pa, Mem.pb, Mem.pc])
   refine plan_nilcheck _ ⟨bk, 0, none⟩ zr zr zr Mem.ev_a ?_
   (simp only [Act.put, Mem.pa, Mem.pb, Mem.pc])
   refine plan_field 195 _ 0 bk 0 ⟨bk, 0, none⟩ zr zr zr Mem.ev_a (fun wx => by go_simp) ?_
   (simp only [Act.put, Mem.pa, Mem.pb, Mem.pc])
   refine plan_store_one 81 _ _ bk 0 (.slice a5 (M + 1) c5) _ 195 zr zr zr zr Mem.ev_a Mem.ev_a zr infoSh9 R5.out (by simp) trivial ?_
   refine plan_nil ?_
   have E8 := zh (bk_add (v' := .slice a5 (M + 1) c5) HV.out HE.out (by rw [← HM.out]; exact HO.out) B2.out O2.out ((Below.refl _ w2).alloc (Nat.le_refl _) _) A5.out B5.out (by rw [← HM.out]; exact O5.out) (R5.out.set 0 (.slice a5 (M + 1) c5)) (fun k hk => heap_setCell_other w5 ⟨bk, 0, none⟩ k _ hk) (fun B a hB hle => hB.setCell hle _))
   generalize w5.setCell ⟨bk, 0, none⟩ (.slice a5 (M + 1) c5) = w8 at *
   clear R5 A5 B5 O5 OW C2 C3 O2 B2 HO HE HROW C1 CL NE XL
   clear HV
   have S8 : Hid (SlB G w8 (.slice a0 L c0) l) := zh (HV1.out.keep E8.out.2.size fun k hg hlt => E8.out.2.block k hlt (HG.out k hg))
   have BX : Hid (Below x.heap.size x w1) := zh (HX.out.trans (HAL.out.mono HX.out.size))
   have BX8 : Hid (Below x.heap.size x w8) := zh (E8.out.2.below BX.out.drew HF.out BX.out.size)
   have A8 : Hid (At w8 w.heap.size Z 61) := zh (HAZ.out.drew.chg E8.out.2 fun hf => Nat.lt_irrefl _ (FLT.out _ hf))
   have SLS := zh (sls_lit1 S8.out.sl)
   have T8 := zh (HT.out.below (BX8.out.alloc BX8.out.size (.cells #[.slice a0 L c0] 36)) (Nat.le_refl _))
   have A9 := zh (A8.out.alloc (.cells #[.slice a0 L c0] 36))
   clear S8 BX BX8 A8
   go_wp2_with fail
   refine (SUM.out _ _ SLS.out T8.out).mono ?_
   rintro e w9 ⟨rfl, hb9⟩
   have A10 := zh (A9.out.below hb9 A9.out.lt)
   have B10 : Hid (Below w8.heap.size w8 w9) := zh (((Below.refl _ w8).alloc (Nat.le_refl _) (.cells #[.slice a0 L c0] 36)).trans (hb9.mono (by simp)))
   clear hb9 SLS T8 A9
   go_wp2_with (refine wpList_store_all zr 61 _ _ zr zr w.heap.size G32 zr zr (by rw [GS.out]; exact infoDg) Z _ A10.out (by rw [ZS.out, GS.out]) GO.out ?_)
   try simp only [Exit.inBlock, Exit.then]
   refine ret_row zr w.heap.size 61 G32 _ zr (A10.out.row G32) Tryz.underlying61 zr (by rw [GS.out]; exact infoDg) ?_
   exact ⟨rfl, dig_end HAL.out FLT.out (by rw [HW1.out]; simp) E8.out B10.out G32⟩
  ·refine plan_slice 81 36 1 _ #[.slice a2 L c2] zr zr zr Tryz.underlying81 (by kernel_rfl) trivial ?_
   (simp only [Act.put, Mem.pa, Mem.pb, Mem.pc])
   refine plan_sole_cell 81 _ _ (.slice asx M caps) _ zr zr zr Mem.ev_a (by first | exact C1.out | exact C2.out | exact C3.out) Tryz.underlying81 zr trivial ?_
   (simp only [Act.put, Mem.pa, Mem.pb, Mem.pc])
   refine plan_append_app _ _ 81 zr zr zr (.slice (some ⟨w2.heap.size, 0, none⟩) 1 1) M 1 1 [.slice a2 L c2] (.slice none 0 0) 24 elemRS9 zr (by decide) Mem.ev_a OW.out Mem.ev_a (by exact rdR_new (e := 36) (C := #[.slice a2 L c2])) (by simp [Value.oneCell']) (by omega) (by omega) (by omega) ?_
   intro v5 w5 ho5 ha5 hb5
   obtain ⟨a5, c5, rfl⟩ := rows_hd ho5
   have O5 := zh ho5; have A5 := zh ha5; have B5 := zh hb5
   have R5 : Hid (At w5 bk #[.slice asx M caps] 195) := zh (at_appd (((HROW.out.below B2.out (HV.out.lt bk HV.out.box))).alloc _) A5.out NE.out)
   clear ho5 ha5 hb5
   refine ⟨trivial, ?_⟩
   (simp only [Act.put, Mem.pa, Mem.pb, Mem.pc])
   refine plan_nilcheck _ ⟨bk, 0, none⟩ zr zr zr Mem.ev_a ?_
   (simp only [Act.put, Mem.pa, Mem.pb, Mem.pc])
   refine plan_field 195 _ 0 bk 0 ⟨bk, 0, none⟩ zr zr zr Mem.ev_a (fun wx => by go_simp) ?_
   (simp only [Act.put, Mem.pa, Mem.pb, Mem.pc])
   refine plan_store_one 81 _ _ bk 0 (.slice a5 (M + 1) c5) _ 195 zr zr zr zr Mem.ev_a Mem.ev_a zr infoSh9 R5.out (by simp) trivial ?_
   refine plan_nil ?_
   have E8 := zh (bk_add (v' := .slice a5 (M + 1) c5) HV.out HE.out (by rw [← HM.out]; exact HO.out) B2.out O2.out ((Below.refl _ w2).alloc (Nat.le_refl _) _) A5.out B5.out (by rw [← HM.out]; exact O5.out) (R5.out.set 0 (.slice a5 (M + 1) c5)) (fun k hk => heap_setCell_other w5 ⟨bk, 0, none⟩ k _ hk) (fun B a hB hle => hB.setCell hle _))
   generalize w5.setCell ⟨bk, 0, none⟩ (.slice a5 (M + 1) c5) = w8 at *
   clear R5 A5 B5 O5 OW C2 C3 O2 B2 HO HE HROW C1 CL NE XL
   clear HV
   have S8 : Hid (SlB G w8 (.slice a0 L c0) l) := zh (HV1.out.keep E8.out.2.size fun k hg hlt => E8.out.2.block k hlt (HG.out k hg))
   have BX : Hid (Below x.heap.size x w1) := zh (HX.out.trans (HAL.out.mono HX.out.size))
   have BX8 : Hid (Below x.heap.size x w8) := zh (E8.out.2.below BX.out.drew HF.out BX.out.size)
   have A8 : Hid (At w8 w.heap.size Z 61) := zh (HAZ.out.drew.chg E8.out.2 fun hf => Nat.lt_irrefl _ (FLT.out _ hf))
   have SLS := zh (sls_lit1 S8.out.sl)
   have T8 := zh (HT.out.below (BX8.out.alloc BX8.out.size (.cells #[.slice a0 L c0] 36)) (Nat.le_refl _))
   have A9 := zh (A8.out.alloc (.cells #[.slice a0 L c0] 36))
   clear S8 BX BX8 A8
   go_wp2_with fail
   refine (SUM.out _ _ SLS.out T8.out).mono ?_
   rintro e w9 ⟨rfl, hb9⟩
   have A10 := zh (A9.out.below hb9 A9.out.lt)
   have B10 : Hid (Below w8.heap.size w8 w9) := zh (((Below.refl _ w8).alloc (Nat.le_refl _) (.cells #[.slice a0 L c0] 36)).trans (hb9.mono (by simp)))
   clear hb9 SLS T8 A9
   go_wp2_with (refine wpList_store_all zr 61 _ _ zr zr w.heap.size G32 zr zr (by rw [GS.out]; exact infoDg) Z _ A10.out (by rw [ZS.out, GS.out]) GO.out ?_)
   try simp only [Exit.inBlock, Exit.then]
   refine ret_row zr w.heap.size 61 G32 _ zr (A10.out.row G32) Tryz.underlying61 zr (by rw [GS.out]; exact infoDg) ?_
   exact ⟨rfl, dig_end HAL.out FLT.out (by rw [HW1.out]; simp) E8.out B10.out G32⟩
end Sha
end Go.Proofs.YtahcjnganedbiaaGreatDoor
