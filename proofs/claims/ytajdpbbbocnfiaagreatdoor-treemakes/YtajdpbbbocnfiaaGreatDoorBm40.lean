/- My own texts, merged. -/
import Derived.Test.YtajdpbbbocnfiaaGreatDoorBm36
import Derived.Test.YtajdpbbbocnfiaaGreatDoorBm38
import Derived.Test.YtajdpbbbocnfiaaGreatDoorBm00
import Derived.Test.YtajdpbbbocnfiaaGreatDoorBm01
import Derived.Test.YtajdpbbbocnfiaaGreatDoorBm12
import Derived.Test.YtajdpbbbocnfiaaGreatDoorBm07
import Derived.Test.YtajdpbbbocnfiaaGreatDoorBm39
import Derived.Test.YtajdpbbbocnfiaaGreatDoorBm09
import Derived.Test.YtajdpbbbocnfiaaGreatDoorBm03
import Derived.Great.Walk
import Derived.OwnWalk
import Derived.Deep.DeepCutAuto
import Derived.Test.YtajdpbbbocnfiaaGreatDoorBm13
import Derived.Test.YtajdpbbbocnfiaaGreatDoorBm23
import Derived.Test.YtajdpbbbocnfiaaGreatDoorBm08
namespace Go.Proofs.YtajdpbbbocnfiaaGreatDoor
namespace Sha
open Go.RowKit Mem
structure RSInv (key nonce : List (BitVec 8)) (n : BitVec 32) (C D : Array Value) (j : Nat) (v : Value) (w wr : World) : Prop where
 o : OwnB wr (w.heap.size + 1 + 1) v (cblks key nonce n j)
 c : At wr w.heap.size C 22
 d : At wr (w.heap.size + 1) D 136
 b : Below w.heap.size w wr
set_option maxRecDepth 100000 in
set_option maxHeartbeats 2000000 in
theorem rstream_good (key nonce : List (BitVec 8)) (n : BitVec 32) (size : Nat) (lk : key.length = 32) (ln : nonce.length = 12) (hz : size ≤ 1048576) (w : World) :
 Calls Tryz.prog 94 #[.agg (u8s key).toArray, .agg (u8s nonce).toArray, .int .u32 (V n), .int .i64 (size : Int)] w (RSEnd w (cstream key nonce n size)) := by
 obtain ⟨X, hX⟩ : ∃ X, X = CZ64 := ⟨_, rfl⟩
 have hx := czero64
 rw [← hX] at hx
 have hXs : X.size = 64 := by rw [hX]; simp [CZ64, u8s]
 have hbl := fun (m : BitVec 32) wx => rblk_any key nonce m lk ln wx
 obtain ⟨C, hC⟩ : ∃ C, C = (u8s key).toArray := ⟨_, rfl⟩
 obtain ⟨D, hD⟩ : ∃ D, D = (u8s nonce).toArray := ⟨_, rfl⟩
 have hCs : C.size = 32 := by rw [hC]; simp [u8s, lk]
 have hDs : D.size = 12 := by rw [hD]; simp [u8s, ln]
 rw [← hC, ← hD] at hbl
 rw [← hC, ← hD]
 have g3 : ¬ (size : Int) < 0 := by omega
 have g4 : ¬ (1048576 : Int) < (size : Int) := by omega
 have aD : At ((w.alloc (.cells C 22)).alloc (.cells D 136)) (w.heap.size + 1) D 136 := by
  have h := at_new (w.alloc (.cells C 22)) D 136
  simpa using h
 have hI : RSInv key nonce n C D 0 (.slice none 0 0) w ((w.alloc (.cells C 22)).alloc (.cells D 136)) :=
  ⟨OwnB.nil _ _, (at_new w C _).alloc _, aD, ((Below.refl _ _).alloc (Nat.le_refl _) _).alloc (by simp) _⟩
 have N0 : Hid (V n = V (n + BitVec.ofNat 32 0)) := by show V n = V (n + BitVec.ofNat 32 0); simp
 have BL := zh hbl; have XS := zh hXs; have CS := zh hCs; have DS := zh hDs; have I0 := zh hI
 clear hbl hXs hX hC hD hCs hDs aD hI lk ln
 go_enter Tryz.func94, Tryz.ntmps94
 go_wp2_with fail
 generalize (w.alloc (.cells C 22)).alloc (.cells D 136) = w4 at *
 go_loopw [2, 9, 10] (fun vn vo _ wr => ∃ j : Nat, 64 * j ≤ size + 63 ∧ vn = .int .u32 (V (n + BitVec.ofNat 32 j)) ∧ RSInv key nonce n C D j vo w wr) (fun _ vo _ _ => 2000000 - (match vo with | .slice _ l _ => l | _ => 0))
 case atStart => exact ⟨0, by omega, by rw [N0.out], I0.out⟩
 case round =>
  clear I0 N0
  obtain ⟨j, hj, rfl, hI⟩ := hrel
  obtain ⟨ao, co, hvo, hco, _⟩ := hI.o.open
  rw [cblks_length] at hvo hco
  subst hvo
  by_cases hlt : 64 * j < size
  ·have hlt' : 64 * (j : Int) < (size : Int) := by omega
   obtain ⟨N, hN⟩ : ∃ N, N = n + BitVec.ofNat 32 j := ⟨_, rfl⟩
   have hN2 : (V N + 1) % (4294967296 : Int) = V (n + BitVec.ofNat 32 (j + 1)) := by rw [hN]; exact V_up n j
   have hb := fun wx => BL.out N wx
   obtain ⟨T, hT⟩ : ∃ T, T = cblk key nonce N := ⟨_, rfl⟩
   have hTl : T.length = 64 := by rw [hT]; exact cblk_length _ _ _
   have hnx : cblks key nonce n (j + 1) = cblks key nonce n j ++ T := by rw [hT, hN]; rfl
   obtain ⟨F, hF⟩ : ∃ F, F = (u8s T).toArray := ⟨_, rfl⟩
   have hFs : F.size = 64 := by rw [hF]; simp [u8s, hTl]
   have hFo : F.all (·.oneCell') = true := by rw [hF]; exact u8s_one _
   rw [← hT, ← hF] at hb
   rw [← hN]
   have BJ := zh hb; have N2 := zh hN2; have TL := zh hTl; have NX := zh hnx; have HF := zh hF; have FS := zh hFs; have FO := zh hFo; have OO := zh hI.o; have BB := zh hI.b; have CC := zh hI.c; have DD := zh hI.d; have BLN := zh (cblks_length key nonce n j)
   clear hb hN2 hTl hnx hF hFs hFo hI hT hN hco
   go_wp2_with (first
    | (refine wpList_load_all zr 22 _ zr w.heap.size zr _ Tryz.underlying22 zr C _ CC.out (by rw [CS.out]; exact info32b) ?_)
    | (refine wpList_load_all zr 136 _ zr (w.heap.size + 1) zr _ Tryz.underlying136 zr D _ DD.out (by rw [DS.out]; exact info12) ?_)
    | (go_at_call 113; refine (BJ.out _).mono ?_; rintro e w2 ⟨rfl, hb2⟩; have O2 := zh (OO.out.below hb2); have C2 := zh (CC.out.below hb2 CC.out.lt); have D2 := zh (DD.out.below hb2 DD.out.lt); have B2 := zh (BB.out.trans (hb2.mono BB.out.size)); clear hb2)
    | (refine wpList_store_new zr 165 _ _ zr zr F _ _ zr zr (by rw [FS.out]; exact cinfo64) (by rw [FS.out, XS.out]) FO.out ?_; have F3 := zh (at_new w2 F 165); have O3 := zh (O2.out.below ((Below.refl _ _).alloc (Nat.le_refl _) (.cells F 165))); have C3 := zh (C2.out.alloc (.cells F 165)); have D3 := zh (D2.out.alloc (.cells F 165)); have B3 := zh (B2.out.alloc B2.out.size (.cells F 165)); generalize w2.alloc (.cells F 165) = w3 at *; generalize w2.heap.size = bd at *)
    | (at_builtin; refine wpList_append_bytes zr _ _ zr (w.heap.size + 1 + 1) (.slice ao (64 * j) co) (.slice (some ⟨bd, 0, none⟩) 64 64) (cblks key nonce n j) T zr O3.out zr (at_sl (by have h := F3.out; rw [HF.out] at h; exact h) TL.out) (by rw [TL.out, BLN.out]; omega) (by have := D3.out.lt; omega) ?_; intro v4 w4 ho4 hk4 hb4; have O4 : Hid (OwnB w4 (w.heap.size + 1 + 1) v4 (cblks key nonce n (j + 1))) := (by rw [NX.out]; exact ho4); have C4 := zh (C3.out.below hb4 (by omega)); have D4 := zh (D3.out.below hb4 (by omega)); have B4 := zh (B3.out.trans (hb4.mono (by omega))); clear ho4 hk4 hb4))
   rw [N2.out]
   go_roundw
   case rel => exact ⟨j + 1, by omega, rfl, O4.out, C4.out, D4.out, B4.out⟩
   case measure =>
    obtain ⟨a5, c5, hv5, _, _⟩ := O4.out.open
    rw [cblks_length] at hv5
    subst hv5
    simp only
    omega
  ·have hge : ¬ 64 * (j : Int) < (size : Int) := by omega
   have hst := cstream_from key nonce n size j (by omega)
   have hsl : ∀ a', (64 * j ≠ 0 → a' = ao) → Sl wr (.slice a' size co) (cstream key nonce n size) := fun a' ha => by
    obtain ⟨a6, c6, e6, _, hr6⟩ := hI.o.sl
    rw [cblks_length] at e6
    injection e6 with e61 _ e63
    have hl := cstream_length key nonce n size
    refine ⟨a', co, by rw [hl], by rw [hl]; omega, fun hne => ?_⟩
    have hp0 : 0 < size := by
     rcases Nat.eq_zero_or_pos size with h | h
     ·rw [h] at hl; exact absurd (List.eq_nil_of_length_eq_zero hl) (by rw [← h]; exact hne)
     ·exact h
    obtain ⟨bb, oo, e7, hlt7, hc7⟩ := hr6 (by intro e; have := cblks_length key nonce n j; rw [e] at this; simp at this; omega)
    refine ⟨bb, oo, by rw [ha (by omega), e61, e7], hlt7, fun i hi => ?_⟩
    rw [hl] at hi
    rw [hc7 i (by rw [cblks_length]; omega), ← hst]
    simp [List.getD_eq_getElem?_getD, hi]
   have hsz : size ≤ co := by omega
   have SL := zh hsl; have BB := zh hI.b
   clear hsl hst hI
   go_wp2_with fail
   go_ret
   refine ⟨_, rfl, ?_, BB.out⟩
   exact SL.out _ (fun _ => rfl)
theorem cturn_joinB (b s : List (BitVec 8)) (h : b.length = s.length) : cturn b s = joinB b s := by
 rw [cturn, ← h, List.drop_length, List.append_nil]; rfl
theorem splice_full (l : List (BitVec 8)) (n : Nat) (h : l.length = n) : Mem.splice (u8s (List.replicate n 0)).toArray 0 (u8s (l.take n)) = (u8s l).toArray := by
 subst h
 rw [List.take_length]
 have h1 : List.drop (0 + (u8s l).length) (u8s (List.replicate l.length 0)).toArray.toList = [] := List.drop_of_length_le (by simp [u8s])
 unfold Mem.splice
 rw [h1, List.take_zero, List.nil_append, List.append_nil]
theorem two_made {w w4 : World} {C D : Array Value} {m : Nat} (ho : w4.ownsRow ((w.alloc (.cells C 22)).alloc (.cells D 136)).heap.size 5 1 (.slice (some ⟨((w.alloc (.cells C 22)).alloc (.cells D 136)).heap.size, 0, none⟩) m m) m (madeCells (Value.int .u8 0).cells (m * 1)).toList)
 (hg : World.grownBy ((w.alloc (.cells C 22)).alloc (.cells D 136)) w4 none) :
 At w4 (w.heap.size + 1 + 1) (u8s (List.replicate m 0)).toArray 5 ∧ At w4 w.heap.size C 22 ∧ At w4 (w.heap.size + 1) D 136 ∧ Below w.heap.size w w4 := by
 have aC : At ((w.alloc (.cells C 22)).alloc (.cells D 136)) w.heap.size C 22 := (at_new w C _).alloc _
 have aD : At ((w.alloc (.cells C 22)).alloc (.cells D 136)) (w.heap.size + 1) D 136 := by
  have h := at_new (w.alloc (.cells C 22)) D 136
  simpa using h
 have aB : Below w.heap.size w ((w.alloc (.cells C 22)).alloc (.cells D 136)) := ((Below.refl _ _).alloc (Nat.le_refl _) _).alloc (by simp) _
 have key0 : ∀ b E t, At ((w.alloc (.cells C 22)).alloc (.cells D 136)) b E t → At w4 b E t := fun b E t h => by
  have hl := h.lt
  unfold At at *
  rw [hg.block b hl (by simp)]; exact h
 refine ⟨?_, key0 _ _ _ aC, key0 _ _ _ aD, aB.grown hg aB.size (fun _ h => by cases h)⟩
 have h := own_full ho
 rw [made_zeros] at h
 simpa using h
structure TuInv (L s : List (BitVec 8)) (g : Nat) (w wr : World) : Prop where
 row : At wr (w.heap.size + 1 + 1) (u8s L).toArray 5
 st : At wr g (u8s s).toArray 5
 b : Below w.heap.size w wr
set_option maxRecDepth 100000 in
set_option maxHeartbeats 2000000 in
theorem turned_any (key nonce : List (BitVec 8)) (n : BitVec 32) (l : List (BitVec 8)) (v : Value) (lk : key.length = 32) (ln : nonce.length = 12) (hz : l.length ≤ 1048576) (w : World) (hv : Sl w v l) (hL : CTabs w) :
 Calls Tryz.prog 92 #[.agg (u8s key).toArray, .agg (u8s nonce).toArray, .int .u32 (V n), v] w (SEnd w (cturn l (cstream key nonce n l.length))) := by
 have hst := fun wx (h : Below w.heap.size w wx) => stream_good key nonce n l.length lk ln hz wx (hL.below h (Nat.le_refl _))
 obtain ⟨s, hs⟩ : ∃ s, s = cstream key nonce n l.length := ⟨_, rfl⟩
 have ls : s.length = l.length := by rw [hs]; exact cstream_length _ _ _ _
 rw [← hs] at hst ⊢
 rw [cturn_joinB l s ls.symm]
 have hv0 := hv
 obtain ⟨a0, cap, rfl, _, _⟩ := hv
 have hsp := splice_full l l.length rfl
 have jl := joinTo_length l s ls.symm
 have jz := joinTo_zero l s
 have ja := joinTo_all l s ls.symm
 have jg := fun j hj => joinTo_get l s ls.symm j hj
 have js := fun j hj => joinTo_set l s ls.symm j hj
 have jB := joinB_length l s ls.symm
 obtain ⟨m, hm⟩ : ∃ m, m = l.length := ⟨_, rfl⟩
 rw [← hm] at hst hsp jl ja jg js jB ls hz hv0 ⊢
 have hmin : min (m : Int) 1048576 = (m : Int) := by omega
 have hmle : (m : Int) ≤ 1048576 := by omega
 have hmlt : ¬ (1048576 : Int) < (m : Int) := by omega
 obtain ⟨C, hC⟩ : ∃ C, C = (u8s key).toArray := ⟨_, rfl⟩
 obtain ⟨D, hD⟩ : ∃ D, D = (u8s nonce).toArray := ⟨_, rfl⟩
 have hCs : C.size = 32 := by rw [hC]; simp [u8s, lk]
 have hDs : D.size = 12 := by rw [hD]; simp [u8s, ln]
 rw [← hC, ← hD] at hst
 rw [← hC, ← hD]
 obtain ⟨i8, hi8, hz8, hs8, hb8⟩ := info_parts infoU8
 have ST := zh hst; have CS := zh hCs; have DS := zh hDs; have I8 := zh hi8; have Z8 := zh hz8; have S8 := zh hs8; have B8' := zh hb8; have HV := zh hv0; have SP := zh hsp
 have JL := zh jl; have JZ := zh jz; have JA := zh ja; have JG := zh jg; have JS := zh js; have JB := zh jB; have LS := zh ls; have HM := zh hm
 clear hst hCs hDs hi8 hz8 hs8 hb8 hC hD lk ln hL hv0 hsp jl jz ja jg js jB ls hm hs
 go_enter Tryz.func92, Tryz.ntmps92
 go_wp2_with (first
  | (refine wpList_make_full _ zr _ _ 39 zr ((w.alloc (.cells C 22)).alloc (.cells D 136)).heap.size 5 i8 (.int .u8 0) 1 Tryz.underlying39 I8.out Z8.out S8.out .i64 .i64 _ _ m zr zr rfl rfl (by rw [B8'.out]; omega) (by simp [maxLen]; omega) (Nat.le_refl _) ?_; intro w4 ho4 hg4; have hf := two_made ho4 hg4; have R4 := zh hf.1; have C4 := zh hf.2.1; have D4 := zh hf.2.2.1; have B4 := zh hf.2.2.2; clear ho4 hg4 hf)
  | (refine wpList_copy_sl zr _ _ zr (w.heap.size + 1 + 1) 0 m m (.slice a0 m cap) l zr zr (HV.out.below B4.out) m (by rw [← HM.out]; exact (Nat.min_self m).symm) _ _ R4.out (by simp [u8s]) _ SP.out ?_; intro w5 ha5 hs5 ho5 hbb5; have R5 := zh ha5; have C5 := zh (at_keep C4.out ho5 (by omega)); have D5 := zh (at_keep D4.out ho5 (by omega)); have B5 := zh (hbb5 _ _ B4.out (by omega)); clear ha5 hs5 ho5 hbb5)
  | (refine wpList_load_all zr 22 _ zr w.heap.size zr _ Tryz.underlying22 zr C _ C5.out (by rw [CS.out]; exact info32b) ?_)
  | (refine wpList_load_all zr 136 _ zr (w.heap.size + 1) zr _ Tryz.underlying136 zr D _ D5.out (by rw [DS.out]; exact info12) ?_))
 refine (ST.out _ B5.out).mono ?_
 rintro e w6 ⟨g, rfl, hg6, hgl, hb6⟩
 rw [LS.out]
 have I6 : Hid (TuInv (joinTo l s 0) s g w w6) := ⟨by rw [JZ.out]; exact R5.out.below hb6 R5.out.lt, hg6, B5.out.trans (hb6.mono B5.out.size)⟩
 have GNE : Hid (w.heap.size + 1 + 1 ≠ g) := by have := R5.out.lt; show w.heap.size + 1 + 1 ≠ g; omega
 have GLE : Hid (w.heap.size ≤ g) := Nat.le_trans B5.out.size hgl
 clear hg6 hgl hb6 R4 C4 D4 B4 R5 C5 D5 B5 ST HV SP
 go_wp2_with fail
 go_loopw [10, 11, 26] (fun _ _ i wr => ∃ j : Nat, j ≤ m ∧ i = .int .i64 j ∧ TuInv (joinTo l s j) s g w wr) (fun _ _ i _ => m - (intOf i).toNat)
 case atStart => exact ⟨0, by omega, rfl, I6.out⟩
 case round =>
  clear I6
  obtain ⟨j, hj, rfl, hI⟩ := hrel
  by_cases hlt : j < m
  ·obtain ⟨x, hxx⟩ : ∃ x, x = l.getD j 0 := ⟨_, rfl⟩
   obtain ⟨y, hyy⟩ : ∃ y, y = s.getD j 0 := ⟨_, rfl⟩
   have cj : wr.cell? ⟨w.heap.size + 1 + 1, j, none⟩ = some (.int .u8 (B8 x)) := by
    rw [hI.row.cell, List.getElem?_toArray, u8s_get _ _ (by rw [JL.out]; exact hlt), JG.out j hlt, hxx]; rfl
   have dj : wr.cell? ⟨g, j, none⟩ = some (.int .u8 (B8 y)) := by
    rw [hI.st.cell, List.getElem?_toArray, u8s_get _ _ (by rw [LS.out]; exact hlt), hyy]; rfl
   have hset : (u8s (joinTo l s j)).toArray.setIfInBounds j (.int .u8 (B8 (x ^^^ y))) = (u8s (joinTo l s (j + 1))).toArray := by
    rw [← JS.out j hlt, ← hxx, ← hyy]; exact u8s_set _ _ _
   have hEs : j < (u8s (joinTo l s j)).toArray.size := by rw [List.size_toArray, u8s_length, JL.out]; exact hlt
   have hk := hI.row
   obtain ⟨E, hE⟩ : ∃ E, E = (u8s (joinTo l s j)).toArray := ⟨_, rfl⟩
   rw [← hE] at hk hset hEs
   have KK := zh hk; have ST := zh hset; have DS := zh hEs; have SS := zh hI.st; have BB := zh hI.b
   have hlt' : (j : Int) < (m : Int) := by omega
   clear hk hset hEs hI hE hxx hyy
   go_wp2_with (refine Mem.wpList_store_one zr 5 _ _ zr zr (w.heap.size + 1 + 1) j (.int .u8 (B8 (x ^^^ y))) zr (by exact congrArg (Value.int .u8) (B8_xor x y)) zr infoB _ _ KK.out DS.out ?_; intro w7 a7 o7 b7; have K7 := zh a7; have S7 := zh (at_keep SS.out o7 (Ne.symm GNE.out)); have B7 := zh (b7 _ _ BB.out (by omega)); clear a7 o7 b7)
   go_roundw
   case rel => exact ⟨j + 1, by omega, by go_num, by rw [← ST.out]; exact K7.out, S7.out, B7.out⟩
   case measure => simp [intOf]; omega
  ·have hjm : j = m := by omega
   have hge : ¬ (j : Int) < (m : Int) := by omega
   rw [hjm, JA.out] at hI
   have II := zh hI
   clear hI hjm hlt hj
   go_wp2_with fail
   go_ret
   exact ⟨w.heap.size + 1 + 1, by rw [JB.out]; rfl, II.out.row, by omega, II.out.b⟩
end Sha
end Go.Proofs.YtajdpbbbocnfiaaGreatDoor
namespace Go.Proofs.YtajdpbbbocnfiaaGreatDoor
namespace Mem
open Go.RowKit
theorem OwnV.set {w : World} {B : Nat} {e : TypeId} {v : Value} {xs : List Value} (h : OwnV w B e v xs) (i : Nat) (u : Value) (hi : i < xs.length) :
 ∃ g cap C, v = .slice (some ⟨g, 0, none⟩) xs.length cap ∧ B ≤ g ∧ At w g C e ∧ i < C.size ∧ ∀ w', At w' g (C.setIfInBounds i u) e → OwnV w' B e v (xs.set i u) := by
 obtain ⟨_, h | ⟨g, cap, cur, rfl, hg, hh, hn, hc, hs, ht⟩⟩ := h
 ·obtain ⟨_, h0⟩ := h
  omega
 ·refine ⟨g, cap, cur, rfl, hg, hh, by rw [hs]; omega, fun w' hw' => ⟨by simp, .inr ⟨g, cap, cur.setIfInBounds i u, by rw [List.length_set], hg, hw', by rw [List.length_set]; exact hn, hc, by rw [Array.size_setIfInBounds]; exact hs, ?_⟩⟩⟩
  rw [List.length_set, Array.toList_setIfInBounds, List.take_set, ht]
end Mem
namespace Sha
open Go.RowKit Mem
structure RTInv (L : List (BitVec 8)) (v : Value) (hs : Nat) (w wr : World) : Prop where
 o : OwnB wr hs v L
 b : Below hs w wr
def ROEnd (w : World) (L : List (BitVec 8)) (e : Ending) (w' : World) : Prop := ∃ v, e = .returned v ∧ OwnB w' w.heap.size v L ∧ Below w.heap.size w w'
set_option maxRecDepth 100000 in
set_option maxHeartbeats 2000000 in
theorem rturned_own (key nonce : List (BitVec 8)) (n : BitVec 32) (l : List (BitVec 8)) (v : Value) (lk : key.length = 32) (ln : nonce.length = 12) (hz : l.length ≤ 1048576) (w : World) (hv : Sl w v l) :
 Calls Tryz.prog 79 #[.agg (u8s key).toArray, .agg (u8s nonce).toArray, .int .u32 (V n), v] w (ROEnd w (cturn l (cstream key nonce n l.length))) := by
 have hst := fun wx => rstream_good key nonce n l.length lk ln hz wx
 obtain ⟨s, hs⟩ : ∃ s, s = cstream key nonce n l.length := ⟨_, rfl⟩
 have ls : s.length = l.length := by rw [hs]; exact cstream_length _ _ _ _
 rw [← hs] at hst ⊢
 rw [cturn_joinB l s ls.symm]
 have hv0 := hv
 obtain ⟨a0, cap, rfl, _, _⟩ := hv
 have jl := joinTo_length l s ls.symm
 have jz := joinTo_zero l s
 have ja := joinTo_all l s ls.symm
 have js := fun j hj => joinTo_set l s ls.symm j hj
 obtain ⟨m, hm⟩ : ∃ m, m = l.length := ⟨_, rfl⟩
 rw [← hm] at hst jl ja js ls hz hv0 ⊢
 have hmin : min (m : Int) 1048576 = (m : Int) := by omega
 have hmle : (m : Int) ≤ 1048576 := by omega
 have hmlt : ¬ (1048576 : Int) < (m : Int) := by omega
 obtain ⟨C, hC⟩ : ∃ C, C = (u8s key).toArray := ⟨_, rfl⟩
 obtain ⟨D, hD⟩ : ∃ D, D = (u8s nonce).toArray := ⟨_, rfl⟩
 have hCs : C.size = 32 := by rw [hC]; simp [u8s, lk]
 have hDs : D.size = 12 := by rw [hD]; simp [u8s, ln]
 rw [← hC, ← hD] at hst
 rw [← hC, ← hD]
 have aC : At ((w.alloc (.cells C 22)).alloc (.cells D 136)) w.heap.size C 22 := (at_new w C _).alloc _
 have aD : At ((w.alloc (.cells C 22)).alloc (.cells D 136)) (w.heap.size + 1) D 136 := by
  have h := at_new (w.alloc (.cells C 22)) D 136
  simpa using h
 have aB : Below w.heap.size w ((w.alloc (.cells C 22)).alloc (.cells D 136)) := ((Below.refl _ _).alloc (Nat.le_refl _) _).alloc (by simp) _
 have ST := zh hst; have CS := zh hCs; have DS := zh hDs; have AC := zh aC; have AD := zh aD; have AB := zh aB; have HV := zh hv0
 have JL := zh jl; have JZ := zh jz; have JA := zh ja; have JS := zh js; have LS := zh ls; have HM := zh hm
 clear hst hCs hDs aC aD aB hC hD lk ln hv0 jl jz ja js ls hm hs
 go_enter Tryz.func79, Tryz.ntmps79
 go_wp2_with (first
  | (refine wpList_load_all zr 22 _ zr w.heap.size zr _ Tryz.underlying22 zr C _ AC.out (by rw [CS.out]; exact info32b) ?_)
  | (refine wpList_load_all zr 136 _ zr (w.heap.size + 1) zr _ Tryz.underlying136 zr D _ AD.out (by rw [DS.out]; exact info12) ?_))
 refine (ST.out _).mono ?_
 rintro e w4 ⟨vs, rfl, hs4, hb4⟩
 have B4 := zh (AB.out.trans (hb4.mono AB.out.size)); have HV4 := zh (HV.out.below (AB.out.trans (hb4.mono AB.out.size)))
 have HS4 := hs4
 obtain ⟨a2, c2, rfl, _, _⟩ := hs4
 rw [LS.out] at HS4 ⊢
 have HS4' := zh HS4
 clear hb4 HS4 AC AD AB HV ST
 go_wp2_with (first | (at_builtin; refine wpList_append_bytes zr _ _ zr w4.heap.size (.slice none 0 0) (.slice a0 m cap) [] l zr (OwnB.nil _ _) zr HV4.out (by rw [List.length_nil, ← HM.out]; omega) (Nat.le_refl _) ?_; intro v5 w5 ho5 _ hb5; have O5 : Hid (OwnB w5 w4.heap.size v5 (joinTo l s 0)) := (by rw [JZ.out]; exact ho5); have B5 := zh hb5; clear ho5 hb5))
 have I5 : Hid (RTInv (joinTo l s 0) v5 w4.heap.size w4 w5) := ⟨O5.out, B5.out⟩
 obtain ⟨hs4, hhs⟩ : ∃ h, h = w4.heap.size := ⟨_, rfl⟩
 have HB4 : Hid (w.heap.size ≤ hs4) := by rw [hhs]; exact B4.out.size
 have HSZ := zh hhs
 rw [← hhs] at I5
 clear O5 B5 hhs
 go_loopw [11] (fun i wr => ∃ j : Nat, j ≤ m ∧ i = .int .i64 j ∧ RTInv (joinTo l s j) v5 hs4 w4 wr) (fun i _ => m - (intOf i).toNat)
 case atStart => exact ⟨0, by omega, rfl, I5.out⟩
 case round =>
  clear I5
  obtain ⟨j, hj, rfl, hI⟩ := hrel
  by_cases hlt : j < m
  ·obtain ⟨x, hxx⟩ : ∃ x, x = l.getD j 0 := ⟨_, rfl⟩
   obtain ⟨y, hyy⟩ : ∃ y, y = s.getD j 0 := ⟨_, rfl⟩
   have hv4 := HV4.out
   have hs5 := HS4'.out
   rw [HM.out] at hv4
   obtain ⟨b1, o1, hb1, cx⟩ := sl_at (i := j) hv4 (by rw [← HM.out]; exact hlt)
   rw [← LS.out] at hs5
   obtain ⟨b2, o2, hb2, cy⟩ := sl_at (i := j) hs5 (by rw [LS.out]; exact hlt)
   rw [hb1, hb2]
   rw [← hxx] at cx
   rw [← hyy] at cy
   have l1 : b1 < hs4 := by rw [HSZ.out]; exact block_lt_of_cell cx
   have l2 : b2 < hs4 := by rw [HSZ.out]; exact block_lt_of_cell cy
   have hset : (u8s (joinTo l s j)).set (0 + j) (.int .u8 (B8 (x ^^^ y))) = u8s (joinTo l s (j + 1)) := by
    rw [← JS.out j hlt, Nat.zero_add, ← hxx, ← hyy]; simp [u8s, List.map_set]; rfl
   obtain ⟨g, co, E, hv5, hg, hE, hEs, hnew⟩ := OwnV.set (ownB_V hI.o) (0 + j) (.int .u8 (B8 (x ^^^ y))) (by rw [u8s_length, JL.out]; omega)
   rw [hset] at hnew
   rw [u8s_length, JL.out] at hv5
   rw [hv5] at hnew ⊢
   have KK := zh hE; have ES := zh hEs; have NW := zh hnew; have BB := zh hI.b; have C1 := zh cx; have C2 := zh cy; have L1 := zh l1; have L2 := zh l2; have HG := zh hg; have HV5 := zh hv5
   have hlt' : (j : Int) < (m : Int) := by omega
   clear hI hE hEs hnew cx cy l1 l2 hg hset hxx hyy hv4 hs5 hb1 hb2 hv5
   go_wp2_with fail
   refine wp_region_plan_in (fun w' => Below hs4 w4 w') ((.take 0 (.take 1 (.take 2 (.take 3 (.take 4 (.take 5 (.take 6 (.take 7 (.take 8 (.take 9 (.take 10 (.take 11 (.sole 12 .done)))))))))))))) (by kernel_rfl) (by kernel_rfl) (by kernel_rfl) BB.out.drew ?_
   (first | refine Mem.pm1 ?_ | refine Mem.pm2 ?_ | refine Mem.pt ?_ | refine Mem.pf ?_)
   (simp only [Act.put, Mem.pa, Mem.pb, Mem.pc])
   (first | refine Mem.pm1 ?_ | refine Mem.pm2 ?_ | refine Mem.pt ?_ | refine Mem.pf ?_)
   (simp only [Act.put, Mem.pa, Mem.pb, Mem.pc])
   (first | refine Mem.pm1 ?_ | refine Mem.pm2 ?_ | refine Mem.pt ?_ | refine Mem.pf ?_)
   (simp only [Act.put, Mem.pa, Mem.pb, Mem.pc])
   (first | refine Mem.pm1 ?_ | refine Mem.pm2 ?_ | refine Mem.pt ?_ | refine Mem.pf ?_)
   (simp only [Act.put, Mem.pa, Mem.pb, Mem.pc])
   refine plan_index 39 5 _ _ b1 o1 m cap j zr zr zr Mem.ev_a Mem.ev_a (by omega) Tryz.underlying39 (by kernel_rfl) ?_
   (simp only [Act.put, Mem.pa, Mem.pb, Mem.pc])
   refine plan_cell 5 _ _ _ _ zr zr zr Mem.ev_a (fun w' hw' => (hw'.cell (p := ⟨b1, o1 + j, none⟩) L1.out).trans C1.out) Tryz.underlying5 zr ?_
   (simp only [Act.put, Mem.pa, Mem.pb, Mem.pc])
   (first | refine Mem.pm1 ?_ | refine Mem.pm2 ?_ | refine Mem.pt ?_ | refine Mem.pf ?_)
   (simp only [Act.put, Mem.pa, Mem.pb, Mem.pc])
   (first | refine Mem.pm1 ?_ | refine Mem.pm2 ?_ | refine Mem.pt ?_ | refine Mem.pf ?_)
   (simp only [Act.put, Mem.pa, Mem.pb, Mem.pc])
   refine plan_index 39 5 _ _ b2 o2 m c2 j zr zr zr Mem.ev_a Mem.ev_a (by omega) Tryz.underlying39 (by kernel_rfl) ?_
   (simp only [Act.put, Mem.pa, Mem.pb, Mem.pc])
   refine plan_cell 5 _ _ _ _ zr zr zr Mem.ev_a (fun w' hw' => (hw'.cell (p := ⟨b2, o2 + j, none⟩) L2.out).trans C2.out) Tryz.underlying5 zr ?_
   (simp only [Act.put, Mem.pa, Mem.pb, Mem.pc])
   refine plan_bin _ _ _ _ _ _ _ _ zr zr zr Mem.ev_a Mem.ev_a (fun wx => o_xorb _ _ _ _ _ _ wx) ?_
   (simp only [Act.put, Mem.pa, Mem.pb, Mem.pc])
   refine plan_index 39 5 _ _ g 0 m co j zr zr zr Mem.ev_a Mem.ev_a (by omega) Tryz.underlying39 (by kernel_rfl) ?_
   (simp only [Act.put, Mem.pa, Mem.pb, Mem.pc])
   refine plan_store_one 5 _ _ g (0 + j) (.int .u8 (B8 (x ^^^ y))) E 5 zr zr zr zr Mem.ev_a Mem.ev_a zr infoB KK.out ES.out (BB.out.drew.setCell HG.out _) ?_
   refine plan_nil ?_
   have o7 : OwnB (wr.drew.setCell ⟨g, 0 + j, none⟩ (.int .u8 (B8 (x ^^^ y)))) hs4 v5 (joinTo l s (j + 1)) := by
    rw [HV5.out]; exact ownV_B (NW.out _ (At.set (w := wr.drew) KK.out _ _))
   have I7 : Hid (RTInv (joinTo l s (j + 1)) v5 hs4 w4 (wr.drew.setCell ⟨g, 0 + j, none⟩ (.int .u8 (B8 (x ^^^ y))))) := ⟨o7, BB.out.drew.setCell HG.out _⟩
   clear o7
   generalize wr.drew.setCell ⟨g, 0 + j, none⟩ (.int .u8 (B8 (x ^^^ y))) = w7 at *
   go_wp2_with fail
   go_roundw
   case rel => exact ⟨j + 1, by omega, by go_num, by have h := I7.out; rw [HV5.out] at h; exact h⟩
   case measure => simp [intOf]; omega
  ·have hjm : j = m := by omega
   have hge : ¬ (j : Int) < (m : Int) := by omega
   rw [hjm, JA.out] at hI
   have II := zh hI
   clear hI hjm hlt hj
   go_wp2_with fail
   go_ret
   exact ⟨_, rfl, ownsRow_base II.out.o HB4.out, B4.out.trans (II.out.b.mono HB4.out)⟩
end Sha
end Go.Proofs.YtajdpbbbocnfiaaGreatDoor
namespace Go.Proofs.YtajdpbbbocnfiaaGreatDoor
namespace Sha
open Go.RowKit Mem
theorem conv_i64u (z : Int) (bb : BitVec 64) (hb : bb = BitVec.ofNat 64 z.toNat) (h0 : 0 ≤ z) (h1 : z ≤ 9223372036854775807) (w : World) : (convert 3 138 (.int .i64 z)).run Tryz.prog w = .ok (.int .u64 (bb.toNat : Int)) w := by
 have e : (bb.toNat : Int) = z := by rw [hb, BitVec.toNat_ofNat]; omega
 rw [e]
 have h2 : IntKind.u64.wrap z = z := by rw [IntKind.wrap_u64]; omega
 go_simp
def sealL (key : List (BitVec 8)) (ep : BitVec 32) (block : Int) (page : List (BitVec 8)) : List (BitVec 8) := cturn page (cstream key (cnonce ep (BitVec.ofNat 64 block.toNat)) 0 page.length)
theorem sealL_length (key : List (BitVec 8)) (ep : BitVec 32) (block : Int) (page : List (BitVec 8)) : (sealL key ep block page).length = page.length := cturn_length _ _ (by rw [cstream_length]; exact Nat.le_refl _)
theorem sealL_back (key : List (BitVec 8)) (ep : BitVec 32) (block : Int) (page : List (BitVec 8)) : sealL key ep block (sealL key ep block page) = page := by
 show cturn (sealL key ep block page) (cstream key _ 0 (sealL key ep block page).length) = page
 rw [sealL_length]
 exact cturn_back _ _ (by rw [cstream_length]; exact Nat.le_refl _)
def sealBad (block : Int) (page : List (BitVec 8)) : Bool := decide (page.length ≠ 256 ∨ block < 0)
def sealR (key : List (BitVec 8)) (ep : BitVec 32) (block : Int) (page : List (BitVec 8)) : List (BitVec 8) × Int := if sealBad block page then ([], 1) else (sealL key ep block page, 0)
def hideR (key : List (BitVec 8)) (ep : BitVec 32) (place block : Int) (page : List (BitVec 8)) : List (BitVec 8) × RefV × Int :=
 if sealBad block page || decide (place < 0 ∨ 1 < place) then ([], zref, 1) else (sealL key ep block page, ⟨place, ep, digestOf (sealL key ep block page)⟩, 0)
def openR (key : List (BitVec 8)) (r : RefV) (block : Int) (x : List (BitVec 8)) : List (BitVec 8) × Int :=
 if sealBad block x then ([], 1) else if digestOf x ≠ r.dg then ([], 9) else (sealL key r.ep block x, 0)
theorem wf_dig (place : Int) (ep : BitVec 32) (l : List (BitVec 8)) (h0 : 0 ≤ place) (h1 : place ≤ 1) : RefV.Wf ⟨place, ep, digestOf l⟩ := by
 have hd := digestOf_length l
 generalize digestOf l = D at *
 exact ⟨by show _ ≤ place; omega, by show place ≤ _; omega, hd⟩
theorem hideR_wf (key : List (BitVec 8)) (ep : BitVec 32) (place block : Int) (page : List (BitVec 8)) : (hideR key ep place block page).2.1.Wf := by
 unfold hideR
 split
 ·exact zref_wf
 ·rename_i h
  simp at h
  exact wf_dig place ep _ (by omega) (by omega)
set_option maxRecDepth 100000 in
set_option maxHeartbeats 4000000 in
theorem rseal_own (key : List (BitVec 8)) (lk : key.length = 32) (ep : BitVec 32) (block : Int) (hbk : block ≤ 9223372036854775807) (page : List (BitVec 8)) (v : Value) (w : World) (hv : Sl w v page) (hp : page.length ≤ 1048576) :
 Calls Tryz.prog 69 #[.agg (u8s key).toArray, .int .u32 (V ep), .int .i64 block, v] w (SealOwn w (sealR key ep block page).1 (sealR key ep block page).2) := by
 obtain ⟨a0, c0, rfl⟩ := sl_inv hv
 obtain ⟨n, hn⟩ : ∃ n, n = page.length := ⟨_, rfl⟩
 have ha : Below w.heap.size w (w.alloc (.cells (u8s key).toArray 22)) := (Below.refl _ _).alloc (Nat.le_refl _) _
 by_cases h1 : page.length = 256
 ·by_cases h2 : block < 0
  ·have e0 : sealR key ep block page = ([], 1) := by simp [sealR, sealBad, h2]
   rw [e0, h1]
   have BA := zh ha
   clear ha hv hn e0
   go_enter Tryz.func69, Tryz.ntmps69
   go_wp2_with fail
   go_ret2
   exact ⟨_, rfl, OwnB.nil _ _, BA.out⟩
  ·have e0 : sealR key ep block page = (sealL key ep block page, 0) := by simp [sealR, sealBad, h1, h2]
   rw [e0]
   obtain ⟨bb, hbb⟩ : ∃ bb, bb = BitVec.ofNat 64 block.toNat := ⟨_, rfl⟩
   have cv := fun wx => conv_i64u block bb hbb (by omega) hbk wx
   have non := fun wx => rnonce_any ep bb wx
   have rt : ∀ wx, Sl wx (.slice a0 256 c0) page → Calls Tryz.prog 79 #[.agg (u8s key).toArray, .agg (ncOf ep bb), .int .u32 0, .slice a0 256 c0] wx (ROEnd wx (sealL key ep block page)) := fun wx h => by
    have k := rturned_own key (cnonce ep bb) 0 page _ lk (cnonce_length _ _) hp wx h
    unfold sealL
    rw [← hbb]
    exact k
   rw [h1] at hv ⊢
   obtain ⟨C, hC⟩ : ∃ C, C = (u8s key).toArray := ⟨_, rfl⟩
   have cs : C.size = 32 := by rw [hC]; simp [u8s_length, lk]
   rw [← hC] at rt ha ⊢
   have an := at_new w C 22
   have h2' : ¬ block < 0 := h2
   obtain ⟨L, hL⟩ : ∃ L, L = sealL key ep block page := ⟨_, rfl⟩
   rw [← hL] at rt ⊢
   have CV := zh cv; have NON := zh non; have RT := zh rt; have CS := zh cs; have A1 := zh an; have BA := zh ha; have S1 := zh (hv.below ha)
   clear cv non rt cs an ha hv hC hL hbb e0 h1 hn lk hp
   obtain ⟨nc, hnc⟩ : ∃ nc, nc = ncOf ep bb := ⟨_, rfl⟩
   rw [← hnc] at NON RT
   clear hnc
   go_enter Tryz.func69, Tryz.ntmps69
   go_wp2_with fail
   obtain ⟨b1, hb1⟩ : ∃ b1, b1 = w.heap.size := ⟨_, rfl⟩
   rw [← hb1] at A1 ⊢
   clear hb1
   generalize w.alloc (.cells C 22) = w1 at *
   have B1 : Hid (Below w1.heap.size w1 w1.drew) := zh (Below.refl _ _).drew
   refine wp_region_plan_in (fun x => Below w1.heap.size w1 x) (.take 0 (.take 1 (.take 2 (.take 3 (.take 5 (.sole 4 (.sole 6 (.take 7 (.take 8 .done))))))))) (by kernel_rfl) (by kernel_rfl) (by kernel_rfl) B1.out ?_
   refine plan_row 22 _ b1 _ C 22 zr zr zr Mem.ev_a (fun w' hw' => A1.out.below hw' A1.out.lt) Tryz.underlying22 zr (by rw [CS.out]; exact infoDg) ?_
   (simp only [Act.put, Mem.pa, Mem.pb, Mem.pc])
   (first | refine Mem.pm1 ?_ | refine Mem.pm2 ?_ | refine Mem.pt ?_ | refine Mem.pf ?_)
   (simp only [Act.put, Mem.pa, Mem.pb, Mem.pc])
   (first | refine Mem.pm1 ?_ | refine Mem.pm2 ?_ | refine Mem.pt ?_ | refine Mem.pf ?_)
   (simp only [Act.put, Mem.pa, Mem.pb, Mem.pc])
   refine plan_conv 3 138 _ (.int .i64 block) (.int .u64 (bb.toNat : Int)) zr zr zr Mem.ev_a (fun wx => CV.out wx) ?_
   (simp only [Act.put, Mem.pa, Mem.pb, Mem.pc])
   (first | refine Mem.pm1 ?_ | refine Mem.pm2 ?_ | refine Mem.pt ?_ | refine Mem.pf ?_)
   (simp only [Act.put, Mem.pa, Mem.pb, Mem.pc])
   refine plan_call 80 _ _ _ (by kernel_rfl) zr zr zr (by first | exact Mem.ev_none _ | (simp only [List.map_toArray, List.map_cons, List.map_nil, Mem.ev_tmp, List.getD_cons_succ, List.getD_cons_zero] <;> rfl)) ?_
   refine (NON.out _).mono ?_
   rintro o2 w2 ⟨rfl, hb⟩
   have B2 : Hid (Below w1.heap.size w1 w2) := zh (B1.out.trans (hb.mono B1.out.size))
   clear hb
   refine ⟨_, rfl, B2.out, ?_⟩
   (simp only [Act.put, Mem.pa, Mem.pb, Mem.pc])
   refine plan_call 79 _ _ _ (by kernel_rfl) zr zr zr (by first | exact Mem.ev_none _ | (simp only [List.map_toArray, List.map_cons, List.map_nil, Mem.ev_tmp, List.getD_cons_succ, List.getD_cons_zero] <;> rfl)) ?_
   refine (RT.out _ (S1.out.below B2.out)).mono ?_
   rintro o3 w3 ⟨v3, rfl, hs, hb⟩
   have B3 : Hid (Below w1.heap.size w1 w3) := zh (B2.out.trans (hb.mono B2.out.size))
   have S3 := zh hs
   clear hs hb
   refine ⟨_, rfl, B3.out, ?_⟩
   (simp only [Act.put, Mem.pa, Mem.pb, Mem.pc])
   (first | refine Mem.pm1 ?_ | refine Mem.pm2 ?_ | refine Mem.pt ?_ | refine Mem.pf ?_)
   (simp only [Act.put, Mem.pa, Mem.pb, Mem.pc])
   (first | refine Mem.pm1 ?_ | refine Mem.pm2 ?_ | refine Mem.pt ?_ | refine Mem.pf ?_)
   (simp only [Act.put, Mem.pa, Mem.pb, Mem.pc])
   refine plan_nil ?_
   go_wp2_with fail
   go_ret2
   exact ⟨_, rfl, ownsRow_base S3.out (Nat.le_trans BA.out.size B2.out.size), BA.out.trans (B3.out.mono BA.out.size)⟩
 ·have h1' : ¬ (n : Int) = 256 := by omega
  have e0 : sealR key ep block page = ([], 1) := by simp [sealR, sealBad, h1]
  rw [e0, ← hn]
  have BA := zh ha
  clear ha hv hn e0 h1 hp
  go_enter Tryz.func69, Tryz.ntmps69
  go_wp2_with fail
  go_ret2
  exact ⟨_, rfl, OwnB.nil _ _, BA.out⟩
set_option maxRecDepth 100000 in
set_option maxHeartbeats 4000000 in
theorem rhide_own (key : List (BitVec 8)) (lk : key.length = 32) (ep : BitVec 32) (place block : Int) (hp0 : -9223372036854775808 ≤ place) (hp1 : place ≤ 9223372036854775807) (hbk : block ≤ 9223372036854775807) (page : List (BitVec 8)) (v : Value) (w : World) (hv : Sl w v page) (hp : page.length ≤ 1048576) :
 Calls Tryz.prog 39 #[.agg (u8s key).toArray, .int .u32 (V ep), .int .i64 place, .int .i64 block, v] w (ThreeOwn w (hideR key ep place block page).1 (hideR key ep place block page).2.1 (hideR key ep place block page).2.2) := by
 have rs := fun wx (h : Below w.heap.size w wx) => rseal_own key lk ep block hbk page v wx (hv.below h) hp
 obtain ⟨C, hC⟩ : ∃ C, C = (u8s key).toArray := ⟨_, rfl⟩
 have cs : C.size = 32 := by rw [hC]; simp [u8s_length, lk]
 rw [← hC] at rs ⊢
 obtain ⟨Z, hZ⟩ : ∃ Z, Z = refC zref := ⟨_, rfl⟩
 have zs : Z.size = 34 := by rw [hZ]; exact refC_size zref_wf
 have zo : Z.all (·.oneCell') = true := by rw [hZ]; exact refC_one _
 have hx : ∀ w, (zeroValue 36).run Tryz.prog w = .ok (.agg Z) w := by rw [hZ]; exact zeroRfR
 have bn : ∀ w, (Instr.build 36 #[]).run Tryz.prog w = .ok (.agg Z) w := by rw [hZ]; exact buildRf0
 have ak := (at_new w C 22).alloc (.cells Z 36)
 have az : At ((w.alloc (.cells C 22)).alloc (.cells Z 36)) (w.heap.size + 1) Z 36 := by
  have h := at_new (w.alloc (.cells C 22)) Z 36
  simpa using h
 have bz : Below w.heap.size w ((w.alloc (.cells C 22)).alloc (.cells Z 36)) := ((Below.refl _ _).alloc (Nat.le_refl _) _).alloc (by simp) _
 by_cases hb : sealBad block page = true
 ·have e1 : hideR key ep place block page = ([], zref, 1) := by simp [hideR, hb]
  have e2 : sealR key ep block page = ([], 1) := by simp [sealR, hb]
  rw [e2] at rs
  rw [e1]
  have RS := zh rs; have CS := zh cs; have ZS := zh zs; have ZO := zh zo; have BN := zh bn; have AK := zh ak; have AZ := zh az; have BZ := zh bz; have HZ := zh hZ
  clear rs cs zs zo bn ak az bz hC hZ hb e1 e2 hv hp lk
  go_enter Tryz.func39, Tryz.ntmps39
  go_upto_region 1 with fail
  clear hx
  generalize (w.alloc (.cells C 22)).alloc (.cells Z 36) = w1 at *
  go_wp2_with (refine wpList_load_all zr 22 _ zr w.heap.size zr _ Tryz.underlying22 zr C _ AK.out (by rw [CS.out]; exact infoDg) ?_)
  refine (RS.out w1 BZ.out).mono ?_
  rintro e w2 ⟨v2, rfl, _, hb2⟩
  have AZ2 := zh (AZ.out.below hb2 AZ.out.lt); have B2 := zh (BZ.out.trans (hb2.mono BZ.out.size))
  clear hb2 AZ AK BZ RS
  go_wp2_with (first
   | (refine Mem.wpList_build zr 36 _ #[] (.agg Z) zr (by simp) BN.out ?_)
   | (refine wpList_store_all zr 36 _ _ zr zr (w.heap.size + 1) Z zr zr (by rw [ZS.out]; exact infoRfR) Z 36 AZ2.out zr ZO.out ?_))
  try simp only [Exit.inBlock, Exit.then]
  refine ret_tmp_row_tmp zr (w.heap.size + 1) 36 Z _ (.slice none 0 0) (.int .i64 1) zr zr zr (AZ2.out.row Z) Tryz.underlying36 zr (by rw [ZS.out]; exact infoRfR) ?_
  exact ⟨_, by rw [HZ.out], OwnB.nil _ _, below_row B2.out (Nat.le_succ _) Z⟩
 ·have e2 : sealR key ep block page = (sealL key ep block page, 0) := by simp [sealR, hb]
  rw [e2] at rs
  obtain ⟨L, hL⟩ : ∃ L, L = sealL key ep block page := ⟨_, rfl⟩
  rw [← hL] at rs
  by_cases hpl : place < 0 ∨ 1 < place
  ·have e1 : hideR key ep place block page = ([], zref, 1) := by simp [hideR, hpl]
   rw [e1]
   have RS := zh rs; have CS := zh cs; have ZS := zh zs; have ZO := zh zo; have BN := zh bn; have AK := zh ak; have AZ := zh az; have BZ := zh bz; have HZ := zh hZ
   clear rs cs zs zo bn ak az bz hC hZ hb e1 e2 hv hp lk hL
   rcases hpl with g1 | g1
   ·go_enter Tryz.func39, Tryz.ntmps39
    go_upto_region 1 with fail
    clear hx
    generalize (w.alloc (.cells C 22)).alloc (.cells Z 36) = w1 at *
    go_wp2_with (refine wpList_load_all zr 22 _ zr w.heap.size zr _ Tryz.underlying22 zr C _ AK.out (by rw [CS.out]; exact infoDg) ?_)
    refine (RS.out w1 BZ.out).mono ?_
    rintro e w2 ⟨v2, rfl, _, hb2⟩
    have AZ2 := zh (AZ.out.below hb2 AZ.out.lt); have B2 := zh (BZ.out.trans (hb2.mono BZ.out.size))
    clear hb2 AZ AK BZ RS
    go_wp2_with (first
     | (refine Mem.wpList_build zr 36 _ #[] (.agg Z) zr (by simp) BN.out ?_)
     | (refine wpList_store_all zr 36 _ _ zr zr (w.heap.size + 1) Z zr zr (by rw [ZS.out]; exact infoRfR) Z 36 AZ2.out zr ZO.out ?_))
    try simp only [Exit.inBlock, Exit.then]
    refine ret_tmp_row_tmp zr (w.heap.size + 1) 36 Z _ (.slice none 0 0) (.int .i64 1) zr zr zr (AZ2.out.row Z) Tryz.underlying36 zr (by rw [ZS.out]; exact infoRfR) ?_
    exact ⟨_, by rw [HZ.out], OwnB.nil _ _, below_row B2.out (Nat.le_succ _) Z⟩
   ·have g0 : ¬ place < 0 := by omega
    go_enter Tryz.func39, Tryz.ntmps39
    go_upto_region 1 with fail
    clear hx
    generalize (w.alloc (.cells C 22)).alloc (.cells Z 36) = w1 at *
    go_wp2_with (refine wpList_load_all zr 22 _ zr w.heap.size zr _ Tryz.underlying22 zr C _ AK.out (by rw [CS.out]; exact infoDg) ?_)
    refine (RS.out w1 BZ.out).mono ?_
    rintro e w2 ⟨v2, rfl, _, hb2⟩
    have AZ2 := zh (AZ.out.below hb2 AZ.out.lt); have B2 := zh (BZ.out.trans (hb2.mono BZ.out.size))
    clear hb2 AZ AK BZ RS
    go_wp2_with (first
     | (refine Mem.wpList_build zr 36 _ #[] (.agg Z) zr (by simp) BN.out ?_)
     | (refine wpList_store_all zr 36 _ _ zr zr (w.heap.size + 1) Z zr zr (by rw [ZS.out]; exact infoRfR) Z 36 AZ2.out zr ZO.out ?_))
    try simp only [Exit.inBlock, Exit.then]
    refine ret_tmp_row_tmp zr (w.heap.size + 1) 36 Z _ (.slice none 0 0) (.int .i64 1) zr zr zr (AZ2.out.row Z) Tryz.underlying36 zr (by rw [ZS.out]; exact infoRfR) ?_
    exact ⟨_, by rw [HZ.out], OwnB.nil _ _, below_row B2.out (Nat.le_succ _) Z⟩
  ·have e1 : hideR key ep place block page = (L, ⟨place, ep, digestOf L⟩, 0) := by simp [hideR, hb, hpl, hL]
   rw [e1]
   have g0 : ¬ place < 0 := by omega
   have g1 : ¬ 1 < place := by omega
   have hll : L.length ≤ 1099511627776 := by rw [hL, sealL_length]; omega
   have hln : L.length = 256 := by rw [hL, sealL_length]; simp [sealBad] at hb; omega
   have sm := fun wx (vx : Value) (h : Sl wx vx L) => rsum_any L vx wx h hll
   obtain ⟨D, hD⟩ : ∃ D, D = dgOf L := ⟨_, rfl⟩
   have b3 : ∀ wx, (Instr.build 36 #[(0, .int .i64 place), (1, .int .u32 (V ep)), (2, .agg D)]).run Tryz.prog wx = .ok (.agg (refC ⟨place, ep, digestOf L⟩)) wx := fun wx => by rw [hD]; exact buildRf3 place ep (digestOf L) (digestOf_length _) wx
   rw [← hD] at sm
   obtain ⟨M, hM⟩ : ∃ M, M = refC ⟨place, ep, digestOf L⟩ := ⟨_, rfl⟩
   have ms : M.size = 34 := by rw [hM]; exact refC_size (wf_dig place ep L (by omega) (by omega))
   have mo : M.all (·.oneCell') = true := by rw [hM]; exact refC_one _
   rw [← hM] at b3
   have RS := zh rs; have CS := zh cs; have ZS := zh zs; have AK := zh ak; have AZ := zh az; have BZ := zh bz; have HM := zh hM; have MS := zh ms; have MO := zh mo; have B3 := zh b3; have SM := zh sm; have LN := zh hln
   clear hp0 hp1 hbk hln rs cs zs zo bn ak az bz hC hZ hb e1 e2 hv hp lk hL hpl sm b3 hM ms mo hD hll
   go_enter Tryz.func39, Tryz.ntmps39
   go_upto_region 1 with fail
   clear hx
   generalize (w.alloc (.cells C 22)).alloc (.cells Z 36) = w1 at *
   go_wp2_with (refine wpList_load_all zr 22 _ zr w.heap.size zr _ Tryz.underlying22 zr C _ AK.out (by rw [CS.out]; exact infoDg) ?_)
   refine (RS.out w1 BZ.out).mono ?_
   rintro e w2 ⟨v2, rfl, hs2, hb2⟩
   have AZ2 := zh (AZ.out.below hb2 AZ.out.lt); have B2 := zh (BZ.out.trans (hb2.mono BZ.out.size)); have S2 := zh hs2; have LT1 := zh AZ.out.lt
   clear hs2 hb2 AZ AK BZ RS
   go_wp2_with fail
   refine (SM.out w2 v2 (OwnB.sl S2.out)).mono ?_
   rintro e w3 ⟨rfl, hb3⟩
   have AZ3 := zh (AZ2.out.below hb3 AZ2.out.lt); have B4 := zh (B2.out.trans (hb3.mono B2.out.size)); have S3 := zh (ownsRow_below S2.out hb3)
   clear hb3 AZ2 B2 S2 SM
   go_wp2_with (first
    | (refine Mem.wpList_build zr 36 _ #[(0, .int .i64 place), (1, .int .u32 (V ep)), (2, .agg D)] (.agg M) zr (by simp [Act.eval]) B3.out ?_)
    | (refine wpList_store_all zr 36 _ _ zr zr (w.heap.size + 1) M zr zr (by rw [MS.out]; exact infoRfR) Z 36 AZ3.out (by rw [ZS.out, MS.out]) MO.out ?_))
   try simp only [Exit.inBlock, Exit.then]
   refine ret_tmp_row_tmp zr (w.heap.size + 1) 36 M _ v2 (.int .i64 0) zr zr zr (At.row (C := Z) AZ3.out M) Tryz.underlying36 zr (by rw [MS.out]; exact infoRfR) ?_
   refine ⟨_, by rw [HM.out], ?_, below_row B4.out (Nat.le_succ _) M⟩
   exact ownsRow_base (ownsRow_keep S3.out fun g hg => setRow_other w3 (w.heap.size + 1) g M (by have := (World.ownsRow.lt S3.out g hg).1; have := LT1.out; omega)) (by have := LT1.out; omega)
theorem sls_at {w : World} {a : Option Addr} {n cap : Nat} {ps : List (List (BitVec 8))} (h : Sls w (.slice a n cap) ps) {i : Nat} (hi : i < ps.length) :
 ∃ pb po vi, a = some ⟨pb, po, none⟩ ∧ pb < w.heap.size ∧ w.cell? ⟨pb, po + i, none⟩ = some vi ∧ Sl w vi (ps.getD i []) := by
 obtain ⟨a', cap', e, _, hr⟩ := h
 injection e with e1 _ _
 obtain ⟨pb, po, ea, hlt, hc⟩ := hr (by intro e; rw [e] at hi; simp at hi)
 obtain ⟨vi, h1, h2⟩ := hc i hi
 exact ⟨pb, po, vi, by rw [e1]; exact ea, hlt, h1, h2⟩
def pageL (l : List (BitVec 8)) : List (BitVec 8) := l.take 256 ++ List.replicate (256 - l.length) 0
theorem pageL_length (l : List (BitVec 8)) : (pageL l).length = 256 := by simp [pageL]; omega
theorem splice_page (l : List (BitVec 8)) (k : Nat) (hk : k = Nat.min l.length 256) : Mem.splice (u8s (List.replicate 256 0)).toArray 0 (u8s (l.take k)) = (u8s (pageL l)).toArray := by
 have hk' : k = min l.length 256 := hk
 have e1 : l.take k = l.take 256 := by
  rw [hk']
  rcases Nat.le_total l.length 256 with h | h
  ·rw [Nat.min_eq_left h, List.take_of_length_le (Nat.le_refl _), List.take_of_length_le h]
  ·rw [Nat.min_eq_right h]
 have e2 : (l.take 256).length = k := by rw [List.length_take, hk', Nat.min_comm]
 have e3 : (u8s (List.replicate 256 (0 : BitVec 8))).drop k = u8s (List.replicate (256 - l.length) 0) := by
  unfold u8s
  rw [← List.map_drop, List.drop_replicate, show 256 - k = 256 - l.length by omega]
 unfold Mem.splice pageL
 rw [e1, List.take_zero, List.nil_append, u8s_length, e2, Nat.zero_add]
 show (u8s (l.take 256) ++ (u8s (List.replicate 256 (0 : BitVec 8))).drop k).toArray = _
 rw [e3]
 unfold u8s
 rw [List.map_append]
theorem at_slB {F : Foot} {w : World} {g n : Nat} {l : List (BitVec 8)} {t : TypeId} (h : At w g (u8s l).toArray t) (hn : l.length = n) (hF : F g) : SlB F w (.slice (some ⟨g, 0, none⟩) n n) l := by
 subst hn
 refine ⟨by simp [u8s_length], some ⟨g, 0, none⟩, l.length, rfl, Nat.le_refl _, fun _ => ⟨g, 0, rfl, hF, h.lt, fun j u hu => ?_⟩⟩
 rw [h.cell, Nat.zero_add, List.getElem?_toArray]; exact hu
def SBEnd (w : World) (L : List (BitVec 8)) (e : Ending) (w' : World) : Prop := ∃ v, e = .returned v ∧ SlB (fun k => w.heap.size ≤ k) w' v L ∧ Below w.heap.size w w'
theorem send_sb {w w' : World} {L : List (BitVec 8)} {e : Ending} (h : SEnd w L e w') : SBEnd w L e w' := by
 obtain ⟨g, rfl, ha, hg, hb⟩ := h
 exact ⟨_, rfl, at_slB ha rfl hg, hb⟩
def SealBEnd (w : World) (l : List (BitVec 8)) (n : Int) (e : Ending) (w' : World) : Prop := ∃ v, e = .returned (.tuple #[v, .int .i64 n]) ∧ SlB (fun k => w.heap.size ≤ k) w' v l ∧ Below w.heap.size w w'
set_option maxRecDepth 100000 in
set_option maxHeartbeats 1000000 in
theorem pisBlock_any (block : Int) (l : List (BitVec 8)) (v : Value) (w : World) (hv : Sl w v l) : Calls Tryz.prog 77 #[.int .i64 block, v] w fun e w' => e = .returned (.bool (!(sealBad block l))) ∧ Below w.heap.size w w' := by
 obtain ⟨a0, c0, rfl⟩ := sl_inv hv
 by_cases h2 : block < 0
 ·have e0 : sealBad block l = true := by simp [sealBad, h2]
  rw [e0]
  obtain ⟨n, hn⟩ : ∃ n, n = l.length := ⟨_, rfl⟩
  rw [← hn]
  have h2' : ¬ (0 : Int) ≤ block := by omega
  clear hv e0 hn
  go_enter Tryz.func77, Tryz.ntmps77
  go_wp2_with fail
  go_ret
  exact ⟨rfl, Below.refl _ _⟩
 ·have h2' : (0 : Int) ≤ block := by omega
  by_cases h1 : l.length = 256
  ·have e0 : sealBad block l = false := by simp [sealBad, h1, h2]
   rw [e0, h1]
   clear hv e0 h1
   go_enter Tryz.func77, Tryz.ntmps77
   go_wp2_with fail
   go_ret
   exact ⟨rfl, Below.refl _ _⟩
  ·have e0 : sealBad block l = true := by simp [sealBad, h1]
   rw [e0]
   obtain ⟨n, hn⟩ : ∃ n, n = l.length := ⟨_, rfl⟩
   rw [← hn] at h1 ⊢
   have h1' : ((n : Int) == 256) = false := by
    have : ¬ (n : Int) = 256 := by omega
    simpa using this
   clear hv e0 hn
   go_enter Tryz.func77, Tryz.ntmps77
   go_wp2_with fail
   go_ret
   exact ⟨rfl, Below.refl _ _⟩
set_option maxRecDepth 100000 in
set_option maxHeartbeats 1000000 in
theorem pisPlace_any (place : Int) (w : World) : Calls Tryz.prog 63 #[.int .i64 place] w fun e w' => e = .returned (.bool (!(decide (place < 0 ∨ 1 < place)))) ∧ Below w.heap.size w w' := by
 by_cases h0 : place < 0
 ·have e0 : decide (place < 0 ∨ 1 < place) = true := by simp [h0]
  rw [e0]
  have h0' : ¬ (0 : Int) ≤ place := by omega
  clear e0
  go_enter Tryz.func63, Tryz.ntmps63
  go_wp2_with fail
  go_ret
  exact ⟨rfl, Below.refl _ _⟩
 ·have h0' : (0 : Int) ≤ place := by omega
  by_cases h1 : 1 < place
  ·have e0 : decide (place < 0 ∨ 1 < place) = true := by simp [h1]
   rw [e0]
   have h1' : ¬ place ≤ 1 := by omega
   clear e0
   go_enter Tryz.func63, Tryz.ntmps63
   go_wp2_with fail
   go_ret
   exact ⟨rfl, Below.refl _ _⟩
  ·have e0 : decide (place < 0 ∨ 1 < place) = false := by simp [h0, h1]
   rw [e0]
   have h1' : place ≤ 1 := by omega
   clear e0
   go_enter Tryz.func63, Tryz.ntmps63
   go_wp2_with fail
   go_ret
   exact ⟨rfl, Below.refl _ _⟩
set_option maxRecDepth 100000 in
set_option maxHeartbeats 4000000 in
theorem pturn_any (key : List (BitVec 8)) (lk : key.length = 32) (ep : BitVec 32) (block : Int) (h0 : 0 ≤ block) (hbk : block ≤ 9223372036854775807) (page : List (BitVec 8)) (v : Value) (w : World) (hv : Sl w v page) (hp : page.length ≤ 1048576) (hT : CTabs w) :
 Calls Tryz.prog 78 #[.agg (u8s key).toArray, .int .u32 (V ep), .int .i64 block, v] w (SBEnd w (sealL key ep block page)) := by
 obtain ⟨bb, hbb⟩ : ∃ bb, bb = BitVec.ofNat 64 block.toNat := ⟨_, rfl⟩
 have cv := fun wx => conv_i64u block bb hbb h0 hbk wx
 have non := fun wx => nonce_any ep bb wx
 have rt : ∀ wx, Sl wx v page → CTabs wx → Calls Tryz.prog 92 #[.agg (u8s key).toArray, .agg (ncOf ep bb), .int .u32 0, v] wx (SBEnd wx (sealL key ep block page)) := fun wx h hL => by
  have k := turned_any key (cnonce ep bb) 0 page _ lk (cnonce_length _ _) hp wx h hL
  unfold sealL
  rw [← hbb]
  exact k.mono fun _ _ h => send_sb h
 have ha : Below w.heap.size w (w.alloc (.cells (u8s key).toArray 22)) := (Below.refl _ _).alloc (Nat.le_refl _) _
 obtain ⟨C, hC⟩ : ∃ C, C = (u8s key).toArray := ⟨_, rfl⟩
 have cs : C.size = 32 := by rw [hC]; simp [u8s_length, lk]
 rw [← hC] at rt ha ⊢
 have an := at_new w C 22
 obtain ⟨L, hL⟩ : ∃ L, L = sealL key ep block page := ⟨_, rfl⟩
 rw [← hL] at rt ⊢
 have CV := zh cv; have NON := zh non; have RT := zh rt; have CS := zh cs; have A1 := zh an; have BA := zh ha; have S1 := zh (hv.below ha); have T1 := zh (hT.below ha (Nat.le_refl _))
 clear cv non rt cs an ha hv hC hL hbb lk hp hT h0 hbk
 obtain ⟨nc, hnc⟩ : ∃ nc, nc = ncOf ep bb := ⟨_, rfl⟩
 rw [← hnc] at NON RT
 clear hnc
 go_enter Tryz.func78, Tryz.ntmps78
 go_wp2_with fail
 obtain ⟨b1, hb1⟩ : ∃ b1, b1 = w.heap.size := ⟨_, rfl⟩
 rw [← hb1] at A1 ⊢
 clear hb1
 generalize w.alloc (.cells C 22) = w1 at *
 have B1 : Hid (Below w1.heap.size w1 w1.drew) := zh (Below.refl _ _).drew
 refine wp_region_plan_in (fun x => Below w1.heap.size w1 x) (.take 0 (.take 1 (.take 2 (.take 3 (.take 5 (.sole 4 (.sole 6 (.take 7 .done)))))))) (by kernel_rfl) (by kernel_rfl) (by kernel_rfl) B1.out ?_
 refine plan_row 22 _ b1 _ C 22 zr zr zr Mem.ev_a (fun w' hw' => A1.out.below hw' A1.out.lt) Tryz.underlying22 zr (by rw [CS.out]; exact infoDg) ?_
 (simp only [Act.put, Mem.pa, Mem.pb, Mem.pc])
 (first | refine Mem.pm1 ?_ | refine Mem.pm2 ?_ | refine Mem.pt ?_ | refine Mem.pf ?_)
 (simp only [Act.put, Mem.pa, Mem.pb, Mem.pc])
 (first | refine Mem.pm1 ?_ | refine Mem.pm2 ?_ | refine Mem.pt ?_ | refine Mem.pf ?_)
 (simp only [Act.put, Mem.pa, Mem.pb, Mem.pc])
 refine plan_conv 3 138 _ (.int .i64 block) (.int .u64 (bb.toNat : Int)) zr zr zr Mem.ev_a (fun wx => CV.out wx) ?_
 (simp only [Act.put, Mem.pa, Mem.pb, Mem.pc])
 (first | refine Mem.pm1 ?_ | refine Mem.pm2 ?_ | refine Mem.pt ?_ | refine Mem.pf ?_)
 (simp only [Act.put, Mem.pa, Mem.pb, Mem.pc])
 refine plan_call 93 _ _ _ (by kernel_rfl) zr zr zr (by first | exact Mem.ev_none _ | (simp only [List.map_toArray, List.map_cons, List.map_nil, Mem.ev_tmp, List.getD_cons_succ, List.getD_cons_zero] <;> rfl)) ?_
 refine (NON.out _).mono ?_
 rintro o2 w2 ⟨rfl, hb⟩
 have B2 : Hid (Below w1.heap.size w1 w2) := zh (B1.out.trans (hb.mono B1.out.size))
 clear hb
 refine ⟨_, rfl, B2.out, ?_⟩
 (simp only [Act.put, Mem.pa, Mem.pb, Mem.pc])
 refine plan_call 92 _ _ _ (by kernel_rfl) zr zr zr (by first | exact Mem.ev_none _ | (simp only [List.map_toArray, List.map_cons, List.map_nil, Mem.ev_tmp, List.getD_cons_succ, List.getD_cons_zero] <;> rfl)) ?_
 refine (RT.out _ (S1.out.below B2.out) (T1.out.below B2.out (Nat.le_refl _))).mono ?_
 rintro o3 w3 ⟨v3, rfl, hs, hb⟩
 have B3 : Hid (Below w1.heap.size w1 w3) := zh (B2.out.trans (hb.mono B2.out.size))
 have S3 := zh hs
 clear hs hb
 refine ⟨_, rfl, B3.out, ?_⟩
 (simp only [Act.put, Mem.pa, Mem.pb, Mem.pc])
 (first | refine Mem.pm1 ?_ | refine Mem.pm2 ?_ | refine Mem.pt ?_ | refine Mem.pf ?_)
 (simp only [Act.put, Mem.pa, Mem.pb, Mem.pc])
 refine plan_nil ?_
 go_wp2_with fail
 go_ret
 exact ⟨_, rfl, S3.out.mono fun k hk _ => Nat.le_trans BA.out.size (Nat.le_trans B2.out.size hk), BA.out.trans (B3.out.mono BA.out.size)⟩
set_option maxRecDepth 100000 in
set_option maxHeartbeats 4000000 in
theorem pseal_any (key : List (BitVec 8)) (lk : key.length = 32) (ep : BitVec 32) (block : Int) (hbk : block ≤ 9223372036854775807) (page : List (BitVec 8)) (v : Value) (w : World) (hv : Sl w v page) (hp : page.length ≤ 1048576) (hT : CTabs w) :
 Calls Tryz.prog 64 #[.agg (u8s key).toArray, .int .u32 (V ep), .int .i64 block, v] w (SealBEnd w (sealR key ep block page).1 (sealR key ep block page).2) := by
 have ha : Below w.heap.size w (w.alloc (.cells (u8s key).toArray 22)) := (Below.refl _ _).alloc (Nat.le_refl _) _
 have ib := fun wx (h : Below w.heap.size w wx) => pisBlock_any block page v wx (hv.below h)
 have tn := fun (h0 : 0 ≤ block) wx (h : Below w.heap.size w wx) => pturn_any key lk ep block h0 hbk page v wx (hv.below h) hp (hT.below h (Nat.le_refl _))
 obtain ⟨C, hC⟩ : ∃ C, C = (u8s key).toArray := ⟨_, rfl⟩
 have cs : C.size = 32 := by rw [hC]; simp [u8s_length, lk]
 rw [← hC] at tn ha ⊢
 have an := at_new w C 22
 have IB := zh ib; have CS := zh cs; have A1 := zh an; have BA := zh ha
 clear ib cs an ha hC
 by_cases hb : sealBad block page = true
 ·have e0 : sealR key ep block page = ([], 1) := by simp [sealR, hb]
  rw [e0]
  rw [hb] at IB
  clear tn hb e0 hv hp hT lk hbk
  go_enter Tryz.func64, Tryz.ntmps64
  go_wp2_with fail
  refine (IB.out _ BA.out).mono ?_
  rintro e w2 ⟨rfl, hb2⟩
  have B2 := zh (BA.out.trans (hb2.mono BA.out.size))
  clear hb2
  go_wp2_with fail
  go_ret2
  exact ⟨_, rfl, slB_nil _ _, B2.out⟩
 ·have e0 : sealR key ep block page = (sealL key ep block page, 0) := by simp [sealR, hb]
  rw [e0]
  have hb' : sealBad block page = false := by simpa using hb
  have h0 : 0 ≤ block := by simp [sealBad] at hb'; omega
  rw [hb'] at IB
  have TN := zh (tn h0)
  clear tn hb hb' e0 hv hp hT lk hbk h0
  go_enter Tryz.func64, Tryz.ntmps64
  go_wp2_with fail
  refine (IB.out _ BA.out).mono ?_
  rintro e w2 ⟨rfl, hb2⟩
  have B2 := zh (BA.out.trans (hb2.mono BA.out.size)); have A2 := zh (A1.out.below hb2 A1.out.lt)
  clear hb2
  go_wp2_with (refine wpList_load_all zr 22 _ zr w.heap.size zr _ Tryz.underlying22 zr C _ A2.out (by rw [CS.out]; exact infoDg) ?_)
  refine (TN.out _ B2.out).mono ?_
  rintro e w3 ⟨v3, rfl, hs3, hb3⟩
  have B3 := zh (B2.out.trans (hb3.mono B2.out.size)); have S3 := zh hs3
  clear hs3 hb3
  go_wp2_with fail
  go_ret2
  exact ⟨_, rfl, S3.out.mono fun k hk _ => Nat.le_trans B2.out.size hk, B3.out⟩
set_option maxRecDepth 100000 in
set_option maxHeartbeats 4000000 in
theorem pdigN_any (l : List (BitVec 8)) (v : Value) (w : World) (hv : Sl w v l) (hp : l.length ≤ 1048576) (hT : Tabs w) :
 Calls Tryz.prog 65 #[.pointer none, v] w fun e w' => e = .returned (.agg (u8s (digestOf l)).toArray) ∧ Below w.heap.size w w' := by
 obtain ⟨Z, hZ⟩ : ∃ Z, Z = (u8s (List.replicate 32 (0 : BitVec 8))).toArray := ⟨_, rfl⟩
 have zs : Z.size = 32 := by rw [hZ]; simp [u8s_length]
 have hx : ∀ w, (zeroValue 22).run Tryz.prog w = .ok (.agg Z) w := by rw [hZ]; exact fun _ => by kernel_rfl
 obtain ⟨G, hG⟩ : ∃ G, G = (u8s (digestOf l)).toArray := ⟨_, rfl⟩
 have gs : G.size = 32 := by rw [hG]; simp [u8s_length, digestOf_length]
 have go : G.all (·.oneCell') = true := by rw [hG]; exact u8s_one _
 have hsum := fun (wx : World) (vx : Value) (hx : Sls wx vx [l]) (ht : Tabs wx) => sumAll_any [l] vx wx (by simp; omega) (by simp) hx ht
 rw [show [l].flatten = l by simp, ← hG] at hsum
 have az := at_new w Z 22
 have bz : Below w.heap.size w (w.alloc (.cells Z 22)) := (Below.refl _ _).alloc (Nat.le_refl _) _
 have hsl := sls_lit1 (hv.below bz)
 rw [← hG]
 have bl : Below w.heap.size w ((w.alloc (.cells Z 22)).alloc (.cells #[v] 39)) := bz.alloc (by simp) _
 have az2 := az.alloc (.cells #[v] 39)
 have ht2 := hT.below bl (Nat.le_refl _)
 obtain ⟨a0, c0, rfl⟩ := sl_inv hv
 obtain ⟨n, hn⟩ : ∃ n, n = l.length := ⟨_, rfl⟩
 rw [← hn] at hsl bl az2 ht2 ⊢
 have ZS := zh zs; have GS := zh gs; have GO := zh go; have SUM := zh hsum; have SLS := zh hsl; have BL := zh bl; have AZ := zh az2; have TT := zh ht2
 clear zs gs go hsum hsl bl az2 ht2 az bz hv hp hT hZ hG hn
 go_enter Tryz.func65, Tryz.ntmps65
 go_wp2_with fail
 clear hx
 have hs2 : (w.alloc (.cells Z 22)).heap.size = w.heap.size + 1 := by simp
 rw [hs2] at SLS
 refine (SUM.out _ _ SLS.out TT.out).mono ?_
 rintro e w3 ⟨rfl, hb3⟩
 have A3 := zh (AZ.out.below hb3 AZ.out.lt); have B3 := zh (BL.out.trans (hb3.mono BL.out.size))
 clear hb3 SLS hs2 BL AZ TT SUM
 go_wp2_with (refine wpList_store_all zr 22 _ _ zr zr w.heap.size G zr zr (by rw [GS.out]; exact infoDg) Z _ A3.out (by rw [ZS.out, GS.out]) GO.out ?_)
 try simp only [Exit.inBlock, Exit.then]
 refine ret_row zr w.heap.size 22 G _ zr (A3.out.row G) Tryz.underlying22 zr (by rw [GS.out]; exact infoDg) ?_
 exact ⟨rfl, below_row B3.out (Nat.le_refl _) G⟩
abbrev bkp (b : Nat) : Value := .pointer (some ⟨b, 0, none⟩)
structure BkV (F D : Foot) (bk : Nat) (w : World) (ts : List (List (BitVec 8))) (v : Value) : Prop where
 box : F bk
 lt : ∀ k, F k → k < w.heap.size
 row : At w bk #[v] 146
 ov : ∀ k, v.ownBlock = some k → F k ∧ k ≠ bk
 dF : ∀ k, D k → F k ∧ k ≠ bk ∧ v.ownBlock ≠ some k
 hs : ∃ hs : List Value, Each2 (fun p q => SlB D w p q) hs ts ∧ w.ownsRow 0 39 1 v ts.length hs
def Bk (F : Foot) (bk : Nat) (w : World) (ts : List (List (BitVec 8))) : Prop := ∃ D v, BkV F D bk w ts v
theorem BkV.keep {F D : Foot} {bk : Nat} {w w' : World} {ts : List (List (BitVec 8))} {v : Value} (h : BkV F D bk w ts v) (hs : w.heap.size ≤ w'.heap.size) (hk : ∀ k, F k → k < w.heap.size → w'.heap[k]? = w.heap[k]?) : BkV F D bk w' ts v := by
 obtain ⟨l, h1, h2⟩ := h.hs
 refine ⟨h.box, fun k hF => Nat.lt_of_lt_of_le (h.lt k hF) hs, ?_, h.ov, h.dF, l, h1.mono fun _ _ g => g.keep hs fun k hd hlt => hk k (h.dF k hd).1 hlt, ownsRow_keep h2 fun g hg => hk g (h.ov g hg).1 (World.ownsRow.lt h2 g hg).2⟩
 have h8 := h.row
 unfold At at *
 rw [hk bk h.box (h.lt bk h.box)]; exact h8
theorem Bk.keep {F : Foot} {bk : Nat} {w w' : World} {ts : List (List (BitVec 8))} (h : Bk F bk w ts) (hs : w.heap.size ≤ w'.heap.size) (hk : ∀ k, F k → k < w.heap.size → w'.heap[k]? = w.heap[k]?) : Bk F bk w' ts := by
 obtain ⟨D, v, h⟩ := h
 exact ⟨D, v, h.keep hs hk⟩
theorem bk_add {F D : Foot} {bk : Nat} {w w2 w3 w5 w8 : World} {ts : List (List (BitVec 8))} {v v' v2 : Value} {x : List (BitVec 8)} {hs : List Value} (h : BkV F D bk w ts v) (he : Each2 (fun p q => SlB D w p q) hs ts) (hown : w.ownsRow 0 39 1 v ts.length hs)
 (hb : Below w.heap.size w w2) (ho : OwnB w2 w.heap.size v2 x) (hb2 : Below w2.heap.size w2 w3) (ha : App w3 w5 v v') (hb5 : Below 0 w3 w5) (ho5 : w5.ownsRow 0 39 1 v' (ts.length + 1) (hs ++ [v2]))
 (hA : At w8 bk #[v'] 146) (hk2 : ∀ k, k ≠ bk → w8.heap[k]? = w5.heap[k]?) (hk : ∀ B a, Below B a w5 → B ≤ bk → Below B a w8) :
 Bk (grow F w w8) bk w8 (ts ++ [x]) ∧ Chg F w w8 := by
 have hb3 : Below w.heap.size w w3 := hb.trans (hb2.mono hb.size)
 have hbk := h.lt bk h.box
 have h58 := hk 0 w5 (Below.refl _ _) (Nat.zero_le _)
 have h35 := ha.size
 have hsz : w.heap.size ≤ w8.heap.size := Nat.le_trans hb3.size (Nat.le_trans h35 h58.size)
 have s2 : SlB (fun k => D k ∨ v2.ownBlock = some k) w3 v2 x := by
  have h0 : SlB (fun k => D k ∨ v2.ownBlock = some k) w2 v2 x := by
   refine ⟨by simp [u8s_length], ?_⟩
   obtain ⟨a, cap, e, hc, hr⟩ := ho.open
   refine ⟨a, cap, e, hc, fun hne => ?_⟩
   obtain ⟨g, ea, _, hlt, hcell⟩ := hr (fun h0 => hne (by rw [h0]; rfl))
   refine ⟨g, 0, ea, .inr (by rw [e, ea]; rfl), hlt, fun j u hu => ?_⟩
   have hj : j < x.length := by
    have := (List.getElem?_eq_some_iff.1 hu).1
    rwa [u8s_length] at this
   rw [Nat.zero_add, hcell j hj, ← u8s_get x j hj, hu]
  exact h0.keep hb2.size fun k _ hlt => hb2.block k hlt
 have e3 : Each2 (fun p q => SlB (fun k => D k ∨ v2.ownBlock = some k) w3 p q) (hs ++ [v2]) (ts ++ [x]) :=
  Each2.snoc s2 (he.mono fun _ _ g => (g.keep hb3.size fun k _ hlt => hb3.block k hlt).mono fun _ hk _ => .inl hk)
 have hv' : ∀ k, v'.ownBlock = some k → (F k ∨ w3.heap.size ≤ k) ∧ k ≠ bk ∧ k < w5.heap.size := fun k hk' => by
  have hlt := (World.ownsRow.lt ho5 k hk').2
  rcases ha.b with e | ⟨g, e, hg⟩
  ·rw [e] at hk'; exact ⟨.inl (h.ov k hk').1, (h.ov k hk').2, hlt⟩
  ·rw [e] at hk'
   have e2 : g = k := by simpa using hk'
   have := hb3.size
   exact ⟨.inr (by omega), by omega, hlt⟩
 have hd' : ∀ k, (D k ∨ v2.ownBlock = some k) → (F k ∨ w.heap.size ≤ k) ∧ k ≠ bk ∧ v.ownBlock ≠ some k ∧ k < w3.heap.size := fun k hk' => by
  rcases hk' with hk' | hk'
  ·have hl := h.lt k (h.dF k hk').1
   have := hb3.size
   exact ⟨.inl (h.dF k hk').1, (h.dF k hk').2.1, (h.dF k hk').2.2, by omega⟩
  ·have h6 := ho.lt k hk'
   have := hb2.size
   refine ⟨.inr h6.1, by omega, fun e => ?_, by omega⟩
   have := (World.ownsRow.lt hown k e).2
   omega
 refine ⟨⟨fun k => D k ∨ v2.ownBlock = some k, v', ⟨.inl h.box, hA.lt⟩, grow_lt, hA, fun k hk' => ?_, fun k hk' => ?_, hs ++ [v2], ?_, ?_⟩, ?_⟩
 ·obtain ⟨h1, h2, h3⟩ := hv' k hk'
  have := hb3.size
  have := h58.size
  exact ⟨⟨h1.imp id fun g => by omega, by omega⟩, h2⟩
 ·obtain ⟨h1, h2, h3, h4⟩ := hd' k hk'
  have := h58.size
  refine ⟨⟨h1, by omega⟩, h2, fun e => ?_⟩
  rcases ha.b with e2 | ⟨g, e2, hg⟩
  ·rw [e2] at e; exact h3 e
  ·rw [e2] at e
   have : g = k := by simpa using e
   omega
 ·refine e3.mono fun _ _ g => g.keep (Nat.le_trans h35 h58.size) fun k hd hlt => ?_
  obtain ⟨_, h2, h3, _⟩ := hd' k hd
  rw [hk2 k h2, ha.k k hlt h3]
 ·rw [List.length_append]
  exact ownsRow_keep ho5 fun g hg => hk2 g (hv' g hg).2.1
 ·refine ⟨h58.os.trans (hb5.os.trans hb3.os), h58.tape.trans (hb5.tape.trans hb3.tape), h58.output.trans (hb5.output.trans hb3.output), hsz, fun k hlt hn => ?_⟩
  have hne : k ≠ bk := fun e => hn (e ▸ h.box)
  rw [hk2 k hne, ha.k k (Nat.lt_of_lt_of_le hlt hb3.size) fun e => hn (h.ov k e).1, hb3.block k hlt]
def BkO (F : Foot) (bp : Value) (w : World) (ts : List (List (BitVec 8))) : Prop := (bp = .pointer none ∧ ∀ k, ¬ F k) ∨ ∃ bk, bp = bkp bk ∧ Bk F bk w ts
theorem BkO.keep {F : Foot} {bp : Value} {w w' : World} {ts : List (List (BitVec 8))} (h : BkO F bp w ts) (hs : w.heap.size ≤ w'.heap.size) (hk : ∀ k, F k → k < w.heap.size → w'.heap[k]? = w.heap[k]?) : BkO F bp w' ts :=
 h.imp id fun ⟨bk, e, g⟩ => ⟨bk, e, g.keep hs hk⟩
theorem BkO.below {F : Foot} {bp : Value} {w w' : World} {ts : List (List (BitVec 8))} (h : BkO F bp w ts) (hb : Below w.heap.size w w') : BkO F bp w' ts := h.keep hb.size fun k _ hlt => hb.block k hlt
theorem BkO.lt {F : Foot} {bp : Value} {w : World} {ts : List (List (BitVec 8))} (h : BkO F bp w ts) : ∀ k, F k → k < w.heap.size := fun k hF => by
 rcases h with ⟨_, h⟩ | ⟨bk, _, D, v, h⟩
 ·exact absurd hF (h k)
 ·exact h.lt k hF
def BkEnd (F : Foot) (bp : Value) (w : World) (ts : List (List (BitVec 8))) (w' : World) : Prop := (∃ F', BkO F' bp w' ts ∧ ∀ k, F' k → F k ∨ w.heap.size ≤ k) ∧ Chg F w w'
theorem elemRS9 : elemR Tryz.prog 24 39 (.slice none 0 0) 1 24 := ⟨Tryz.underlying24, by kernel_rfl⟩
theorem infoSh9 : (Tryz.prog.info? 24).map (·.size) = some 1 := by kernel_rfl
theorem own_hd9 {w : World} {B n : Nat} {v : Value} {l : List (BitVec 8)} (h : OwnB w B v l) (hn : n = l.length) : ∃ a c, v = .slice a n c := by
 subst hn
 obtain ⟨a, c, e, _⟩ := h.open
 exact ⟨a, c, e⟩
theorem dig_end {F : Foot} {bk : Nat} {w w1 w8 w9 : World} {ts : List (List (BitVec 8))} (hal : Below w.heap.size w w1) (flt : ∀ k, F k → k < w.heap.size) (h1 : w1.heap.size = w.heap.size + 1) (h : Bk (grow F w1.drew w8) bk w8 ts ∧ Chg F w1.drew w8) (hb : Below w8.heap.size w8 w9) (M : Array Value) :
 (∃ F', Bk F' bk (w9.setRow w.heap.size M) ts ∧ ∀ k, F' k → F k ∨ w.heap.size ≤ k) ∧ Chg F w (w9.setRow w.heap.size M) := by
 refine ⟨⟨grow F w1.drew w8, (h.1.keep hb.size fun k _ hlt => hb.block k hlt).keep (by simp) fun k hk _ => setRow_other w9 _ k M ?_, fun k hk => ?_⟩, ?_⟩
 ·rcases hk.1 with g | g
  ·have := flt k g; omega
  ·have g : w1.heap.size ≤ k := g
   omega
 ·rcases hk.1 with g | g
  ·exact .inl g
  ·have g : w1.heap.size ≤ k := g
   exact .inr (by omega)
 ·have c9 : Chg F w w9 := (((Chg.of_below hal).drew).trans (F1 := F) h.2 fun _ hx => .inl hx).trans (F1 := F) (Chg.of_below hb) fun _ hx => .inl hx
  exact c9.trans (F1 := fun k => k = w.heap.size) ⟨rfl, rfl, rfl, by simp, fun k _ hn => setRow_other w9 _ k M hn⟩ fun x hx => .inr (by omega)
set_option maxRecDepth 100000 in
set_option maxHeartbeats 4000000 in
theorem pdigB_any {F G : Foot} {bk : Nat} {ts : List (List (BitVec 8))} (l : List (BitVec 8)) (v : Value) (w x : World) (hr : Bk F bk w ts) (hn : ts.length < 100000) (hv : SlB G w v l) (hG : ∀ k, G k → ¬ F k) (hp : l.length ≤ 1000000) (hT : Tabs x) (hxw : Below x.heap.size x w) (hF : ∀ k, F k → x.heap.size ≤ k) :
 Calls Tryz.prog 65 #[bkp bk, v] w fun e w' => e = .returned (.agg (u8s (digestOf l)).toArray) ∧ ((∃ F', Bk F' bk w' (ts ++ [l]) ∧ ∀ k, F' k → F k ∨ w.heap.size ≤ k) ∧ Chg F w w') := by
 obtain ⟨Z, hZ⟩ : ∃ Z, Z = (u8s (List.replicate 32 (0 : BitVec 8))).toArray := ⟨_, rfl⟩
 have zs : Z.size = 32 := by rw [hZ]; simp [u8s_length]
 have hx : ∀ w, (zeroValue 22).run Tryz.prog w = .ok (.agg Z) w := by rw [hZ]; exact fun _ => by kernel_rfl
 obtain ⟨G32, hG32⟩ : ∃ G, G = (u8s (digestOf l)).toArray := ⟨_, rfl⟩
 have gs : G32.size = 32 := by rw [hG32]; simp [u8s_length, digestOf_length]
 have go : G32.all (·.oneCell') = true := by rw [hG32]; exact u8s_one _
 have hsum := fun (wx : World) (vx : Value) (hx : Sls wx vx [l]) (ht : Tabs wx) => sumAll_any [l] vx wx (by simp; omega) (by simp) hx ht
 rw [show [l].flatten = l by simp, ← hG32] at hsum
 rw [← hG32]
 have hal : Below w.heap.size w (w.alloc (.cells Z 22)) := (Below.refl _ _).alloc (Nat.le_refl _) _
 have haz := at_new w Z 22
 obtain ⟨w1, hw1⟩ : ∃ w1, w1 = w.alloc (.cells Z 22) := ⟨_, rfl⟩
 obtain ⟨D, vb, hb0⟩ := hr
 have hb1 : BkV F D bk w1 ts vb := by rw [hw1]; exact hb0.keep hal.size fun k _ hlt => hal.block k hlt
 have hv1 : SlB G w1 v l := by rw [hw1]; exact hv.keep hal.size fun k _ hlt => hal.block k hlt
 rw [← hw1] at haz hal
 obtain ⟨hs, he, hown⟩ := hb1.hs
 obtain ⟨asx, caps, rfl⟩ := rows_hd hown
 have hbkw : bk < w.heap.size := hb0.lt bk hb0.box
 have hFlt := hb0.lt
 have hne := own_ne_at hown hb1.row (by decide)
 have hcl := pclone_any l v w1.drew hp (hv1.sl.below (Below.refl _ _).drew)
 obtain ⟨a0, c0, rfl⟩ := sl_inv hv.sl
 obtain ⟨L, hL⟩ : ∃ L, L = l.length := ⟨_, rfl⟩
 obtain ⟨M, hM⟩ : ∃ M, M = ts.length := ⟨_, rfl⟩
 rw [← hL] at hv hv1 hcl ⊢
 rw [← hM] at hn hb1 hown hne
 have hrow := hb1.row
 have g1 : (M : Int) < 100000 := by omega
 have c1 : w1.drew.cell? ⟨bk, 0, none⟩ = some (.slice asx M caps) := by show w1.cell? _ = _; rw [hrow.cell]; rfl
 have c1' : w1.cell? ⟨bk, 0, none⟩ = some (.slice asx M caps) := c1
 have HV : Hid (BkV F D bk w1.drew ts (.slice asx M caps)) := zh (hb1.keep (Nat.le_refl _) fun _ _ _ => rfl)
 have CL := zh hcl; have HROW : Hid (At w1.drew bk #[.slice asx M caps] 146) := hrow.drew; have HO : Hid (w1.drew.ownsRow 0 39 1 (.slice asx M caps) M hs) := hown; have HE : Hid (Each2 (fun p q => SlB D w1.drew p q) hs ts) := he
 have ZS := zh zs; have GS := zh gs; have GO := zh go; have SUM := zh hsum; have HAL := zh hal; have HAZ := zh haz; have HV1 := zh hv1; have HG := zh hG; have HF := zh hF; have HX := zh hxw; have HT := zh hT; have C1 := zh c1; have NE := zh hne; have HM := zh hM; have XL := zh hL; have BKW := zh hbkw; have HW1 := zh hw1; have FLT := zh hFlt
 clear zs gs go hsum hal haz hv1 hv hG hF hxw hT hb1 hb0 hcl hrow hown he hne hM hL hZ hG32 hp hbkw hFlt
 go_enter Tryz.func65, Tryz.ntmps65
 go_upto_region 1 with fail
 rw [← HW1.out]
 clear hx hw1
 go_wp2_with fail
 refine wp_region_plan_in (fun _ => True) (.take 0 (.take 1 (.take 2 (.take 3 (.take 5 (.two 4 6 (.sole 6 (.sole 7 (.sole 8 (.take 9 (.take 10 (.sole 11 .done)))))) (.two 4 7 (.sole 7 (.sole 8 (.take 9 (.take 10 (.sole 11 .done))))) (.sole 4 (.sole 8 (.take 9 (.take 10 (.sole 11 .done)))))))))))) (by kernel_rfl) (by kernel_rfl) (by kernel_rfl) trivial ?_
 (first | refine Mem.pm1 ?_ | refine Mem.pm2 ?_ | refine Mem.pt ?_ | refine Mem.pf ?_)
 (simp only [Act.put, Mem.pa, Mem.pb, Mem.pc])
 (first | refine Mem.pm1 ?_ | refine Mem.pm2 ?_ | refine Mem.pt ?_ | refine Mem.pf ?_)
 (simp only [Act.put, Mem.pa, Mem.pb, Mem.pc])
 refine plan_nilcheck _ ⟨bk, 0, none⟩ zr zr zr Mem.ev_a ?_
 (simp only [Act.put, Mem.pa, Mem.pb, Mem.pc])
 refine plan_field 146 _ 0 bk 0 ⟨bk, 0, none⟩ zr zr zr Mem.ev_a (fun wx => by go_simp) ?_
 (simp only [Act.put, Mem.pa, Mem.pb, Mem.pc])
 (first | refine Mem.pm1 ?_ | refine Mem.pm2 ?_ | refine Mem.pt ?_ | refine Mem.pf ?_)
 (simp only [Act.put, Mem.pa, Mem.pb, Mem.pc])
 refine plan_two ?_ ?_
 ·refine plan_sole_cell 24 _ _ (.slice asx M caps) _ zr zr zr Mem.ev_a (by first | exact C1.out | exact C2.out | exact C3.out) Tryz.underlying24 zr trivial ?_
  (simp only [Act.put, Mem.pa, Mem.pb, Mem.pc])
  refine plan_call 46 _ _ _ (by kernel_rfl) zr zr zr (by first | exact Mem.ev_none _ | (simp only [List.map_toArray, List.map_cons, List.map_nil, Mem.ev_tmp, List.getD_cons_succ, List.getD_cons_zero] <;> rfl)) ?_
  refine CL.out.mono ?_
  rintro o w2 ⟨v2, rfl, ho2, hb2⟩
  obtain ⟨a2, c2, rfl⟩ := own_hd9 ho2 XL.out
  have C2 : Hid (w2.cell? ⟨bk, 0, none⟩ = some (.slice asx M caps)) := by have h := C1.out; rw [hb2.cell (p := ⟨bk, 0, none⟩) (HV.out.lt bk HV.out.box)]; exact h
  have C3 : Hid ((w2.alloc (.cells #[.slice a2 L c2] 39)).cell? ⟨bk, 0, none⟩ = some (.slice asx M caps)) := (cell_alloc (block_lt_of_cell C2.out)).trans C2.out
  have O2 := zh ho2; have B2 := zh hb2; have OW := zh (ownsRow_below (ownsRow_below HO.out hb2) ((Below.refl _ w2).alloc (Nat.le_refl _) (.cells #[.slice a2 L c2] 39)))
  clear ho2 hb2
  refine ⟨_, rfl, trivial, ?_⟩
  (simp only [Act.put, Mem.pa, Mem.pb, Mem.pc])
  refine plan_slice 24 39 1 _ #[.slice a2 L c2] zr zr zr Tryz.underlying24 (by kernel_rfl) trivial ?_
  (simp only [Act.put, Mem.pa, Mem.pb, Mem.pc])
  refine plan_append_app _ _ 24 zr zr zr (.slice (some ⟨w2.heap.size, 0, none⟩) 1 1) M 1 1 [.slice a2 L c2] (.slice none 0 0) 24 elemRS9 zr (by decide) Mem.ev_a OW.out Mem.ev_a (by exact rdR_new (e := 39) (C := #[.slice a2 L c2])) (by simp [Value.oneCell']) (by omega) (by omega) (by omega) ?_
  intro v5 w5 ho5 ha5 hb5
  obtain ⟨a5, c5, rfl⟩ := rows_hd ho5
  have O5 := zh ho5; have A5 := zh ha5; have B5 := zh hb5
  have R5 : Hid (At w5 bk #[.slice asx M caps] 146) := zh (at_appd (((HROW.out.below B2.out (HV.out.lt bk HV.out.box))).alloc _) A5.out NE.out)
  clear ho5 ha5 hb5
  refine ⟨trivial, ?_⟩
  (simp only [Act.put, Mem.pa, Mem.pb, Mem.pc])
  refine plan_nilcheck _ ⟨bk, 0, none⟩ zr zr zr Mem.ev_a ?_
  (simp only [Act.put, Mem.pa, Mem.pb, Mem.pc])
  refine plan_field 146 _ 0 bk 0 ⟨bk, 0, none⟩ zr zr zr Mem.ev_a (fun wx => by go_simp) ?_
  (simp only [Act.put, Mem.pa, Mem.pb, Mem.pc])
  refine plan_store_one 24 _ _ bk 0 (.slice a5 (M + 1) c5) _ 146 zr zr zr zr Mem.ev_a Mem.ev_a zr infoSh9 R5.out (by simp) trivial ?_
  refine plan_nil ?_
  have E8 := zh (bk_add (v' := .slice a5 (M + 1) c5) HV.out HE.out (by rw [← HM.out]; exact HO.out) B2.out O2.out ((Below.refl _ w2).alloc (Nat.le_refl _) _) A5.out B5.out (by rw [← HM.out]; exact O5.out) (R5.out.set 0 (.slice a5 (M + 1) c5)) (fun k hk => heap_setCell_other w5 ⟨bk, 0, none⟩ k _ hk) (fun B a hB hle => hB.setCell hle _))
  generalize w5.setCell ⟨bk, 0, none⟩ (.slice a5 (M + 1) c5) = w8 at *
  clear R5 A5 B5 O5 OW C2 C3 O2 B2 HO HE HROW C1 CL NE XL
  clear HV
  have S8 : Hid (SlB G w8 (.slice a0 L c0) l) := zh (HV1.out.keep E8.out.2.size fun k hg hlt => E8.out.2.block k hlt (HG.out k hg))
  have BX : Hid (Below x.heap.size x w1) := zh (HX.out.trans (HAL.out.mono HX.out.size))
  have BX8 : Hid (Below x.heap.size x w8) := zh (E8.out.2.below BX.out.drew HF.out BX.out.size)
  have A8 : Hid (At w8 w.heap.size Z 22) := zh (HAZ.out.drew.chg E8.out.2 fun hf => Nat.lt_irrefl _ (FLT.out _ hf))
  have SLS := zh (sls_lit1 S8.out.sl)
  have T8 := zh (HT.out.below (BX8.out.alloc BX8.out.size (.cells #[.slice a0 L c0] 39)) (Nat.le_refl _))
  have A9 := zh (A8.out.alloc (.cells #[.slice a0 L c0] 39))
  clear S8 BX BX8 A8
  go_wp2_with fail
  refine (SUM.out _ _ SLS.out T8.out).mono ?_
  rintro e w9 ⟨rfl, hb9⟩
  have A10 := zh (A9.out.below hb9 A9.out.lt)
  have B10 : Hid (Below w8.heap.size w8 w9) := zh (((Below.refl _ w8).alloc (Nat.le_refl _) (.cells #[.slice a0 L c0] 39)).trans (hb9.mono (by simp)))
  clear hb9 SLS T8 A9
  go_wp2_with (refine wpList_store_all zr 22 _ _ zr zr w.heap.size G32 zr zr (by rw [GS.out]; exact infoDg) Z _ A10.out (by rw [ZS.out, GS.out]) GO.out ?_)
  try simp only [Exit.inBlock, Exit.then]
  refine ret_row zr w.heap.size 22 G32 _ zr (A10.out.row G32) Tryz.underlying22 zr (by rw [GS.out]; exact infoDg) ?_
  exact ⟨rfl, dig_end HAL.out FLT.out (by rw [HW1.out]; simp) E8.out B10.out G32⟩
 ·refine plan_call 46 _ _ _ (by kernel_rfl) zr zr zr (by first | exact Mem.ev_none _ | (simp only [List.map_toArray, List.map_cons, List.map_nil, Mem.ev_tmp, List.getD_cons_succ, List.getD_cons_zero] <;> rfl)) ?_
  refine CL.out.mono ?_
  rintro o w2 ⟨v2, rfl, ho2, hb2⟩
  obtain ⟨a2, c2, rfl⟩ := own_hd9 ho2 XL.out
  have C2 : Hid (w2.cell? ⟨bk, 0, none⟩ = some (.slice asx M caps)) := by have h := C1.out; rw [hb2.cell (p := ⟨bk, 0, none⟩) (HV.out.lt bk HV.out.box)]; exact h
  have C3 : Hid ((w2.alloc (.cells #[.slice a2 L c2] 39)).cell? ⟨bk, 0, none⟩ = some (.slice asx M caps)) := (cell_alloc (block_lt_of_cell C2.out)).trans C2.out
  have O2 := zh ho2; have B2 := zh hb2; have OW := zh (ownsRow_below (ownsRow_below HO.out hb2) ((Below.refl _ w2).alloc (Nat.le_refl _) (.cells #[.slice a2 L c2] 39)))
  clear ho2 hb2
  refine ⟨_, rfl, trivial, ?_⟩
  (simp only [Act.put, Mem.pa, Mem.pb, Mem.pc])
  refine plan_two ?_ ?_
  ·refine plan_sole_cell 24 _ _ (.slice asx M caps) _ zr zr zr Mem.ev_a (by first | exact C1.out | exact C2.out | exact C3.out) Tryz.underlying24 zr trivial ?_
   (simp only [Act.put, Mem.pa, Mem.pb, Mem.pc])
   refine plan_slice 24 39 1 _ #[.slice a2 L c2] zr zr zr Tryz.underlying24 (by kernel_rfl) trivial ?_
   (simp only [Act.put, Mem.pa, Mem.pb, Mem.pc])
   refine plan_append_app _ _ 24 zr zr zr (.slice (some ⟨w2.heap.size, 0, none⟩) 1 1) M 1 1 [.slice a2 L c2] (.slice none 0 0) 24 elemRS9 zr (by decide) Mem.ev_a OW.out Mem.ev_a (by exact rdR_new (e := 39) (C := #[.slice a2 L c2])) (by simp [Value.oneCell']) (by omega) (by omega) (by omega) ?_
   intro v5 w5 ho5 ha5 hb5
   obtain ⟨a5, c5, rfl⟩ := rows_hd ho5
   have O5 := zh ho5; have A5 := zh ha5; have B5 := zh hb5
   have R5 : Hid (At w5 bk #[.slice asx M caps] 146) := zh (at_appd (((HROW.out.below B2.out (HV.out.lt bk HV.out.box))).alloc _) A5.out NE.out)
   clear ho5 ha5 hb5
   refine ⟨trivial, ?_⟩
   (simp only [Act.put, Mem.pa, Mem.pb, Mem.pc])
   refine plan_nilcheck _ ⟨bk, 0, none⟩ zr zr zr Mem.ev_a ?_
   (simp only [Act.put, Mem.pa, Mem.pb, Mem.pc])
   refine plan_field 146 _ 0 bk 0 ⟨bk, 0, none⟩ zr zr zr Mem.ev_a (fun wx => by go_simp) ?_
   (simp only [Act.put, Mem.pa, Mem.pb, Mem.pc])
   refine plan_store_one 24 _ _ bk 0 (.slice a5 (M + 1) c5) _ 146 zr zr zr zr Mem.ev_a Mem.ev_a zr infoSh9 R5.out (by simp) trivial ?_
   refine plan_nil ?_
   have E8 := zh (bk_add (v' := .slice a5 (M + 1) c5) HV.out HE.out (by rw [← HM.out]; exact HO.out) B2.out O2.out ((Below.refl _ w2).alloc (Nat.le_refl _) _) A5.out B5.out (by rw [← HM.out]; exact O5.out) (R5.out.set 0 (.slice a5 (M + 1) c5)) (fun k hk => heap_setCell_other w5 ⟨bk, 0, none⟩ k _ hk) (fun B a hB hle => hB.setCell hle _))
   generalize w5.setCell ⟨bk, 0, none⟩ (.slice a5 (M + 1) c5) = w8 at *
   clear R5 A5 B5 O5 OW C2 C3 O2 B2 HO HE HROW C1 CL NE XL
   clear HV
   have S8 : Hid (SlB G w8 (.slice a0 L c0) l) := zh (HV1.out.keep E8.out.2.size fun k hg hlt => E8.out.2.block k hlt (HG.out k hg))
   have BX : Hid (Below x.heap.size x w1) := zh (HX.out.trans (HAL.out.mono HX.out.size))
   have BX8 : Hid (Below x.heap.size x w8) := zh (E8.out.2.below BX.out.drew HF.out BX.out.size)
   have A8 : Hid (At w8 w.heap.size Z 22) := zh (HAZ.out.drew.chg E8.out.2 fun hf => Nat.lt_irrefl _ (FLT.out _ hf))
   have SLS := zh (sls_lit1 S8.out.sl)
   have T8 := zh (HT.out.below (BX8.out.alloc BX8.out.size (.cells #[.slice a0 L c0] 39)) (Nat.le_refl _))
   have A9 := zh (A8.out.alloc (.cells #[.slice a0 L c0] 39))
   clear S8 BX BX8 A8
   go_wp2_with fail
   refine (SUM.out _ _ SLS.out T8.out).mono ?_
   rintro e w9 ⟨rfl, hb9⟩
   have A10 := zh (A9.out.below hb9 A9.out.lt)
   have B10 : Hid (Below w8.heap.size w8 w9) := zh (((Below.refl _ w8).alloc (Nat.le_refl _) (.cells #[.slice a0 L c0] 39)).trans (hb9.mono (by simp)))
   clear hb9 SLS T8 A9
   go_wp2_with (refine wpList_store_all zr 22 _ _ zr zr w.heap.size G32 zr zr (by rw [GS.out]; exact infoDg) Z _ A10.out (by rw [ZS.out, GS.out]) GO.out ?_)
   try simp only [Exit.inBlock, Exit.then]
   refine ret_row zr w.heap.size 22 G32 _ zr (A10.out.row G32) Tryz.underlying22 zr (by rw [GS.out]; exact infoDg) ?_
   exact ⟨rfl, dig_end HAL.out FLT.out (by rw [HW1.out]; simp) E8.out B10.out G32⟩
  ·refine plan_slice 24 39 1 _ #[.slice a2 L c2] zr zr zr Tryz.underlying24 (by kernel_rfl) trivial ?_
   (simp only [Act.put, Mem.pa, Mem.pb, Mem.pc])
   refine plan_sole_cell 24 _ _ (.slice asx M caps) _ zr zr zr Mem.ev_a (by first | exact C1.out | exact C2.out | exact C3.out) Tryz.underlying24 zr trivial ?_
   (simp only [Act.put, Mem.pa, Mem.pb, Mem.pc])
   refine plan_append_app _ _ 24 zr zr zr (.slice (some ⟨w2.heap.size, 0, none⟩) 1 1) M 1 1 [.slice a2 L c2] (.slice none 0 0) 24 elemRS9 zr (by decide) Mem.ev_a OW.out Mem.ev_a (by exact rdR_new (e := 39) (C := #[.slice a2 L c2])) (by simp [Value.oneCell']) (by omega) (by omega) (by omega) ?_
   intro v5 w5 ho5 ha5 hb5
   obtain ⟨a5, c5, rfl⟩ := rows_hd ho5
   have O5 := zh ho5; have A5 := zh ha5; have B5 := zh hb5
   have R5 : Hid (At w5 bk #[.slice asx M caps] 146) := zh (at_appd (((HROW.out.below B2.out (HV.out.lt bk HV.out.box))).alloc _) A5.out NE.out)
   clear ho5 ha5 hb5
   refine ⟨trivial, ?_⟩
   (simp only [Act.put, Mem.pa, Mem.pb, Mem.pc])
   refine plan_nilcheck _ ⟨bk, 0, none⟩ zr zr zr Mem.ev_a ?_
   (simp only [Act.put, Mem.pa, Mem.pb, Mem.pc])
   refine plan_field 146 _ 0 bk 0 ⟨bk, 0, none⟩ zr zr zr Mem.ev_a (fun wx => by go_simp) ?_
   (simp only [Act.put, Mem.pa, Mem.pb, Mem.pc])
   refine plan_store_one 24 _ _ bk 0 (.slice a5 (M + 1) c5) _ 146 zr zr zr zr Mem.ev_a Mem.ev_a zr infoSh9 R5.out (by simp) trivial ?_
   refine plan_nil ?_
   have E8 := zh (bk_add (v' := .slice a5 (M + 1) c5) HV.out HE.out (by rw [← HM.out]; exact HO.out) B2.out O2.out ((Below.refl _ w2).alloc (Nat.le_refl _) _) A5.out B5.out (by rw [← HM.out]; exact O5.out) (R5.out.set 0 (.slice a5 (M + 1) c5)) (fun k hk => heap_setCell_other w5 ⟨bk, 0, none⟩ k _ hk) (fun B a hB hle => hB.setCell hle _))
   generalize w5.setCell ⟨bk, 0, none⟩ (.slice a5 (M + 1) c5) = w8 at *
   clear R5 A5 B5 O5 OW C2 C3 O2 B2 HO HE HROW C1 CL NE XL
   clear HV
   have S8 : Hid (SlB G w8 (.slice a0 L c0) l) := zh (HV1.out.keep E8.out.2.size fun k hg hlt => E8.out.2.block k hlt (HG.out k hg))
   have BX : Hid (Below x.heap.size x w1) := zh (HX.out.trans (HAL.out.mono HX.out.size))
   have BX8 : Hid (Below x.heap.size x w8) := zh (E8.out.2.below BX.out.drew HF.out BX.out.size)
   have A8 : Hid (At w8 w.heap.size Z 22) := zh (HAZ.out.drew.chg E8.out.2 fun hf => Nat.lt_irrefl _ (FLT.out _ hf))
   have SLS := zh (sls_lit1 S8.out.sl)
   have T8 := zh (HT.out.below (BX8.out.alloc BX8.out.size (.cells #[.slice a0 L c0] 39)) (Nat.le_refl _))
   have A9 := zh (A8.out.alloc (.cells #[.slice a0 L c0] 39))
   clear S8 BX BX8 A8
   go_wp2_with fail
   refine (SUM.out _ _ SLS.out T8.out).mono ?_
   rintro e w9 ⟨rfl, hb9⟩
   have A10 := zh (A9.out.below hb9 A9.out.lt)
   have B10 : Hid (Below w8.heap.size w8 w9) := zh (((Below.refl _ w8).alloc (Nat.le_refl _) (.cells #[.slice a0 L c0] 39)).trans (hb9.mono (by simp)))
   clear hb9 SLS T8 A9
   go_wp2_with (refine wpList_store_all zr 22 _ _ zr zr w.heap.size G32 zr zr (by rw [GS.out]; exact infoDg) Z _ A10.out (by rw [ZS.out, GS.out]) GO.out ?_)
   try simp only [Exit.inBlock, Exit.then]
   refine ret_row zr w.heap.size 22 G32 _ zr (A10.out.row G32) Tryz.underlying22 zr (by rw [GS.out]; exact infoDg) ?_
   exact ⟨rfl, dig_end HAL.out FLT.out (by rw [HW1.out]; simp) E8.out B10.out G32⟩
end Sha
end Go.Proofs.YtajdpbbbocnfiaaGreatDoor
