/- The document's stream of the cipher: its walk. -/
import Derived.Test.YtikfhabcjjoloaaDoorCipBlk
import Derived.Test.YtikfhabcjjoloaaDoorCipStream
namespace Go.Proofs.YtikfhabcjjoloaaDoor
namespace Sha
open Go.RowKit Mem
set_option maxHeartbeats 400000 in
theorem rstream_bad (key nonce : List (BitVec 8)) (n : BitVec 32) (size : Int) (hz : size < 0 ∨ 1048576 < size) (w : World) :
    Calls Tryd.prog 17 #[.agg (u8s key).toArray, .agg (u8s nonce).toArray, .int .u32 (V n), .int .i64 size] w fun e w' => e = .returned (.slice none 0 0) ∧ Below w.heap.size w w' := by
  generalize (u8s key).toArray = C
  generalize (u8s nonce).toArray = D
  have hB : Below w.heap.size w ((w.alloc (.cells C 22)).alloc (.cells D 23)) := ((Below.refl _ _).alloc (Nat.le_refl _) _).alloc (by simp) _
  have HB := Lib.hid hB
  clear hB
  rcases hz with h | h
  · go_enter Tryd.func17, Tryd.ntmps17
    go_wp2
    go_ret
    exact ⟨rfl, HB.out⟩
  · have h' : ¬ size < 0 := by omega
    go_enter Tryd.func17, Tryd.ntmps17
    go_wp2
    go_ret
    exact ⟨rfl, HB.out⟩
structure RSInv (key nonce : List (BitVec 8)) (n : BitVec 32) (C D : Array Value) (j : Nat) (v : Value) (w wr : World) : Prop where
  o : OwnB wr (w.heap.size + 1 + 1) v (cblks key nonce n j)
  c : At wr w.heap.size C 22
  d : At wr (w.heap.size + 1) D 23
  b : Below w.heap.size w wr
def RSEnd (w : World) (L : List (BitVec 8)) (e : Ending) (w' : World) : Prop := ∃ v, e = .returned v ∧ Sl w' v L ∧ Below w.heap.size w w'
set_option maxRecDepth 100000 in
set_option maxHeartbeats 2000000 in
theorem rstream_good (key nonce : List (BitVec 8)) (n : BitVec 32) (size : Nat) (lk : key.length = 32) (ln : nonce.length = 12) (hz : size ≤ 1048576) (w : World) :
    Calls Tryd.prog 17 #[.agg (u8s key).toArray, .agg (u8s nonce).toArray, .int .u32 (V n), .int .i64 (size : Int)] w (RSEnd w (cstream key nonce n size)) := by
  obtain ⟨X, hX⟩ : ∃ X, X = Z64 := ⟨_, rfl⟩
  have hx := zero64
  rw [← hX] at hx
  have hXs : X.size = 64 := by rw [hX]; simp [Z64, u8s]
  have hbl := fun (m : BitVec 32) wx => rblk_any key nonce m lk ln wx
  obtain ⟨C, hC⟩ : ∃ C, C = (u8s key).toArray := ⟨_, rfl⟩
  obtain ⟨D, hD⟩ : ∃ D, D = (u8s nonce).toArray := ⟨_, rfl⟩
  have hCs : C.size = 32 := by rw [hC]; simp [u8s, lk]
  have hDs : D.size = 12 := by rw [hD]; simp [u8s, ln]
  rw [← hC, ← hD] at hbl
  rw [← hC, ← hD]
  have g3 : ¬ (size : Int) < 0 := by omega
  have g4 : ¬ (1048576 : Int) < (size : Int) := by omega
  have aD : At ((w.alloc (.cells C 22)).alloc (.cells D 23)) (w.heap.size + 1) D 23 := by
    have h := at_new (w.alloc (.cells C 22)) D 23
    simpa using h
  have hI : RSInv key nonce n C D 0 (.slice none 0 0) w ((w.alloc (.cells C 22)).alloc (.cells D 23)) :=
    ⟨OwnB.nil _ _, (at_new w C _).alloc _, aD, ((Below.refl _ _).alloc (Nat.le_refl _) _).alloc (by simp) _⟩
  have N0 : Hid (V n = V (n + BitVec.ofNat 32 0)) := by show V n = V (n + BitVec.ofNat 32 0); simp
  have BL := Lib.hid hbl; have XS := Lib.hid hXs; have CS := Lib.hid hCs; have DS := Lib.hid hDs; have I0 := Lib.hid hI
  clear hbl hXs hX hC hD hCs hDs aD hI lk ln
  go_enter Tryd.func17, Tryd.ntmps17
  go_wp2_with fail
  generalize (w.alloc (.cells C 22)).alloc (.cells D 23) = w4 at *
  go_loopw [2, 9, 10] (fun vn vo _ wr => ∃ j : Nat, 64 * j ≤ size + 63 ∧ vn = .int .u32 (V (n + BitVec.ofNat 32 j)) ∧ RSInv key nonce n C D j vo w wr) (fun _ vo _ _ => 2000000 - (match vo with | .slice _ l _ => l | _ => 0))
  case atStart => exact ⟨0, by omega, by rw [N0.out], I0.out⟩
  case round =>
    clear I0 N0
    obtain ⟨j, hj, rfl, hI⟩ := hrel
    obtain ⟨ao, co, hvo, hco, _⟩ := hI.o.open
    rw [cblks_length] at hvo hco
    subst hvo
    by_cases hlt : 64 * j < size
    · have hlt' : 64 * (j : Int) < (size : Int) := by omega
      obtain ⟨N, hN⟩ : ∃ N, N = n + BitVec.ofNat 32 j := ⟨_, rfl⟩
      have hN2 : (V N + 1) % (4294967296 : Int) = V (n + BitVec.ofNat 32 (j + 1)) := by rw [hN]; exact V_up n j
      have hb := fun wx => BL.out N wx
      obtain ⟨T, hT⟩ : ∃ T, T = cblk key nonce N := ⟨_, rfl⟩
      have hTl : T.length = 64 := by rw [hT]; exact cblk_length _ _ _
      have hnx : cblks key nonce n (j + 1) = cblks key nonce n j ++ T := by rw [hT, hN]; rfl
      obtain ⟨F, hF⟩ : ∃ F, F = (u8s T).toArray := ⟨_, rfl⟩
      have hFs : F.size = 64 := by rw [hF]; simp [u8s, hTl]
      have hFo : F.all (·.oneCell') = true := by rw [hF]; exact u8s_one _
      rw [← hT, ← hF] at hb
      rw [← hN]
      have BJ := Lib.hid hb; have N2 := Lib.hid hN2; have TL := Lib.hid hTl; have NX := Lib.hid hnx; have HF := Lib.hid hF; have FS := Lib.hid hFs; have FO := Lib.hid hFo; have OO := Lib.hid hI.o; have BB := Lib.hid hI.b; have CC := Lib.hid hI.c; have DD := Lib.hid hI.d; have BLN := Lib.hid (cblks_length key nonce n j)
      clear hb hN2 hTl hnx hF hFs hFo hI hT hN hco
      go_wp2_with (first
        | (refine wpList_load_all (by rfl) 22 _ (by rfl) w.heap.size (by rfl) _ Tryd.underlying22 (by rfl) C _ CC.out (by rw [CS.out]; exact info32b) ?_)
        | (refine wpList_load_all (by rfl) 23 _ (by rfl) (w.heap.size + 1) (by rfl) _ Tryd.underlying23 (by rfl) D _ DD.out (by rw [DS.out]; exact info12) ?_)
        | (go_at_call 8; refine (BJ.out _).mono ?_; rintro e w2 ⟨rfl, hb2⟩; have O2 := Lib.hid (OO.out.below hb2); have C2 := Lib.hid (CC.out.below hb2 CC.out.lt); have D2 := Lib.hid (DD.out.below hb2 DD.out.lt); have B2 := Lib.hid (BB.out.trans (hb2.mono BB.out.size)); clear hb2)
        | (refine wpList_store_new (by rfl) 27 _ _ (by rfl) (by rfl) F _ _ (by rfl) (by rfl) (by rw [FS.out]; exact info64) (by rw [FS.out, XS.out]) FO.out ?_; have F3 := Lib.hid (at_new w2 F 27); have O3 := Lib.hid (O2.out.below ((Below.refl _ _).alloc (Nat.le_refl _) (.cells F 27))); have C3 := Lib.hid (C2.out.alloc (.cells F 27)); have D3 := Lib.hid (D2.out.alloc (.cells F 27)); have B3 := Lib.hid (B2.out.alloc B2.out.size (.cells F 27)); generalize w2.alloc (.cells F 27) = w3 at *; generalize w2.heap.size = bd at *)
        | (at_builtin; refine wpList_append_bytes (by rfl) _ _ (by rfl) (w.heap.size + 1 + 1) (.slice ao (64 * j) co) (.slice (some ⟨bd, 0, none⟩) 64 64) (cblks key nonce n j) T (by rfl) O3.out (by rfl) (at_sl (by have h := F3.out; rw [HF.out] at h; exact h) TL.out) (by rw [TL.out, BLN.out]; omega) (by have := D3.out.lt; omega) ?_; intro v4 w4 ho4 hk4 hb4; have O4 : Hid (OwnB w4 (w.heap.size + 1 + 1) v4 (cblks key nonce n (j + 1))) := (by rw [NX.out]; exact ho4); have C4 := Lib.hid (C3.out.below hb4 (by omega)); have D4 := Lib.hid (D3.out.below hb4 (by omega)); have B4 := Lib.hid (B3.out.trans (hb4.mono (by omega))); clear ho4 hk4 hb4))
      rw [N2.out]
      go_roundw
      case rel => exact ⟨j + 1, by omega, rfl, O4.out, C4.out, D4.out, B4.out⟩
      case measure =>
        obtain ⟨a5, c5, hv5, _, _⟩ := O4.out.open
        rw [cblks_length] at hv5
        subst hv5
        simp only
        omega
    · have hge : ¬ 64 * (j : Int) < (size : Int) := by omega
      have hst := cstream_from key nonce n size j (by omega)
      have hsl : ∀ a', (64 * j ≠ 0 → a' = ao) → Sl wr (.slice a' size co) (cstream key nonce n size) := fun a' ha => by
        obtain ⟨a6, c6, e6, _, hr6⟩ := hI.o.sl
        rw [cblks_length] at e6
        injection e6 with e61 _ e63
        have hl := cstream_length key nonce n size
        refine ⟨a', co, by rw [hl], by rw [hl]; omega, fun hne => ?_⟩
        have hp0 : 0 < size := by
          rcases Nat.eq_zero_or_pos size with h | h
          · rw [h] at hl; exact absurd (List.eq_nil_of_length_eq_zero hl) (by rw [← h]; exact hne)
          · exact h
        obtain ⟨bb, oo, e7, hlt7, hc7⟩ := hr6 (by intro e; have := cblks_length key nonce n j; rw [e] at this; simp at this; omega)
        refine ⟨bb, oo, by rw [ha (by omega), e61, e7], hlt7, fun i hi => ?_⟩
        rw [hl] at hi
        rw [hc7 i (by rw [cblks_length]; omega), ← hst]
        simp [List.getD_eq_getElem?_getD, hi]
      have hsz : size ≤ co := by omega
      have SL := Lib.hid hsl; have BB := Lib.hid hI.b
      clear hsl hst hI
      go_wp2_with fail
      go_ret
      refine ⟨_, rfl, ?_, BB.out⟩
      exact SL.out _ (fun _ => rfl)
end Sha
end Go.Proofs.YtikfhabcjjoloaaDoor
