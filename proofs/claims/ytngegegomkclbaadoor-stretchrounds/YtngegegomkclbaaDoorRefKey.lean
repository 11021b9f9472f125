/- The document's stretched key: its walk. -/
import Derived.Test.YtngegegomkclbaaDoorRefBlock
import Derived.Test.YtngegegomkclbaaDoorStrLive
namespace Go.Proofs.YtngegegomkclbaaDoor
namespace Sha
open Go.RowKit Mem
set_option maxRecDepth 100000 in
set_option maxHeartbeats 400000 in
theorem rskey_bad (r size : Int) (vp vs : Value) (w : World) (h : keyB r size = false) :
    Calls Tryd.prog 23 #[vp, vs, .int .i64 r, .int .i64 size] w fun e w' => e = .returned (.tuple #[.slice none 0 0, .int .i64 1]) ∧ w = w' := by
  unfold keyB roundsB at h
  by_cases h1 : r < 1
  · clear h
    go_enter Tryd.func23, Tryd.ntmps23
    go_wp2
    go_ret2
    exact ⟨rfl, rfl⟩
  by_cases h2 : (10000 : Int) < r
  · clear h
    go_enter Tryd.func23, Tryd.ntmps23
    go_wp2
    go_ret2
    exact ⟨rfl, rfl⟩
  by_cases h3 : size < 0
  · clear h
    go_enter Tryd.func23, Tryd.ntmps23
    go_wp2
    go_ret2
    exact ⟨rfl, rfl⟩
  have h4 : (1024 : Int) < size := by
    simp at h
    omega
  clear h
  go_enter Tryd.func23, Tryd.ntmps23
  go_wp2
  go_ret2
  exact ⟨rfl, rfl⟩
structure RKInv (p s : List (BitVec 8)) (r j : Nat) (v : Value) (w wr : World) : Prop where
  o : OwnB wr w.heap.size v (blks p s r j)
  b : Below w.heap.size w wr
def RKEnd (w : World) (L : List (BitVec 8)) (e : Ending) (w' : World) : Prop := ∃ v, e = .returned (.tuple #[v, .int .i64 0]) ∧ Sl w' v L ∧ Below w.heap.size w w'
set_option maxRecDepth 100000 in
set_option maxHeartbeats 1000000 in
theorem rskey_good (p s : List (BitVec 8)) (r size : Nat) (vp vs : Value) (w : World) (hr1 : 1 ≤ r) (hr2 : r ≤ 10000) (hz : size ≤ 1024) (lp : p.length ≤ 1099511627776) (ls : s.length ≤ 1099511626000) (hp : Sl w vp p) (hs : Sl w vs s) :
    Calls Tryd.prog 23 #[vp, vs, .int .i64 (r : Int), .int .i64 (size : Int)] w (RKEnd w (stretched p s r size)) := by
  obtain ⟨X, hX⟩ : ∃ X, X = Z32 := ⟨_, rfl⟩
  have hx := zero32
  rw [← hX] at hx
  have hXs : X.size = 32 := by rw [hX]; simp [Z32, u8s]
  have hrr : rnds' (r : Int) = r := by
    unfold rnds'
    rw [show roundsB (r : Int) = true by simp [roundsB]; omega]; simp
  have hbl : ∀ (j : Nat) (wx : World), Below w.heap.size w wx → Calls Tryd.prog 25 #[vp, vs, .int .i64 (r : Int), .int .u32 (V (BitVec.ofNat 32 (j + 1)))] wx fun e w' => e = .returned (.agg (u8s (blk p s (BitVec.ofNat 32 (j + 1)) r)).toArray) ∧ Below wx.heap.size wx w' := fun j wx hx => by
    have h := rblock_any p s (BitVec.ofNat 32 (j + 1)) (r : Int) vp vs wx lp ls (hp.below hx) (hs.below hx)
    rw [hrr] at h
    exact h
  have BL := Lib.hid hbl; have XS := Lib.hid hXs
  have g1 : ¬ (r : Int) < 1 := by omega
  have g2 : ¬ (10000 : Int) < (r : Int) := by omega
  have g3 : ¬ (size : Int) < 0 := by omega
  have g4 : ¬ (1024 : Int) < (size : Int) := by omega
  clear hbl hXs hX hrr hp hs lp ls
  go_enter Tryd.func23, Tryd.ntmps23
  go_wp2_with fail
  generalize Value.bool (decide ((1024 : Int) < (size : Int))) = q24
  go_loopw [10, 11, 12] (fun vo vn _ wr => ∃ j : Nat, 32 * j ≤ size + 31 ∧ vn = .int .u32 (V (BitVec.ofNat 32 (j + 1))) ∧ RKInv p s r j vo w wr) (fun vo _ _ _ => 2000 - (match vo with | .slice _ l _ => l | _ => 0))
  case atStart => exact ⟨0, by omega, rfl, OwnB.nil _ _, Below.refl _ _⟩
  case round =>
    obtain ⟨j, hj, rfl, hI⟩ := hrel
    obtain ⟨ao, co, hvo, hco, _⟩ := hI.o.open
    rw [blks_length] at hvo hco
    subst hvo
    by_cases hlt : 32 * j < size
    · have hlt' : 32 * (j : Int) < (size : Int) := by omega
      obtain ⟨N, hN⟩ : ∃ N, N = BitVec.ofNat 32 (j + 1) := ⟨_, rfl⟩
      have hN2 : (V N + 1) % (4294967296 : Int) = V (BitVec.ofNat 32 (j + 1 + 1)) := by rw [hN]; exact V_next j (by omega)
      have hb := fun wx h => BL.out j wx h
      obtain ⟨T, hT⟩ : ∃ T, T = blk p s N r := ⟨_, rfl⟩
      have hTl : T.length = 32 := by rw [hT]; exact blk_length _ _ _ _
      have hnx : blks p s r (j + 1) = blks p s r j ++ T := by rw [hT, hN]; rfl
      obtain ⟨D, hD⟩ : ∃ D, D = (u8s T).toArray := ⟨_, rfl⟩
      have hDs : D.size = 32 := by rw [hD]; simp [u8s, hTl]
      have hDo : D.all (·.oneCell') = true := by rw [hD]; exact u8s_one _
      rw [← hN, ← hT, ← hD] at hb
      rw [← hN]
      have BJ := Lib.hid hb; have N2 := Lib.hid hN2; have TL := Lib.hid hTl; have NX := Lib.hid hnx; have HD := Lib.hid hD; have DS := Lib.hid hDs; have DO := Lib.hid hDo; have OO := Lib.hid hI.o; have BB := Lib.hid hI.b; have BLN := Lib.hid (blks_length p s r j)
      clear hb hN2 hTl hnx hD hDs hDo hI hT hN hco
      go_wp2_with (first
        | (go_at_call 25; refine (BJ.out _ BB.out).mono ?_; rintro e w2 ⟨rfl, hb2⟩; have O2 := Lib.hid (OO.out.below hb2); have B2 := Lib.hid (BB.out.trans (hb2.mono BB.out.size)); clear hb2)
        | (refine wpList_store_new (by rfl) 25 _ _ (by rfl) (by rfl) D _ _ (by rfl) (by rfl) (by rw [DS.out]; exact info32) (by rw [DS.out, XS.out]) DO.out ?_; have D3 := Lib.hid (at_new w2 D 25); have O3 := Lib.hid (O2.out.below ((Below.refl _ _).alloc (Nat.le_refl _) (.cells D 25))); have B3 := Lib.hid (B2.out.alloc B2.out.size (.cells D 25)); generalize w2.alloc (.cells D 25) = w3 at *; generalize w2.heap.size = bd at *)
        | (at_builtin; refine wpList_append_bytes (by rfl) _ _ (by rfl) w.heap.size (.slice ao (32 * j) co) (.slice (some ⟨bd, 0, none⟩) 32 32) (blks p s r j) T (by rfl) O3.out (by rfl) (at_sl (by have h := D3.out; rw [HD.out] at h; exact h) TL.out) (by rw [TL.out, BLN.out]; omega) B3.out.size ?_; intro v4 w4 ho4 hk4 hb4; have O4 : Hid (OwnB w4 w.heap.size v4 (blks p s r (j + 1))) := (by rw [NX.out]; exact ho4); have B4 := Lib.hid (B3.out.trans hb4); clear ho4 hk4 hb4))
      rw [N2.out]
      go_roundw
      case rel => exact ⟨j + 1, by omega, rfl, O4.out, B4.out⟩
      case measure =>
        obtain ⟨a5, c5, hv5, _, _⟩ := O4.out.open
        rw [blks_length] at hv5
        subst hv5
        simp only
        omega
    · have hge : ¬ 32 * (j : Int) < (size : Int) := by omega
      have hst := stretched_from p s r size j (by omega)
      have hsl : ∀ a', (32 * j ≠ 0 → a' = ao) → Sl wr (.slice a' size co) (stretched p s r size) := fun a' ha => by
        obtain ⟨a6, c6, e6, _, hr6⟩ := hI.o.sl
        rw [blks_length] at e6
        injection e6 with e61 _ e63
        have hl := stretched_length p s r size
        refine ⟨a', co, by rw [hl], by rw [hl]; omega, fun hne => ?_⟩
        have hp0 : 0 < size := by
          rcases Nat.eq_zero_or_pos size with h | h
          · rw [h] at hl; exact absurd (List.eq_nil_of_length_eq_zero hl) (by rw [← h]; exact hne)
          · exact h
        obtain ⟨bb, oo, e7, hlt7, hc7⟩ := hr6 (by intro e; have := blks_length p s r j; rw [e] at this; simp at this; omega)
        refine ⟨bb, oo, by rw [ha (by omega), e61, e7], hlt7, fun i hi => ?_⟩
        rw [hl] at hi
        rw [hc7 i (by rw [blks_length]; omega), ← hst]
        simp [List.getD_eq_getElem?_getD, hi]
      have hsz : size ≤ co := by omega
      have SL := Lib.hid hsl; have BB := Lib.hid hI.b
      clear hsl hst hI
      go_wp2_with fail
      go_ret2
      refine ⟨_, rfl, ?_, BB.out⟩
      exact SL.out _ (fun _ => rfl)
end Sha
end Go.Proofs.YtngegegomkclbaaDoor
