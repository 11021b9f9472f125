/- The document's shape: Parent, Block, Item: walks. -/
import Derived.Test.YtbboljmemomcnaaShpRef1
import Derived.Test.YtbboljmemomcnaaShpMath2
import Derived.OwnWalk
import Derived.Deep.DeepCutAuto
namespace Go.Proofs.Ytbboljmemomcnaa
namespace Sha
open Go.RowKit Mem
set_option maxRecDepth 100000
/-- How a call ends that tells two ints and a bool. -/
def TEnd (t : Int × Int × Bool) (w : World) (e : Ending) (w' : World) : Prop := e = .returned (.tuple #[.int .i64 t.1, .int .i64 t.2.1, .bool t.2.2]) ∧ Below w.heap.size w w'
theorem KZ_nat (p q : Nat) (h : q < itn p) : KZ p (q : Int) = if p ≤ q then kz p q (many p q) else [] := by
  unfold KZ
  by_cases hp : p ≤ q
  · rw [if_pos hp, if_pos ⟨by omega, by omega⟩, Int.toNat_natCast]
  · rw [if_neg hp, if_neg (by omega)]
set_option maxHeartbeats 4000000 in
theorem rparent_any (p : Nat) (vL vF : Value) (z : Int) (w : World) (hR : RS w p vL vF) (h0 : 1 ≤ p) (h1 : p ≤ 216) : Calls Try.prog 21 #[.agg (rsC p vL vF), .int .i64 z] w (TEnd (PZ p z) w) := by
  have hkid := fun (q : Nat) wx h => rkids_any p vL vF (q : Int) wx h h0 h1
  have hfound := fun q j hq hqt hj hz => PZ_found p q j z h0 h1 hq hqt hj hz
  have hnone := PZ_none p z h0 h1
  obtain ⟨aL, cL, rfl⟩ := hR.l.hd
  rw [zL_length] at *
  have hkn := fun q h => KZ_nat p q h
  have hbig := (itn_big p h0 h1).2
  have hA := at_new w (rsC p (.slice aL (itn p) cL) vF) 29
  have hb : Below w.heap.size w (w.alloc (.cells (rsC p (.slice aL (itn p) cL) vF) 29)) := (Below.refl _ _).alloc (Nat.le_refl _) _
  have c1 : (w.alloc (.cells (rsC p (.slice aL (itn p) cL) vF) 29)).cell? ⟨w.heap.size, 1, none⟩ = some (.slice aL (itn p) cL) := (hA.cell 1).trans rfl
  have hR1 := hR.below hb
  have ms : (rsC p (.slice aL (itn p) cL) vF).size = 3 := rfl
  obtain ⟨vA, hvA⟩ : ∃ v, v = Value.slice aL (itn p) cL := ⟨_, rfl⟩
  obtain ⟨M, hM⟩ : ∃ M, M = rsC p (.slice aL (itn p) cL) vF := ⟨_, rfl⟩
  obtain ⟨n, hn⟩ : ∃ n, n = itn p := ⟨_, rfl⟩
  rw [← hvA] at hR1
  rw [← hM] at hkid hA hb c1 ms ⊢
  rw [← hvA] at hkid
  obtain ⟨w1, hw1⟩ : ∃ w1, w1 = w.alloc (.cells M 29) := ⟨_, rfl⟩
  have hR1' : RS w1 p vA vF := by rw [hw1, hM, ← hvA]; exact hR1
  rw [← hw1] at hA c1 hb
  rw [← hn] at c1 hkn hbig hfound hnone
  obtain ⟨R, hRR⟩ : ∃ R, R = PZ p z := ⟨_, rfl⟩
  rw [← hRR] at hfound hnone ⊢
  have KID := Lib.hid hkid; have AX := Lib.hid hA; have HB := Lib.hid hb; have MS := Lib.hid ms; have C1 := Lib.hid c1; have R1 := Lib.hid hR1'; have FOUND := Lib.hid hfound; have NONE := Lib.hid hnone; have KN := Lib.hid hkn; have LT0 := Lib.hid hA.lt
  clear hkid hA hb ms c1 hR1 hR1' hfound hnone hkn hM hn hvA hRR hR h0 h1
  go_enter Try.func21, Try.ntmps21
  go_upto_region 1 with fail
  rw [← hw1]
  clear hw1
  go_wp2_with fail
  go_loopw [7] (fun v wr => ∃ q : Nat, q ≤ n ∧ v = .int .i64 q ∧ Below w1.heap.size w1 wr ∧ ∀ q', q' < q → p ≤ q' → ∀ j, j < many p q' → ((fst p q' + j : Nat) : Int) ≠ z) (fun v _ => n - (intOf v).toNat)
  case atStart => exact ⟨0, by omega, rfl, Below.refl _ _, fun q' hq' => by omega⟩
  case round =>
    obtain ⟨q, hq, rfl, hbw, hno⟩ := hrel
    have cw := (hbw.cell (p := ⟨w.heap.size, 1, none⟩) LT0.out).trans C1.out
    have NO := Lib.hid hno; have BW := Lib.hid hbw
    clear hno
    by_cases hlt : q < n
    · have hlt' : (q : Int) < (n : Int) := by omega
      have AW := Lib.hid (AX.out.below hbw AX.out.lt); have RW := Lib.hid (R1.out.below hbw)
      have hk := KN.out q hlt
      clear hbw
      go_wp2_with (refine wpList_load_all (by rfl) 29 _ (by rfl) w.heap.size (by rfl) _ Try.underlying29 (by rfl) M _ AW.out (by rw [MS.out]; exact infoRS) ?_)
      refine (KID.out q wr RW.out).mono ?_
      rintro e w8 ⟨v8, rfl, hs8, hb8⟩
      have B8 : Hid (Below w1.heap.size w1 w8) := Lib.hid (BW.out.trans (hb8.mono BW.out.size))
      obtain ⟨K, hK⟩ : ∃ K, K = KZ p (q : Int) := ⟨_, rfl⟩
      rw [← hK] at hs8 hk
      obtain ⟨a8, c8, rfl⟩ := hs8.hd
      obtain ⟨m, hm⟩ : ∃ m, m = K.length := ⟨_, rfl⟩
      rw [← hm] at hs8 ⊢
      have hget : ∀ j, j < m → p ≤ q ∧ j < many p q ∧ K.getD j 0 = ((fst p q + j : Nat) : Int) := fun j hj => by
        by_cases hp : p ≤ q
        · rw [if_pos hp] at hk
          have hl : m = many p q := by rw [hm, hk, kz_length]
          exact ⟨hp, by omega, by rw [hk]; exact kz_get p q _ j (by omega)⟩
        · rw [if_neg hp] at hk
          rw [hk] at hm; simp at hm; omega
      have hall : p ≤ q → many p q = m := fun hp => by rw [if_pos hp] at hk; rw [hm, hk, kz_length]
      have hm6 : m ≤ 6 := by
        by_cases hp : p ≤ q
        · rw [← hall hp]; exact many_le p q
        · rw [if_neg hp] at hk; rw [hm, hk]; exact Nat.zero_le _
      have SK := Lib.hid hs8; have GET := Lib.hid hget; have HM := Lib.hid hm; have ALL := Lib.hid hall
      clear hs8 hb8 hk hK hm hget hall AW RW cw BW
      go_wp2_with fail
      go_loop [9] (fun i => ∃ j : Nat, j ≤ m ∧ i = .int .i64 j ∧ Hid (∀ t, t < j → K.getD t 0 ≠ z)) (fun i => m - (intOf i).toNat)
      case atStart => exact ⟨0, by omega, rfl, Lib.hid (fun t ht => by omega)⟩
      case round =>
        obtain ⟨j, hj, rfl, hI⟩ := hrel
        by_cases hlj : j < m
        · have hlj' : (j : Int) < (m : Int) := by omega
          obtain ⟨b9, o9, e9, _, cx⟩ := sli_at (i := j) SK.out HM.out hlj
          subst e9
          have hg := GET.out j hlj
          obtain ⟨y, hy⟩ : ∃ y, y = K.getD j 0 := ⟨_, rfl⟩
          rw [← hy] at cx hg
          by_cases hyz : y = z
          · have hf := FOUND.out q j hg.1 hlt hg.2.1 (by rw [← hg.2.2]; exact hyz)
            have HF := Lib.hid hf
            subst hyz
            clear hf hg hy hI
            go_wp2_with fail
            go_ret3
            exact ⟨by rw [HF.out]; rfl, HB.out.trans (B8.out.mono HB.out.size)⟩
          · have hI2 : Hid (∀ t, t < j + 1 → K.getD t 0 ≠ z) := Lib.hid (fun t ht => by
              rcases Nat.lt_or_ge t j with h | h
              · exact hI.out t h
              · rw [show t = j by omega, ← hy]; exact hyz)
            clear hI hg hy
            go_wp2_with fail
            go_round
            case rel => exact ⟨j + 1, by omega, by go_num, hI2⟩
            case measure => simp [intOf]; omega
        · have hjm : j = m := by omega
          have hge : ¬ (j : Int) < (m : Int) := by omega
          subst hjm
          have hno2 : Hid (∀ q', q' < q + 1 → p ≤ q' → ∀ t, t < many p q' → ((fst p q' + t : Nat) : Int) ≠ z) := Lib.hid (fun q' hq' hp t ht => by
            rcases Nat.lt_or_ge q' q with h | h
            · exact NO.out q' h hp t ht
            · have e : q' = q := by omega
              subst e
              have hm2 := ALL.out hp
              have hg := GET.out t (by omega)
              have hi := hI.out t (by omega)
              rw [hg.2.2] at hi
              exact hi)
          clear hI hlj hj
          go_wp2_with fail
          go_roundw
          case rel => exact ⟨q + 1, by omega, by go_num, B8.out, hno2.out⟩
          case measure => simp [intOf]; omega
    · have hqn : q = n := by omega
      have hge : ¬ (q : Int) < (n : Int) := by omega
      subst hqn
      have hf := NONE.out NO.out
      have HF := Lib.hid hf
      clear hf hlt hq hbw
      go_wp2_with fail
      go_ret3
      exact ⟨by rw [HF.out]; rfl, HB.out.trans (BW.out.mono HB.out.size)⟩
set_option maxHeartbeats 2000000 in
theorem rblock_any (p : Nat) (vL vF : Value) (z k : Int) (w : World) (hR : RS w p vL vF) (h1 : itn p ≤ 259) : Calls Try.prog 24 #[.agg (rsC p vL vF), .int .i64 z, .int .i64 k] w fun e w' => e = .returned (.int .i64 (BZ p z k)) ∧ Below w.heap.size w w' := by
  have hhas := fun wx h => rhas_any p vL vF z wx h
  have hA := at_new w (rsC p vL vF) 29
  have hb : Below w.heap.size w (w.alloc (.cells (rsC p vL vF) 29)) := (Below.refl _ _).alloc (Nat.le_refl _) _
  have hR1 := hR.below hb
  have ms : (rsC p vL vF).size = 3 := rfl
  have hin : inS p z = decide (0 ≤ z ∧ z < (itn p : Int)) := rfl
  unfold BZ
  obtain ⟨n, hn⟩ : ∃ n, n = itn p := ⟨_, rfl⟩
  rw [← hn] at hin h1 ⊢
  rw [hin] at hhas
  obtain ⟨M, hM⟩ : ∃ M, M = rsC p vL vF := ⟨_, rfl⟩
  rw [← hM] at hhas hA hb hR1 ms ⊢
  obtain ⟨w1, hw1⟩ : ∃ w1, w1 = w.alloc (.cells M 29) := ⟨_, rfl⟩
  rw [← hw1] at hA hb hR1
  have HAS := Lib.hid (hhas w1 hR1); have AX := Lib.hid hA; have HB := Lib.hid hb; have MS := Lib.hid ms
  clear hhas hA hb hR1 ms hM hn hin hR
  by_cases hz : 0 ≤ z ∧ z < (n : Int)
  · rw [decide_eq_true hz] at HAS
    by_cases k0 : 0 ≤ k
    · by_cases k1 : k ≤ 1
      · rw [if_pos ⟨hz, k0, k1⟩]
        obtain ⟨z0, zn⟩ := hz
        go_enter Try.func24, Try.ntmps24
        go_upto_region 1 with fail
        rw [← hw1]
        clear hw1
        go_wp2_with (refine wpList_load_all (by rfl) 29 _ (by rfl) w.heap.size (by rfl) _ Try.underlying29 (by rfl) M _ AX.out (by rw [MS.out]; exact infoRS) ?_)
        refine HAS.out.mono ?_
        rintro e w2 ⟨rfl, hb2⟩
        have B2 : Hid (Below w.heap.size w w2) := Lib.hid (HB.out.trans (hb2.mono HB.out.size))
        clear hb2 HAS
        go_wp2_with fail
        go_ret
        exact ⟨rfl, B2.out⟩
      · rw [if_neg (fun h => k1 h.2.2)]
        go_enter Try.func24, Try.ntmps24
        go_upto_region 1 with fail
        rw [← hw1]
        clear hw1 hz
        go_wp2_with (refine wpList_load_all (by rfl) 29 _ (by rfl) w.heap.size (by rfl) _ Try.underlying29 (by rfl) M _ AX.out (by rw [MS.out]; exact infoRS) ?_)
        refine HAS.out.mono ?_
        rintro e w2 ⟨rfl, hb2⟩
        have B2 : Hid (Below w.heap.size w w2) := Lib.hid (HB.out.trans (hb2.mono HB.out.size))
        clear hb2 HAS
        go_wp2_with fail
        go_ret
        exact ⟨rfl, B2.out⟩
    · rw [if_neg (fun h => k0 h.2.1)]
      go_enter Try.func24, Try.ntmps24
      go_upto_region 1 with fail
      rw [← hw1]
      clear hw1 hz
      go_wp2_with (refine wpList_load_all (by rfl) 29 _ (by rfl) w.heap.size (by rfl) _ Try.underlying29 (by rfl) M _ AX.out (by rw [MS.out]; exact infoRS) ?_)
      refine HAS.out.mono ?_
      rintro e w2 ⟨rfl, hb2⟩
      have B2 : Hid (Below w.heap.size w w2) := Lib.hid (HB.out.trans (hb2.mono HB.out.size))
      clear hb2 HAS
      go_wp2_with fail
      go_ret
      exact ⟨rfl, B2.out⟩
  · rw [decide_eq_false hz] at HAS
    rw [if_neg (fun h => hz h.1)]
    go_enter Try.func24, Try.ntmps24
    go_upto_region 1 with fail
    rw [← hw1]
    clear hw1 hz
    go_wp2_with (refine wpList_load_all (by rfl) 29 _ (by rfl) w.heap.size (by rfl) _ Try.underlying29 (by rfl) M _ AX.out (by rw [MS.out]; exact infoRS) ?_)
    refine HAS.out.mono ?_
    rintro e w2 ⟨rfl, hb2⟩
    have B2 : Hid (Below w.heap.size w w2) := Lib.hid (HB.out.trans (hb2.mono HB.out.size))
    clear hb2 HAS
    go_wp2_with fail
    go_ret
    exact ⟨rfl, B2.out⟩
set_option maxHeartbeats 4000000 in
theorem ritem_any (p : Nat) (vL vF : Value) (z : Int) (w : World) (hR : RS w p vL vF) (h1 : itn p ≤ 259) : Calls Try.prog 23 #[.agg (rsC p vL vF), .int .i64 z] w (TEnd (IZ p z) w) := by
  have hblk := fun (q : Nat) (k : Nat) (hq : q < itn p) (hk : k < 2) wx h => by
    have hh := rblock_any p vL vF (q : Int) (k : Int) wx h h1
    rw [BZ_at p q k hq hk] at hh
    exact hh
  have hfound := fun q k hq hk hz => IZ_found p q k z hq hk hz
  have hnone := IZ_none p z
  obtain ⟨aL, cL, rfl⟩ := hR.l.hd
  rw [zL_length] at *
  have hA := at_new w (rsC p (.slice aL (itn p) cL) vF) 29
  have hb : Below w.heap.size w (w.alloc (.cells (rsC p (.slice aL (itn p) cL) vF) 29)) := (Below.refl _ _).alloc (Nat.le_refl _) _
  have c1 : (w.alloc (.cells (rsC p (.slice aL (itn p) cL) vF) 29)).cell? ⟨w.heap.size, 1, none⟩ = some (.slice aL (itn p) cL) := (hA.cell 1).trans rfl
  have hR1 := hR.below hb
  have ms : (rsC p (.slice aL (itn p) cL) vF).size = 3 := rfl
  obtain ⟨vA, hvA⟩ : ∃ v, v = Value.slice aL (itn p) cL := ⟨_, rfl⟩
  obtain ⟨M, hM⟩ : ∃ M, M = rsC p (.slice aL (itn p) cL) vF := ⟨_, rfl⟩
  obtain ⟨n, hn⟩ : ∃ n, n = itn p := ⟨_, rfl⟩
  rw [← hvA] at hR1
  rw [← hM] at hblk hA hb c1 ms ⊢
  rw [← hvA] at hblk
  obtain ⟨w1, hw1⟩ : ∃ w1, w1 = w.alloc (.cells M 29) := ⟨_, rfl⟩
  have hR1' : RS w1 p vA vF := by rw [hw1, hM, ← hvA]; exact hR1
  rw [← hw1] at hA c1 hb
  rw [← hn] at c1 hblk h1 hfound hnone
  obtain ⟨R, hRR⟩ : ∃ R, R = IZ p z := ⟨_, rfl⟩
  rw [← hRR] at hfound hnone ⊢
  have BLK := Lib.hid hblk; have AX := Lib.hid hA; have HB := Lib.hid hb; have MS := Lib.hid ms; have C1 := Lib.hid c1; have R1 := Lib.hid hR1'; have FOUND := Lib.hid hfound; have NONE := Lib.hid hnone; have LT0 := Lib.hid hA.lt
  clear hblk hA hb ms c1 hR1 hR1' hfound hnone hM hn hvA hRR hR
  go_enter Try.func23, Try.ntmps23
  go_upto_region 1 with fail
  rw [← hw1]
  clear hw1
  go_wp2_with fail
  go_loopw [7] (fun v wr => ∃ q : Nat, q ≤ n ∧ v = .int .i64 q ∧ Below w1.heap.size w1 wr ∧ ∀ q', q' < q → ∀ k : Nat, k < 2 → 2 + 2 * (q' : Int) + (k : Int) ≠ z) (fun v _ => n - (intOf v).toNat)
  case atStart => exact ⟨0, by omega, rfl, Below.refl _ _, fun q' hq' => by omega⟩
  case round =>
    obtain ⟨q, hq, rfl, hbw, hno⟩ := hrel
    have cw := (hbw.cell (p := ⟨w.heap.size, 1, none⟩) LT0.out).trans C1.out
    have NO := Lib.hid hno; have BW := Lib.hid hbw
    clear hno
    by_cases hlt : q < n
    · have hlt' : (q : Int) < (n : Int) := by omega
      clear hbw
      go_wp2_with fail
      go_loopw [8] (fun v wr => ∃ k : Nat, k ≤ 2 ∧ v = .int .i64 k ∧ Below w1.heap.size w1 wr ∧ ∀ t : Nat, t < k → 2 + 2 * (q : Int) + (t : Int) ≠ z) (fun v _ => 2 - (intOf v).toNat)
      case atStart => exact ⟨0, by omega, rfl, BW.out, fun t ht => by omega⟩
      case round =>
        obtain ⟨k, hk, rfl, hbx, hnk⟩ := hrel
        have NK := Lib.hid hnk; have BX := Lib.hid hbx
        by_cases hlk : k < 2
        · have hlk' : (k : Int) < 2 := by omega
          have AW := Lib.hid (AX.out.below hbx AX.out.lt); have RW := Lib.hid (R1.out.below hbx)
          clear hbx hnk
          go_wp2_with (refine wpList_load_all (by rfl) 29 _ (by rfl) w.heap.size (by rfl) _ Try.underlying29 (by rfl) M _ AW.out (by rw [MS.out]; exact infoRS) ?_)
          refine (BLK.out q k hlt hlk _ RW.out).mono ?_
          rintro e w8 ⟨rfl, hb8⟩
          have B8 : Hid (Below w1.heap.size w1 w8) := Lib.hid (BX.out.trans (hb8.mono BX.out.size))
          clear hb8 AW RW
          obtain ⟨y, hy⟩ : ∃ y, y = 2 + 2 * (q : Int) + (k : Int) := ⟨_, rfl⟩
          rw [← hy]
          by_cases hyz : y = z
          · have hf := FOUND.out q k hlt hlk (by rw [← hy]; exact hyz)
            have HF := Lib.hid hf
            subst hyz
            clear hf hy
            go_wp2_with fail
            go_ret3
            exact ⟨by rw [HF.out]; rfl, HB.out.trans (B8.out.mono HB.out.size)⟩
          · have hn2 : Hid (∀ t : Nat, t < k + 1 → 2 + 2 * (q : Int) + (t : Int) ≠ z) := Lib.hid (fun t ht => by
              rcases Nat.lt_or_ge t k with h | h
              · exact NK.out t h
              · rw [show t = k by omega, ← hy]; exact hyz)
            clear hy
            go_wp2_with fail
            go_roundw
            case rel => exact ⟨k + 1, by omega, by go_num, B8.out, hn2.out⟩
            case measure => simp [intOf]; omega
        · have hk2 : k = 2 := by omega
          subst hk2
          have hno2 : Hid (∀ q' : Nat, q' < q + 1 → ∀ t : Nat, t < 2 → 2 + 2 * (q' : Int) + (t : Int) ≠ z) := Lib.hid (fun q' hq' t ht => by
            rcases Nat.lt_or_ge q' q with h | h
            · exact NO.out q' h t ht
            · have e : q' = q := by omega
              subst e
              exact NK.out t ht)
          clear hnk hbx hlk hk
          go_wp2_with fail
          go_roundw
          case rel => exact ⟨q + 1, by omega, by go_num, BX.out, hno2.out⟩
          case measure => simp [intOf]; omega
    · have hqn : q = n := by omega
      have hge : ¬ (q : Int) < (n : Int) := by omega
      subst hqn
      have hf := NONE.out NO.out
      have HF := Lib.hid hf
      clear hf hlt hq hbw
      go_wp2_with fail
      go_ret3
      exact ⟨by rw [HF.out]; rfl, HB.out.trans (BW.out.mono HB.out.size)⟩
end Sha
end Go.Proofs.Ytbboljmemomcnaa
