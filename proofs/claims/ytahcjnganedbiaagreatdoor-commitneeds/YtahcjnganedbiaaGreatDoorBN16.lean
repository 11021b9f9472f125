/- My own texts, merged. -/
import Derived.Test.YtahcjnganedbiaaGreatDoorBN12
import Derived.Test.YtahcjnganedbiaaGreatDoorBN11
import Derived.OwnWalk
import Derived.Deep.DeepCutAuto
namespace Go.Proofs.YtahcjnganedbiaaGreatDoor
namespace Sha
open Go.RowKit Mem
set_option maxRecDepth 100000
def TEnd (t : Int × Int × Bool) (w : World) (e : Ending) (w' : World) : Prop := e = .returned (.tuple #[.int .i64 t.1, .int .i64 t.2.1, .bool t.2.2]) ∧ Below w.heap.size w w'
theorem KZ_nat (p q : Nat) (h : q < itn p) : KZ p (q : Int) = if p ≤ q then kz p q (many p q) else [] := by
 unfold KZ
 by_cases hp : p ≤ q
 ·rw [if_pos hp, if_pos ⟨by omega, by omega⟩, Int.toNat_natCast]
 ·rw [if_neg hp, if_neg (by omega)]
set_option maxHeartbeats 4000000 in
theorem rparent_any (p : Nat) (vL vF : Value) (z : Int) (w : World) (hR : RS w p vL vF) (h0 : 1 ≤ p) (h1 : p ≤ 216) : Calls Tryz.prog 50 #[.agg (rsC p vL vF), .int .i64 z] w (TEnd (PZ p z) w) := by
 have hkid := fun (q : Nat) wx h => rkids_any p vL vF (q : Int) wx h h0 h1
 have hfound := fun q j hq hqt hj hz => PZ_found p q j z h0 h1 hq hqt hj hz
 have hnone := PZ_none p z h0 h1
 obtain ⟨aL, cL, rfl⟩ := hR.l.hd
 rw [zL_length] at *
 have hkn := fun q h => KZ_nat p q h
 have hbig := (itn_big p h0 h1).2
 have hA := at_new w (rsC p (.slice aL (itn p) cL) vF) 31
 have hb : Below w.heap.size w (w.alloc (.cells (rsC p (.slice aL (itn p) cL) vF) 31)) := (Below.refl _ _).alloc (Nat.le_refl _) _
 have c1 : (w.alloc (.cells (rsC p (.slice aL (itn p) cL) vF) 31)).cell? ⟨w.heap.size, 1, none⟩ = some (.slice aL (itn p) cL) := (hA.cell 1).trans rfl
 have hR1 := hR.below hb
 have ms : (rsC p (.slice aL (itn p) cL) vF).size = 3 := rfl
 obtain ⟨vA, hvA⟩ : ∃ v, v = Value.slice aL (itn p) cL := ⟨_, rfl⟩
 obtain ⟨M, hM⟩ : ∃ M, M = rsC p (.slice aL (itn p) cL) vF := ⟨_, rfl⟩
 obtain ⟨n, hn⟩ : ∃ n, n = itn p := ⟨_, rfl⟩
 rw [← hvA] at hR1
 rw [← hM] at hkid hA hb c1 ms ⊢
 rw [← hvA] at hkid
 obtain ⟨w1, hw1⟩ : ∃ w1, w1 = w.alloc (.cells M 31) := ⟨_, rfl⟩
 have hR1' : RS w1 p vA vF := by rw [hw1, hM, ← hvA]; exact hR1
 rw [← hw1] at hA c1 hb
 rw [← hn] at c1 hkn hbig hfound hnone
 obtain ⟨R, hRR⟩ : ∃ R, R = PZ p z := ⟨_, rfl⟩
 rw [← hRR] at hfound hnone ⊢
 have KID := zh hkid; have AX := zh hA; have HB := zh hb; have MS := zh ms; have C1 := zh c1; have R1 := zh hR1'; have FOUND := zh hfound; have NONE := zh hnone; have KN := zh hkn; have LT0 := zh hA.lt
 clear hkid hA hb ms c1 hR1 hR1' hfound hnone hkn hM hn hvA hRR hR h0 h1
 go_enter Tryz.func50, Tryz.ntmps50
 go_upto_region 1 with fail
 rw [← hw1]
 clear hw1
 go_wp2_with fail
 go_loopw [7] (fun v wr => ∃ q : Nat, q ≤ n ∧ v = .int .i64 q ∧ Below w1.heap.size w1 wr ∧ ∀ q', q' < q → p ≤ q' → ∀ j, j < many p q' → ((fst p q' + j : Nat) : Int) ≠ z) (fun v _ => n - (intOf v).toNat)
 case atStart => exact ⟨0, by omega, rfl, Below.refl _ _, fun q' hq' => by omega⟩
 case round =>
  obtain ⟨q, hq, rfl, hbw, hno⟩ := hrel
  have cw := (hbw.cell (p := ⟨w.heap.size, 1, none⟩) LT0.out).trans C1.out
  have NO := zh hno; have BW := zh hbw
  clear hno
  by_cases hlt : q < n
  ·have hlt' : (q : Int) < (n : Int) := by omega
   have AW := zh (AX.out.below hbw AX.out.lt); have RW := zh (R1.out.below hbw)
   have hk := KN.out q hlt
   clear hbw
   go_wp2_with (refine wpList_load_all zr 31 _ zr w.heap.size zr _ Tryz.underlying31 zr M _ AW.out (by rw [MS.out]; exact infoRS) ?_)
   refine (KID.out q wr RW.out).mono ?_
   rintro e w8 ⟨v8, rfl, hs8, hb8⟩
   have B8 : Hid (Below w1.heap.size w1 w8) := zh (BW.out.trans (hb8.mono BW.out.size))
   obtain ⟨K, hK⟩ : ∃ K, K = KZ p (q : Int) := ⟨_, rfl⟩
   rw [← hK] at hs8 hk
   obtain ⟨a8, c8, rfl⟩ := hs8.hd
   obtain ⟨m, hm⟩ : ∃ m, m = K.length := ⟨_, rfl⟩
   rw [← hm] at hs8 ⊢
   have hget : ∀ j, j < m → p ≤ q ∧ j < many p q ∧ K.getD j 0 = ((fst p q + j : Nat) : Int) := fun j hj => by
    by_cases hp : p ≤ q
    ·rw [if_pos hp] at hk
     have hl : m = many p q := by rw [hm, hk, kz_length]
     exact ⟨hp, by omega, by rw [hk]; exact kz_get p q _ j (by omega)⟩
    ·rw [if_neg hp] at hk
     rw [hk] at hm; simp at hm; omega
   have hall : p ≤ q → many p q = m := fun hp => by rw [if_pos hp] at hk; rw [hm, hk, kz_length]
   have hm6 : m ≤ 6 := by
    by_cases hp : p ≤ q
    ·rw [← hall hp]; exact many_le p q
    ·rw [if_neg hp] at hk; rw [hm, hk]; exact Nat.zero_le _
   have SK := zh hs8; have GET := zh hget; have HM := zh hm; have ALL := zh hall
   clear hs8 hb8 hk hK hm hget hall AW RW cw BW
   go_wp2_with fail
   go_loop [9] (fun i => ∃ j : Nat, j ≤ m ∧ i = .int .i64 j ∧ Hid (∀ t, t < j → K.getD t 0 ≠ z)) (fun i => m - (intOf i).toNat)
   case atStart => exact ⟨0, by omega, rfl, zh (fun t ht => by omega)⟩
   case round =>
    obtain ⟨j, hj, rfl, hI⟩ := hrel
    by_cases hlj : j < m
    ·have hlj' : (j : Int) < (m : Int) := by omega
     obtain ⟨b9, o9, e9, _, cx⟩ := sli_at (i := j) SK.out HM.out hlj
     subst e9
     have hg := GET.out j hlj
     obtain ⟨y, hy⟩ : ∃ y, y = K.getD j 0 := ⟨_, rfl⟩
     rw [← hy] at cx hg
     by_cases hyz : y = z
     ·have hf := FOUND.out q j hg.1 hlt hg.2.1 (by rw [← hg.2.2]; exact hyz)
      have HF := zh hf
      subst hyz
      clear hf hg hy hI
      go_wp2_with fail
      go_ret3
      exact ⟨by rw [HF.out]; rfl, HB.out.trans (B8.out.mono HB.out.size)⟩
     ·have hI2 : Hid (∀ t, t < j + 1 → K.getD t 0 ≠ z) := zh (fun t ht => by
       rcases Nat.lt_or_ge t j with h | h
       ·exact hI.out t h
       ·rw [show t = j by omega, ← hy]; exact hyz)
      clear hI hg hy
      go_wp2_with fail
      go_round
      case rel => exact ⟨j + 1, by omega, by go_num, hI2⟩
      case measure => simp [intOf]; omega
    ·have hjm : j = m := by omega
     have hge : ¬ (j : Int) < (m : Int) := by omega
     subst hjm
     have hno2 : Hid (∀ q', q' < q + 1 → p ≤ q' → ∀ t, t < many p q' → ((fst p q' + t : Nat) : Int) ≠ z) := zh (fun q' hq' hp t ht => by
      rcases Nat.lt_or_ge q' q with h | h
      ·exact NO.out q' h hp t ht
      ·have e : q' = q := by omega
       subst e
       have hm2 := ALL.out hp
       have hg := GET.out t (by omega)
       have hi := hI.out t (by omega)
       rw [hg.2.2] at hi
       exact hi)
     clear hI hlj hj
     go_wp2_with fail
     go_roundw
     case rel => exact ⟨q + 1, by omega, by go_num, B8.out, hno2.out⟩
     case measure => simp [intOf]; omega
  ·have hqn : q = n := by omega
   have hge : ¬ (q : Int) < (n : Int) := by omega
   subst hqn
   have hf := NONE.out NO.out
   have HF := zh hf
   clear hf hlt hq hbw
   go_wp2_with fail
   go_ret3
   exact ⟨by rw [HF.out]; rfl, HB.out.trans (BW.out.mono HB.out.size)⟩
def zP (p n : Nat) : List Int := (List.range n).map fun i => (lev p i : Int)
theorem zP_length (p n : Nat) : (zP p n).length = n := by simp [zP]
theorem zP_succ (p n : Nat) : zP p (n + 1) = zP p n ++ [(lev p n : Int)] := by simp [zP, List.range_succ]
theorem iz_zP (p n : Nat) (x : Int) (h : (lev p n : Int) = x) : iz (zP p (n + 1)) = iz (zP p n) ++ [.int .i64 x] := by rw [zP_succ, iz_snoc, h]
theorem iz_fstL (p n : Nat) (x : Int) (h : fstZ p n = x) : iz (fstL p (n + 1)) = iz (fstL p n) ++ [.int .i64 x] := by rw [fstL_succ, iz_snoc, h]
structure NS (u w : World) (g p : Nat) (vL vF : Value) (n m : Nat) : Prop where
 z : At w u.heap.size (rsC 0 (.slice none 0 0) (.slice none 0 0)) 31
 s : At w g (rsC p vL vF) 31
 l : OwnV w (g + 1) 3 vL (iz (zP p n))
 f : OwnV w (g + 1) 3 vF (iz (fstL p m))
 ne : ∀ b, vL.ownBlock = some b → vF.ownBlock ≠ some b
 b : Below u.heap.size u w
 h : g = u.heap.size + 1
theorem NS.gt {u w : World} {g p n m : Nat} {vL vF : Value} (h : NS u w g p vL vF n m) : g + 1 ≤ w.heap.size := h.s.lt
theorem NS.c1 {u w : World} {g p n m : Nat} {vL vF : Value} (h : NS u w g p vL vF n m) : w.cell? ⟨g, 1, none⟩ = some vL := (h.s.cell 1).trans rfl
theorem NS.c2 {u w : World} {g p n m : Nat} {vL vF : Value} (h : NS u w g p vL vF n m) : w.cell? ⟨g, 2, none⟩ = some vF := (h.s.cell 2).trans rfl
theorem NS.appL {u w w6 w7 : World} {g p n m : Nat} {vL vF v6 : Value} (h : NS u w g p vL vF n m)
 (ho : OwnV w6 (g + 1) 3 v6 (iz (zP p (n + 1)))) (hk : ∀ k, k < w.heap.size → vL.ownBlock ≠ some k → w6.heap[k]? = w.heap[k]?) (hb : Below (g + 1) w w6) (hf : v6.ownBlock = vL.ownBlock ∨ ∃ b, v6.ownBlock = some b ∧ w.heap.size ≤ b)
 (ha : At w7 g ((rsC p vL vF).setIfInBounds 1 v6) 31) (hq : ∀ k, k ≠ g → w7.heap[k]? = w6.heap[k]?) (hB : ∀ B a, Below B a w6 → B ≤ g → Below B a w7) : NS u w7 g p v6 vF (n + 1) m := by
 have hg := h.h
 refine ⟨?_, ha, ?_, ?_, ?_, hB _ _ (h.b.trans (hb.mono (by omega))) (by omega), hg⟩
 ·exact at_keep (h.z.below hb (by omega)) hq (by omega)
 ·exact OwnV.keep ho (fun b hb' => hq b (by have := (OwnV.lt ho b hb').1; omega))
 ·refine OwnV.keep h.f (fun b hb' => ?_)
  have hl := OwnV.lt h.f b hb'
  rw [hq b (by omega)]
  exact hk b hl.2 (fun e => h.ne b e hb')
 ·intro b h1 h2
  rcases hf with e | ⟨b', e, hge⟩
  ·rw [e] at h1; exact h.ne b h1 h2
  ·rw [e] at h1; injection h1 with h1; subst h1
   have := (OwnV.lt h.f _ h2).2
   omega
theorem NS.appF {u w w6 w7 : World} {g p n m : Nat} {vL vF v6 : Value} (h : NS u w g p vL vF n m)
 (ho : OwnV w6 (g + 1) 3 v6 (iz (fstL p (m + 1)))) (hk : ∀ k, k < w.heap.size → vF.ownBlock ≠ some k → w6.heap[k]? = w.heap[k]?) (hb : Below (g + 1) w w6) (hf : v6.ownBlock = vF.ownBlock ∨ ∃ b, v6.ownBlock = some b ∧ w.heap.size ≤ b)
 (ha : At w7 g ((rsC p vL vF).setIfInBounds 2 v6) 31) (hq : ∀ k, k ≠ g → w7.heap[k]? = w6.heap[k]?) (hB : ∀ B a, Below B a w6 → B ≤ g → Below B a w7) : NS u w7 g p vL v6 n (m + 1) := by
 have hg := h.h
 refine ⟨?_, ha, ?_, ?_, ?_, hB _ _ (h.b.trans (hb.mono (by omega))) (by omega), hg⟩
 ·exact at_keep (h.z.below hb (by omega)) hq (by omega)
 ·refine OwnV.keep h.l (fun b hb' => ?_)
  have hl := OwnV.lt h.l b hb'
  rw [hq b (by omega)]
  exact hk b hl.2 (fun e => h.ne b hb' e)
 ·exact OwnV.keep ho (fun b hb' => hq b (by have := (OwnV.lt ho b hb').1; omega))
 ·intro b h1 h2
  rcases hf with e | ⟨b', e, hge⟩
  ·rw [e] at h2; exact h.ne b h1 h2
  ·rw [e] at h2; injection h2 with h2; subst h2
   have := (OwnV.lt h.l _ h1).2
   omega
theorem NS.at6 {u w w6 : World} {g p n m : Nat} {vL vF v : Value} (h : NS u w g p vL vF n m) (hk : ∀ k, k < w.heap.size → v.ownBlock ≠ some k → w6.heap[k]? = w.heap[k]?) (hv : v = vL ∨ v = vF) : At w6 g (rsC p vL vF) 31 := by
 refine At.app h.s hk (fun e => ?_)
 rcases hv with rfl | rfl
 ·have := (OwnV.lt h.l _ e).1; omega
 ·have := (OwnV.lt h.f _ e).1; omega
theorem NS.out {u w : World} {g p n m : Nat} {vL vF : Value} (h : NS u w g p vL vF n m) (hn : n = itn p) (hm : m = itn p) {w' : World} (_hl : w'.heap.size = w.heap.size) (hk : ∀ k, k ≠ u.heap.size → w'.heap[k]? = w.heap[k]?) : RS w' p vL vF := by
 subst hn hm
 refine ⟨(ownV_sli (OwnV.keep h.l (fun b hb => hk b ?_))), (ownV_sli (OwnV.keep h.f (fun b hb => hk b ?_)))⟩
 ·have := (OwnV.lt h.l b hb).1; have := h.h; omega
 ·have := (OwnV.lt h.f b hb).1; have := h.h; omega
theorem stn_le (p k : Nat) (hk : k ≤ 3) (h1 : p ≤ 216) : stn p k ≤ 300 ∧ lvn p k ≤ 216 := by
 match k, hk with
 | 0, _ => simp [stn, lvn]; omega
 | 1, _ => simp [stn, lvn, cnt]; omega
 | 2, _ => simp [stn, lvn, cnt]; omega
 | 3, _ => simp [stn, lvn, cnt]; omega
theorem RS.one {w : World} {p : Nat} {vL vF : Value} (h : RS w p vL vF) : (rsC p vL vF).all (·.oneCell') = true := by
 obtain ⟨a, c, rfl⟩ := h.l.hd
 obtain ⟨b, d, rfl⟩ := h.f.hd
 exact rsC_one _ _ _ _ _ _ _
theorem lev_low (p i : Nat) (h : i < p) : lev p i = 0 := if_pos h
theorem fstZ_low (p i : Nat) (h : i < p) : fstZ p i = -1 := if_pos h
theorem zeroShR (w : World) : (zeroValue 31).run Tryz.prog w = .ok (.agg (rsC 0 (.slice none 0 0) (.slice none 0 0))) w := by kernel_rfl
theorem buildShR (p : Nat) (w : World) : (Instr.build 31 #[(0, .int .i64 (p : Int))]).run Tryz.prog w = .ok (.agg (rsC p (.slice none 0 0) (.slice none 0 0))) w := by kernel_rfl
theorem infoSlInt : (Tryz.prog.info? 29).map (·.size) = some 1 := by kernel_rfl
theorem oneV {w : World} {B : Nat} {e : TypeId} {v : Value} {xs : List Value} (h : OwnV w B e v xs) : v.oneCell' = true := by
 obtain ⟨a, c, rfl, _⟩ := OwnV.open h; rfl
set_option maxHeartbeats 4000000 in
theorem rnew_any (p : Nat) (w : World) (h0 : 1 ≤ p) (h1 : p ≤ 216) : Calls Tryz.prog 7 #[.int .i64 p] w fun e w' => ∃ vL vF, e = .returned (.tuple #[.agg (rsC p vL vF), .int .i64 0]) ∧ RS w' p vL vF ∧ Below w.heap.size w w' := by
 obtain ⟨Z, hZ⟩ : ∃ Z, Z = rsC 0 (.slice none 0 0) (.slice none 0 0) := ⟨_, rfl⟩
 obtain ⟨D, hD⟩ : ∃ D, D = rsC p (.slice none 0 0) (.slice none 0 0) := ⟨_, rfl⟩
 have hx : ∀ w, (zeroValue 31).run Tryz.prog w = .ok (.agg Z) w := by rw [hZ]; exact zeroShR
 have bn : ∀ w, (Instr.build 31 #[(0, .int .i64 (p : Int))]).run Tryz.prog w = .ok (.agg D) w := by rw [hD]; exact buildShR p
 have zs : Z.size = 3 := by rw [hZ]; rfl
 have ds : D.size = 3 := by rw [hD]; rfl
 have hd1 : D.all (·.oneCell') = true := by rw [hD]; exact rsC_one _ _ _ _ _ _ _
 have hns : ∀ w1 w2, w1 = w.alloc (.cells Z 31) → w2 = w1.alloc (.cells D 31) → NS w w2 w1.heap.size p (.slice none 0 0) (.slice none 0 0) 0 0 := by
  intro w1 w2 e1 e2
  have hs : w1.heap.size = w.heap.size + 1 := by rw [e1]; simp
  have hA1 : At w1 w.heap.size Z 31 := by rw [e1]; exact at_new w Z _
  refine ⟨?_, ?_, OwnV.nil _ _ _, OwnV.nil _ _ _, fun b e => by simp [Value.ownBlock] at e, ?_, hs⟩
  ·rw [← hZ, e2]; exact hA1.alloc _
  ·rw [← hD, e2]; exact at_new w1 D _
  ·rw [e2, e1]; exact ((Below.refl _ _).alloc (Nat.le_refl _) _).alloc (by simp) _
 have hsz : ∀ w1, w1 = w.alloc (.cells Z 31) → w1.heap.size = w.heap.size + 1 := fun w1 e1 => by rw [e1]; simp
 have NW := zh hns; have BN := zh bn; have DS := zh ds; have ZS := zh zs; have DO := zh hd1; have SZ := zh hsz
 have g0 : ¬ (p : Int) < 1 := by omega
 have g1 : ¬ (216 : Int) < (p : Int) := by omega
 clear hns bn ds zs hd1 hZ hD hsz
 go_enter Tryz.func7, Tryz.ntmps7
 go_upto_region 1 with fail
 obtain ⟨w1, hw1⟩ : ∃ w1, w1 = w.alloc (.cells Z 31) := ⟨_, rfl⟩
 have S1 := zh (SZ.out w1 hw1)
 have NV := zh (fun w2 h => NW.out w1 w2 hw1 h)
 rw [← hw1]
 clear hw1 SZ NW
 go_wp2_with (first
  | (refine Mem.wpList_build zr 31 _ #[(0, .int .i64 (p : Int))] (.agg D) zr (by first | rfl | (simp [Act.eval]; rfl) | simp [Act.eval]) BN.out ?_)
  | (refine wpList_store_new zr 31 _ _ zr zr D _ _ zr zr (by rw [DS.out]; exact infoRS) (by rw [DS.out, ZS.out]) DO.out ?_; clear hx; have N0 := zh (NV.out _ rfl); clear NV; generalize w1.alloc (.cells D 31) = w2 at *))
 go_loopw [5] (fun v wr => ∃ i : Nat, i ≤ p ∧ v = .int .i64 i ∧ ∃ vL vF, NS w wr w1.heap.size p vL vF i i) (fun v _ => p - (intOf v).toNat)
 case atStart => exact ⟨0, by omega, rfl, _, _, N0.out⟩
 case round =>
  clear N0
  obtain ⟨i, hi, rfl, vL, vF, hn⟩ := hrel
  by_cases hlt : i < p
  ·have hlt' : (i : Int) < (p : Int) := by omega
   have c1 := hn.c1
   have N0 := zh hn
   have LL : Hid ((iz (zP p i)).length = i) := zh (by rw [iz_length, zP_length])
   have LF : Hid ((iz (fstL p i)).length = i) := zh (by rw [iz_length, fstL_length])
   have EL := zh (iz_zP p i 0 (by rw [lev_low p i hlt]; rfl))
   have EF := zh (iz_fstL p i (-1) (fstZ_low p i hlt))
   clear hn
   go_wp2_with (first
    | (at_builtin; refine wpList_append_lit zr _ _ 29 zr (.int .i64 (0)) (.int .i64 0) 8 elemInt zr zr N0.out.l zr zr (by rw [LL.out]; omega) (by rw [LL.out]; omega) (N0.out.gt) ?_; intro v6L w6L ho6 hk6 hb6 hf6; have O6 := zh ho6; have K6 := zh hk6; have B6 := zh hb6; have F6 := zh hf6; clear ho6 hk6 hb6 hf6)
    | (refine Mem.wpList_store_one zr 29 _ _ zr zr w1.heap.size 1 v6L zr zr (oneV O6.out) infoSlInt (rsC p vL vF) 31 (N0.out.at6 K6.out (Or.inl rfl)) (by exact (by decide : 1 < 3)) ?_; intro w7 ha7 hq7 hB7; have N1 := zh (N0.out.appL (by rw [EL.out]; exact O6.out) K6.out B6.out F6.out ha7 hq7 hB7); have c2 := N1.out.c2; clear ha7 hq7 hB7 O6 K6 B6 F6 N0)
    | (at_builtin; refine wpList_append_lit zr _ _ 29 zr (.int .i64 (-1)) (.int .i64 0) 8 elemInt zr zr N1.out.f zr zr (by rw [LF.out]; omega) (by rw [LF.out]; omega) (N1.out.gt) ?_; intro v6 w6 ho6 hk6 hb6 hf6; have P6 := zh ho6; have K6 := zh hk6; have B6 := zh hb6; have F6 := zh hf6; clear ho6 hk6 hb6 hf6)
    | (refine Mem.wpList_store_one zr 29 _ _ zr zr w1.heap.size 2 v6 zr zr (oneV P6.out) infoSlInt (rsC p v6L vF) 31 (N1.out.at6 K6.out (Or.inr rfl)) (by exact (by decide : 2 < 3)) ?_; intro w9 ha7 hq7 hB7; have N2 := zh (N1.out.appF (by rw [EF.out]; exact P6.out) K6.out B6.out F6.out ha7 hq7 hB7); clear ha7 hq7 hB7 P6 K6 B6 F6 N1))
   go_roundw
   case rel => exact ⟨i + 1, by omega, by go_num, _, _, N2.out⟩
   case measure => simp [intOf]; omega
  ·have hip : i = p := by omega
   have hge : ¬ (i : Int) < (p : Int) := by omega
   subst hip
   have N0 := zh hn
   clear hn hlt hi hge
   have N9 : Hid (∃ vL vF, NS w wr w1.heap.size i vL vF (stn i 1) (stn i 1)) := zh ⟨vL, vF, N0.out⟩
   clear N0
   go_wp2_with fail
   go_loopw [6, 7, 8] (fun vf vm v wx => ∃ k : Nat, ∃ lz : Int, k ≤ topn i ∧ lz = (k : Int) + 1 ∧ vf = .int .i64 (stn i k : Nat) ∧ vm = .int .i64 (lvn i k : Nat) ∧ v = .int .i64 lz ∧ ∃ vL vF, NS w wx w1.heap.size i vL vF (stn i (k + 1)) (stn i (k + 1))) (fun _ _ v _ => 5 - (intOf v).toNat)
   case atStart => exact ⟨0, 1, by omega, rfl, rfl, rfl, rfl, N9.out⟩
   case round =>
    clear N9
    obtain ⟨k, lz, hk, hlz, rfl, rfl, rfl, vL, vF, hn⟩ := hrel
    have N0 := zh hn
    clear hn
    have ht := top_le i
    have hti := top_iff i k h0 h1 (by omega)
    have S2 := zh (stn_lvn i k (by omega))
    obtain ⟨c, hc⟩ : ∃ c, c = lvn i k := ⟨_, rfl⟩
    rw [← hc] at hti S2 ⊢
    by_cases hgo : k + 1 ≤ topn i
    ·have hk2 : k ≤ 2 := by omega
     have hor := hti.mpr hgo
     have S3 := zh (stn_lvn i (k + 1) (by omega))
     have hcn := lvn_cnt i k hk2
     have LA := zh (fun j hj => lev_at i (k + 1) j (by omega) hj)
     have FA := zh (fun j hj => fstZ_at i k j hk2 hj)
     rw [← hc] at hcn
     have hcd : ∀ j : Nat, (6 * (j : Int) < (c : Int)) ↔ j < lvn i (k + 1) := fun j => by rw [hcn]; unfold cnt; omega
     obtain ⟨d, hd⟩ : ∃ d, d = lvn i (k + 1) := ⟨_, rfl⟩
     obtain ⟨sk, hsk⟩ : ∃ sk, sk = stn i k := ⟨_, rfl⟩
     obtain ⟨sm, hsm⟩ : ∃ sm, sm = stn i (k + 1) := ⟨_, rfl⟩
     rw [← hd] at hcd S3 LA FA
     rw [← hsk] at FA S2 ⊢
     rw [← hsm] at S2 LA FA S3 N0
     have bs := stn_le i k (by omega) h1
     have bm := stn_le i (k + 1) (by omega) h1
     rw [← hsk, ← hc] at bs
     rw [← hsm, ← hd] at bm
     have HT := zh hgo; have HC := zh hcd; have HS := zh hsm; have HD := zh hd; have H0 := zh h0; have HL := zh hlz; have z0 : 0 ≤ lz := by omega
     have z9 : lz ≤ 4 := by omega
     have hcase : k = 0 ∨ (¬ k = 0 ∧ 1 < c) := by omega
     clear hti hor hcn hcd hc hd hsk hsm hk ht hgo h0
     go_upto_region 11 with fail
     go_cut [41] (fun x wx => x = .bool true ∧ wx = wr)
     case first =>
      rcases hcase with hk0 | ⟨hk0, hc1⟩
      ·have e1 : lz = 1 := by omega
       go_wp2_with fail
       go_meet
       exact ⟨rfl, rfl⟩
      ·have e1 : ¬ lz = 1 := by omega
       have e2 : (1 : Int) < (c : Int) := by omega
       clear hlz
       go_wp2_with fail
       go_meet
       exact ⟨rfl, rfl⟩
     obtain ⟨rfl, rfl⟩ := hcut
     clear hcase hlz
     go_wp2_with fail
     go_loopw [9, 10] (fun vn vq wx => ∃ j : Nat, ∃ q : Int, j ≤ d ∧ q = 6 * (j : Int) ∧ vn = .int .i64 j ∧ vq = .int .i64 q ∧ ∃ vL vF, NS w wx w1.heap.size i vL vF (sm + j) (sm + j)) (fun vn _ _ => d - (intOf vn).toNat)
     case atStart => exact ⟨0, 0, by omega, by omega, rfl, rfl, _, _, N0.out⟩
     case round =>
      clear N0 vL vF
      obtain ⟨j, q, hj, hq, rfl, rfl, vL, vF, hn⟩ := hrel
      by_cases hjd : j < d
      ·have hlt : q < (c : Int) := by rw [hq]; exact (HC.out j).mpr hjd
       have c1 := hn.c1
       have N0 := zh hn
       have LL : Hid ((iz (zP i (sm + j))).length = sm + j) := zh (by rw [iz_length, zP_length])
       have LF : Hid ((iz (fstL i (sm + j))).length = sm + j) := zh (by rw [iz_length, fstL_length])
       have EL := zh (iz_zP i (sm + j) lz (by rw [LA.out j hjd, HL.out]; omega))
       have EF := zh (iz_fstL i (sm + j) ((sk : Int) + q) (by rw [FA.out j hjd, hq]; omega))
       have q0 : 0 ≤ q := by omega
       have q1 : q ≤ 216 := by omega
       have HQ := zh hq
       clear hn hq
       go_wp2_with (first
        | (at_builtin; refine wpList_append_lit zr _ _ 29 zr (.int .i64 lz) (.int .i64 0) 8 elemInt zr zr N0.out.l zr zr (by rw [LL.out]; omega) (by rw [LL.out]; omega) (N0.out.gt) ?_; intro v6L w6L ho6 hk6 hb6 hf6; have O6 := zh ho6; have K6 := zh hk6; have B6 := zh hb6; have F6 := zh hf6; clear ho6 hk6 hb6 hf6)
        | (refine Mem.wpList_store_one zr 29 _ _ zr zr w1.heap.size 1 v6L zr zr (oneV O6.out) infoSlInt (rsC i vL vF) 31 (N0.out.at6 K6.out (Or.inl rfl)) (by exact (by decide : 1 < 3)) ?_; intro w7 ha7 hq7 hB7; have N1 := zh (N0.out.appL (by rw [EL.out]; exact O6.out) K6.out B6.out F6.out ha7 hq7 hB7); have c2 := N1.out.c2; clear ha7 hq7 hB7 O6 K6 B6 F6 N0)
        | (at_builtin; refine wpList_append_lit zr _ _ 29 zr (.int .i64 ((sk : Int) + q)) (.int .i64 0) 8 elemInt zr zr N1.out.f zr zr (by rw [LF.out]; omega) (by rw [LF.out]; omega) (N1.out.gt) ?_; intro v6 w6 ho6 hk6 hb6 hf6; have P6 := zh ho6; have K6 := zh hk6; have B6 := zh hb6; have F6 := zh hf6; clear ho6 hk6 hb6 hf6)
        | (refine Mem.wpList_store_one zr 29 _ _ zr zr w1.heap.size 2 v6 zr zr (oneV P6.out) infoSlInt (rsC i v6L vF) 31 (N1.out.at6 K6.out (Or.inr rfl)) (by exact (by decide : 2 < 3)) ?_; intro w9 ha7 hq7 hB7; have N2 := zh (N1.out.appF (by rw [EF.out]; exact P6.out) K6.out B6.out F6.out ha7 hq7 hB7); clear ha7 hq7 hB7 P6 K6 B6 F6 N1))
       go_roundw
       case rel => exact ⟨j + 1, q + 6, by omega, by rw [HQ.out]; omega, by go_num, by go_num, _, _, N2.out⟩
       case measure => simp [intOf]; omega
      ·have hje : j = d := by omega
       have hge : ¬ q < (c : Int) := by rw [hq]; exact fun h => hjd ((HC.out j).mp h)
       subst hje
       have N0 := zh hn
       clear hn hq hj hjd
       go_wp2_with fail
       go_roundw
       case rel => exact ⟨k + 1, lz + 1, HT.out, by rw [HL.out]; omega, by rw [← HS.out, S2.out]; go_num, by rw [← HD.out], by go_num, _, _, by rw [S3.out]; exact N0.out⟩
       case measure => simp [intOf]; omega
    ·have hkt : k = topn i := by omega
     have hk1 : ¬ lz = 1 := by omega
     have hc1 : ¬ (1 : Int) < (c : Int) := by omega
     have hit : stn i (k + 1) = itn i := by rw [hkt]; rfl
     obtain ⟨M, hM⟩ : ∃ M, M = rsC i vL vF := ⟨_, rfl⟩
     have ms : M.size = 3 := by rw [hM]; rfl
     have mo : M.all (·.oneCell') = true := by
      obtain ⟨a1, c1, e1, _⟩ := OwnV.open N0.out.l
      obtain ⟨a2, c2, e2, _⟩ := OwnV.open N0.out.f
      rw [hM, e1, e2]; exact rsC_one _ _ _ _ _ _ _
     have az := N0.out.z
     have hs9 := N0.out.s
     have hz : ∀ w', w' = wr.setRow w.heap.size M → RS w' i vL vF ∧ Below w.heap.size w w' := by
      rintro w' rfl
      exact ⟨N0.out.out hit hit (by simp) (fun k hk => setRow_other wr w.heap.size k M hk), below_row N0.out.b (Nat.le_refl _) M⟩
     rw [← hM] at hs9
     have MS := zh ms; have MO := zh mo; have AZ := zh az; have AS := zh hs9; have ZZ := zh hz; have HM := zh hM
     clear ms mo az hs9 hz hM hti hit hkt hgo hk ht hlz hc S2 h0 N0
     go_wp2_with (first
      | (refine wpList_load_all zr 31 _ zr w1.heap.size zr _ Tryz.underlying31 zr M _ AS.out (by rw [MS.out]; exact infoRS) ?_)
      | (refine wpList_store_all zr 31 _ _ zr zr w.heap.size M zr zr (by rw [MS.out]; exact infoRS) _ 31 AZ.out (by rw [MS.out]; rfl) MO.out ?_))
     try simp only [Exit.inBlock, Exit.then]
     refine ret_row_tmp zr w.heap.size 31 M _ _ zr zr (AZ.out.row M) Tryz.underlying31 zr (by rw [MS.out]; exact infoRS) ?_
     exact ⟨vL, vF, by rw [← HM.out]; rfl, ZZ.out _ rfl⟩
end Sha
end Go.Proofs.YtahcjnganedbiaaGreatDoor
namespace Go.Proofs.YtahcjnganedbiaaGreatDoor
namespace Sha
open Go.RowKit
def atB (i j : Nat) : Nat := i * 6 ^ j
def enN (p a i j : Nat) : Nat := min ((i + 1) * 6 ^ j) (lvn p (a - j))
theorem atB_succ (i j : Nat) : atB i (j + 1) = atB i j * 6 := by unfold atB; rw [Nat.pow_succ, Nat.mul_assoc]
theorem enN_succ (p a i j : Nat) (ha : a ≤ 3) (hj : j + 1 ≤ a) : enN p a i (j + 1) = min (enN p a i j * 6) (lvn p (a - (j + 1))) := by
 have c := lvn_cnt p (a - (j + 1)) (by omega)
 rw [show a - (j + 1) + 1 = a - j by omega] at c
 have l := cnt_le (lvn p (a - (j + 1)))
 have e : (i + 1) * 6 ^ (j + 1) = (i + 1) * 6 ^ j * 6 := by rw [Nat.pow_succ, Nat.mul_assoc]
 unfold enN
 rw [e, c]
 omega
theorem en_le (p a i j : Nat) (ha : a ≤ 3) (h1 : p ≤ 216) : enN p a i j ≤ 216 := by
 have := (stn_le p (a - j) (by omega) h1).2
 unfold enN
 omega
theorem at_lt (p a i : Nat) (ha : a ≤ 3) (hi : i < lvn p a) : ∀ j, j ≤ a → atB i j < enN p a i j := by
 intro j
 induction j with
 | zero => intro _; unfold atB enN; rw [Nat.pow_zero, Nat.mul_one, Nat.mul_one, Nat.sub_zero]; omega
 | succ j ih =>
  intro hj
  have h := ih (by omega)
  have c := lvn_cnt p (a - (j + 1)) (by omega)
  rw [show a - (j + 1) + 1 = a - j by omega] at c
  have l := cnt_le (lvn p (a - (j + 1)))
  have h2 : enN p a i j ≤ lvn p (a - j) := Nat.min_le_right _ _
  rw [atB_succ, enN_succ p a i j ha hj]
  omega
def bel (s m : Nat) (n : Nat) : List Int := (List.range n).map fun x => ((s + (m + x) : Nat) : Int)
theorem bel_length (s m n : Nat) : (bel s m n).length = n := by simp [bel]
theorem bel_succ (s m n : Nat) : bel s m (n + 1) = bel s m n ++ [((s + (m + n) : Nat) : Int)] := by simp [bel, List.range_succ]
def belL (p a i b : Nat) : List Int := bel (stn p b) (atB i (a - b)) (enN p a i (a - b) - atB i (a - b))
theorem bel_kids (p q a : Nat) (_h0 : 1 ≤ p) (_h1 : p ≤ 216) (hp : p ≤ q) (hq : q < itn p) (ha : lev p q = a + 1) : belL p (a + 1) (q - stn p (a + 1)) a = KZ p (q : Int) := by
 rw [KZ_nat p q hq, if_pos hp]
 have h4 := itn_le p
 have hlo := lev_lo p q
 have hhi := lev_hi p q (by omega)
 have hl3 := lev_le p q
 rw [ha] at hlo hhi hl3
 have s1 := stn_lvn p a (by omega)
 have e1 : fst p q = stn p a + 6 * (q - stn p (a + 1)) := by unfold fst; rw [ha, Nat.add_sub_cancel]
 have e2 : many p q = min 6 (stn p (a + 1) - fst p q) := by unfold many; rw [ha]
 have hn : enN p (a + 1) (q - stn p (a + 1)) (a + 1 - a) - atB (q - stn p (a + 1)) (a + 1 - a) = many p q := by
  rw [show a + 1 - a = 1 by omega]
  unfold enN atB
  rw [Nat.pow_one, show a + 1 - 1 = a by omega, e2, e1]
  omega
 unfold belL
 rw [hn]
 unfold bel kz
 refine List.map_congr_left (fun x _ => ?_)
 rw [show a + 1 - a = 1 by omega, e1]
 unfold atB
 rw [Nat.pow_one]
 omega
theorem lev_node' (p q : Nat) (h : p ≤ q) : 1 ≤ lev p q := by
 unfold lev
 rw [if_neg (by omega)]
 split
 ·omega
 ·split <;> omega
end Sha
end Go.Proofs.YtahcjnganedbiaaGreatDoor
namespace Go.Proofs.YtahcjnganedbiaaGreatDoor
namespace Sha
open Go.RowKit Mem
set_option maxRecDepth 100000
def OIEnd (w : World) (L : List Int) (e : Ending) (w' : World) : Prop := ∃ v, e = .returned v ∧ OwnV w' w.heap.size 3 v (iz L) ∧ Below w.heap.size w w'
theorem own_liti {w : World} {B : Nat} (u : Int) (hB : B ≤ w.heap.size) : OwnV (w.alloc (.cells #[.int .i64 u] 3)) B 3 (.slice (some ⟨w.heap.size, 0, none⟩) 1 1) (iz [u]) :=
 ⟨by simp [iz], .inr ⟨w.heap.size, 1, #[.int .i64 u], rfl, hB, at_new w _ _, by simp [iz], by simp [maxLen], by simp, by simp [iz]⟩⟩
theorem ownV_low {w : World} {B B' : Nat} {e : TypeId} {v : Value} {l : List Value} (h : OwnV w B' e v l) (hB : B ≤ B') : OwnV w B e v l := ownsRow_base h hB
set_option maxHeartbeats 2000000 in
theorem rpath_none (p : Nat) (vL vF : Value) (z : Int) (w : World) (h : ¬ (0 ≤ z ∧ z < (p : Int))) : Calls Tryz.prog 35 #[.agg (rsC p vL vF), .int .i64 z] w (OIEnd w []) := by
 have hA := at_new w (rsC p vL vF) 31
 have hb : Below w.heap.size w (w.alloc (.cells (rsC p vL vF) 31)) := (Below.refl _ _).alloc (Nat.le_refl _) _
 have c0 : (w.alloc (.cells (rsC p vL vF) 31)).cell? ⟨w.heap.size, 0, none⟩ = some (.int .i64 (p : Int)) := (hA.cell 0).trans rfl
 obtain ⟨M, hM⟩ : ∃ M, M = rsC p vL vF := ⟨_, rfl⟩
 rw [← hM] at hA hb c0 ⊢
 obtain ⟨w1, hw1⟩ : ∃ w1, w1 = w.alloc (.cells M 31) := ⟨_, rfl⟩
 rw [← hw1] at hb c0
 have HB := zh hb
 clear hA hb hM
 by_cases h0 : 0 ≤ z
 ·have g : ¬ z < (p : Int) := fun h1 => h ⟨h0, h1⟩
  clear h
  go_enter Tryz.func35, Tryz.ntmps35
  go_upto_region 1 with fail
  rw [← hw1]
  clear hw1
  go_wp2_with fail
  go_ret
  exact ⟨_, rfl, OwnV.nil _ _ _, HB.out⟩
 ·clear h
  go_enter Tryz.func35, Tryz.ntmps35
  go_upto_region 1 with fail
  rw [← hw1]
  clear hw1
  go_wp2_with fail
  go_ret
  exact ⟨_, rfl, OwnV.nil _ _ _, HB.out⟩
set_option maxHeartbeats 4000000 in
theorem rpath_some (p : Nat) (vL vF : Value) (x : Nat) (w : World) (hR : RS w p vL vF) (h0 : 1 ≤ p) (h1 : p ≤ 216) (hx : x < p) : Calls Tryz.prog 35 #[.agg (rsC p vL vF), .int .i64 (x : Int)] w (OIEnd w (pathZ p x (topn p + 1))) := by
 have hpar := fun (z : Int) wx h => rparent_any p vL vF z wx h h0 h1
 have hmore := fun k hk => itp_par p x k h0 h1 hx hk
 have hend := itp_end p x h0 h1 hx
 have htop := top_le p
 have hA := at_new w (rsC p vL vF) 31
 have hb : Below w.heap.size w (w.alloc (.cells (rsC p vL vF) 31)) := (Below.refl _ _).alloc (Nat.le_refl _) _
 have c0 : (w.alloc (.cells (rsC p vL vF) 31)).cell? ⟨w.heap.size, 0, none⟩ = some (.int .i64 (p : Int)) := (hA.cell 0).trans rfl
 have hR1 := hR.below hb
 have ms : (rsC p vL vF).size = 3 := rfl
 obtain ⟨M, hM⟩ : ∃ M, M = rsC p vL vF := ⟨_, rfl⟩
 rw [← hM] at hpar hA hb c0 hR1 ms ⊢
 obtain ⟨w1, hw1⟩ : ∃ w1, w1 = w.alloc (.cells M 31) := ⟨_, rfl⟩
 rw [← hw1] at hA hb c0 hR1
 have hp0 : pathZ p x 1 = [(x : Int)] := rfl
 have hps := fun n => pathZ_succ p x n
 have hpl := fun n => pathZ_length p x n
 have hpg := fun n => pathZ_get p x (n + 1) n (Nat.lt_succ_self n)
 obtain ⟨PP, hPP⟩ : ∃ P, P = pathZ p x := ⟨_, rfl⟩
 rw [← hPP] at hp0 hps hpl hpg ⊢
 obtain ⟨m, hm⟩ : ∃ m, m = topn p := ⟨_, rfl⟩
 rw [← hm] at hmore hend htop ⊢
 have hx0 : ¬ (x : Int) < 0 := by omega
 have hxp : (x : Int) < (p : Int) := by omega
 have o1 := own_liti (w := w1) (B := w1.heap.size) (x : Int) (Nat.le_refl _)
 have b1 : Below w1.heap.size w1 (w1.alloc (.cells #[.int .i64 (x : Int)] 3)) := (Below.refl _ _).alloc (Nat.le_refl _) _
 have PARZ := zh hpar; have AX := zh hA; have HB := zh hb; have MS := zh ms; have R1 := zh hR1; have MORE := zh hmore; have END := zh hend; have P0 := zh hp0; have PS := zh hps; have PL := zh hpl; have PG := zh hpg; have LT0 := zh hA.lt; have O1 := zh o1; have B1 := zh b1
 clear hpar hA hb ms hR1 hmore hend hp0 hps hpl hpg hPP hm hM hR h0 h1 hx o1 b1
 go_enter Tryz.func35, Tryz.ntmps35
 go_upto_region 1 with fail
 rw [← hw1]
 clear hw1
 go_wp2_with fail
 generalize w1.alloc (.cells #[.int .i64 (x : Int)] 3) = w2 at *
 obtain ⟨v0, hv0⟩ : ∃ v, v = Value.slice (some ⟨w1.heap.size, 0, none⟩) 1 1 := ⟨_, rfl⟩
 rw [← hv0] at O1 ⊢
 clear hv0
 go_loopw [5, 6] (fun vo v wr => ∃ k : Nat, k ≤ m ∧ v = .int .i64 k ∧ OwnV wr w1.heap.size 3 vo (iz (PP (k + 1))) ∧ Below w1.heap.size w1 wr) (fun _ v _ => m + 1 - (intOf v).toNat)
 case atStart => exact ⟨0, by omega, rfl, by rw [P0.out]; exact O1.out, B1.out⟩
 case round =>
  obtain ⟨k, hk, rfl, ho, hbw⟩ := hrel
  obtain ⟨a5, c5, e5, _, hr5⟩ := OwnV.open ho
  obtain ⟨g5, e6, _, hlt5, hc5⟩ := hr5 (by intro e; have h := PL.out (k + 1); rw [show PP (k + 1) = [] by simpa [iz] using e] at h; simp at h)
  rw [iz_length, PL.out] at e5
  subst e6 e5
  have cy := hc5 k _ (iz_get (PP (k + 1)) k (by rw [PL.out]; omega))
  rw [PG.out] at cy
  have hk10 : (k : Int) < 10 := by omega
  have AW := zh (AX.out.below hbw AX.out.lt); have RW := zh (R1.out.below hbw)
  have SUB := zh (fun (t t2 : TypeId) (a b : Operand) (wx : World) => o_isub (P := Tryz.prog) t t2 a b ((k + 1 : Nat) : Int) 1 (k : Int) (by omega) (by omega) (by omega) wx)
  have D0 : Hid (Below wr.heap.size wr wr.drew) := zh (Below.refl _ _).drew
  have OO := zh ho; have BW := zh hbw; have LG := zh hlt5
  by_cases hlt : k < m
  ·have hpz := MORE.out k hlt
   have hsn := PS.out (k + 1)
   obtain ⟨y, hy⟩ : ∃ y : Int, y = (itp p x k : Int) := ⟨_, rfl⟩
   obtain ⟨y2, hy2⟩ : ∃ y : Int, y = (itp p x (k + 1) : Int) := ⟨_, rfl⟩
   obtain ⟨y3, hy3⟩ : ∃ y : Int, y = ((parN p (itp p x k)).2 : Int) := ⟨_, rfl⟩
   rw [← hy, ← hy2, ← hy3] at hpz
   rw [← hy] at cy
   rw [← hy2] at hsn
   have par : ∀ wx, RS wx p vL vF → Calls Tryz.prog 50 #[.agg M, .int .i64 y] wx fun e w' => e = .returned (.tuple #[.int .i64 y2, .int .i64 y3, .bool true]) ∧ Below wx.heap.size wx w' := fun wx h => by
    have hh := PARZ.out y wx h
    rw [hpz] at hh
    exact hh
   have PAR := zh par; have CY := zh cy; have SN := zh hsn
   clear hpz hy hy2 hy3 par cy hsn ho hbw hlt5 hr5 hc5
   go_wp2_with fail
   refine wp_region_plan_in (fun x' => Below wr.heap.size wr x') (.take 0 (.take 1 (.take 2 (.take 3 (.take 4 (.take 5 (.take 6 (.sole 7 (.take 8 (.take 9 (.take 10 (.take 11 (.take 12 (.take 13 (.take 14 .done))))))))))))))) (by kernel_rfl) (by kernel_rfl) (by kernel_rfl) D0.out ?_
   refine plan_row 31 _ w.heap.size _ M 31 zr zr zr Mem.ev_a (fun w' hw' => AW.out.below hw' AW.out.lt) Tryz.underlying31 zr (by rw [MS.out]; exact infoRS) ?_
   (simp only [Act.put, Mem.pa, Mem.pb, Mem.pc])
   (first | refine Mem.pm1 ?_ | refine Mem.pm2 ?_ | refine Mem.pt ?_ | refine Mem.pf ?_)
   (simp only [Act.put, Mem.pa, Mem.pb, Mem.pc])
   (first | refine Mem.pm1 ?_ | refine Mem.pm2 ?_ | refine Mem.pt ?_ | refine Mem.pf ?_)
   (simp only [Act.put, Mem.pa, Mem.pb, Mem.pc])
   refine plan_len _ _ _ (some ⟨g5, 0, none⟩) (k + 1) c5 zr zr zr zr Mem.ev_a (fun w' => by first | rfl | go_simp) ?_
   (simp only [Act.put, Mem.pa, Mem.pb, Mem.pc])
   refine plan_bin _ _ _ _ _ _ _ (.int .i64 (k : Int)) zr zr zr Mem.ev_a zr (fun wx => SUB.out _ _ _ _ wx) ?_
   (simp only [Act.put, Mem.pa, Mem.pb, Mem.pc])
   refine plan_index 29 3 _ _ g5 0 (k + 1) c5 k zr zr zr Mem.ev_a Mem.ev_a (by omega) Tryz.underlying29 (by kernel_rfl) ?_
   rw [Nat.zero_add]
   (simp only [Act.put, Mem.pa, Mem.pb, Mem.pc])
   refine plan_cell 3 _ ⟨g5, k, none⟩ (.int .i64 y) _ zr zr zr Mem.ev_a (fun w' hw' => (Below.cell hw' (p := ⟨g5, k, none⟩) LG.out).trans CY.out) Tryz.underlying3 zr ?_
   (simp only [Act.put, Mem.pa, Mem.pb, Mem.pc])
   refine plan_call 50 _ _ _ (by kernel_rfl) zr zr zr (by first | exact Mem.ev_none _ | (simp only [List.map_toArray, List.map_cons, List.map_nil, Mem.ev_tmp, List.getD_cons_succ, List.getD_cons_zero] <;> rfl)) ?_
   refine (PAR.out _ (RW.out.below D0.out)).mono ?_
   rintro e z7 ⟨rfl, hb7⟩
   have E7 : Hid (Below wr.heap.size wr z7) := zh (D0.out.trans (hb7.mono D0.out.size))
   clear hb7
   refine ⟨_, rfl, E7.out, ?_⟩
   (simp only [Act.put, Mem.pa, Mem.pb, Mem.pc])
   (first | refine Mem.pm1 ?_ | refine Mem.pm2 ?_ | refine Mem.pt ?_ | refine Mem.pf ?_)
   (simp only [Act.put, Mem.pa, Mem.pb, Mem.pc])
   refine plan_extract _ _ #[(.int .i64 y2), (.int .i64 y3), (.bool true)] (.int .i64 y2) zr zr zr Mem.ev_a zr ?_
   (simp only [Act.put, Mem.pa, Mem.pb, Mem.pc])
   refine plan_extract _ _ #[(.int .i64 y2), (.int .i64 y3), (.bool true)] (.int .i64 y3) zr zr zr Mem.ev_a zr ?_
   (simp only [Act.put, Mem.pa, Mem.pb, Mem.pc])
   refine plan_extract _ _ #[(.int .i64 y2), (.int .i64 y3), (.bool true)] (.bool true) zr zr zr Mem.ev_a zr ?_
   (simp only [Act.put, Mem.pa, Mem.pb, Mem.pc])
   (first | refine Mem.pm1 ?_ | refine Mem.pm2 ?_ | refine Mem.pt ?_ | refine Mem.pf ?_)
   (simp only [Act.put, Mem.pa, Mem.pb, Mem.pc])
   (first | refine Mem.pm1 ?_ | refine Mem.pm2 ?_ | refine Mem.pt ?_ | refine Mem.pf ?_)
   (simp only [Act.put, Mem.pa, Mem.pb, Mem.pc])
   (first | refine Mem.pm1 ?_ | refine Mem.pm2 ?_ | refine Mem.pt ?_ | refine Mem.pf ?_)
   (simp only [Act.put, Mem.pa, Mem.pb, Mem.pc])
   refine plan_nil ?_
   have OW := zh (OwnV.below OO.out E7.out); have BD : Hid (Below w1.heap.size w1 z7) := zh (BW.out.trans (E7.out.mono BW.out.size))
   have HLN : Hid ((iz (PP (k + 1))).length = k + 1) := zh (by rw [iz_length, PL.out])
   go_wp2_with (at_builtin; refine wpList_append_lit zr _ _ 29 zr (.int .i64 y2) (.int .i64 0) 8 elemInt zr zr OW.out zr zr (by rw [HLN.out]; omega) (by rw [HLN.out]; omega) (BD.out.size) ?_; intro v6 w6 ho6 _ hb6 _; have O6 : Hid (OwnV w6 w1.heap.size 3 v6 (iz (PP (k + 1 + 1)))) := zh (by rw [SN.out, iz_snoc]; exact ho6); have B6 : Hid (Below w1.heap.size w1 w6) := zh (BD.out.trans hb6); clear ho6 hb6)
   go_roundw
   case rel => exact ⟨k + 1, by omega, by go_num, O6.out, B6.out⟩
   case measure => simp [intOf]; omega
  ·have hkm : k = m := by omega
   subst hkm
   have hpz := END.out
   obtain ⟨y, hy⟩ : ∃ y : Int, y = (itp p x k : Int) := ⟨_, rfl⟩
   rw [← hy] at hpz cy
   have par : ∀ wx, RS wx p vL vF → Calls Tryz.prog 50 #[.agg M, .int .i64 y] wx fun e w' => e = .returned (.tuple #[.int .i64 0, .int .i64 0, .bool false]) ∧ Below wx.heap.size wx w' := fun wx h => by
    have hh := PARZ.out y wx h
    rw [hpz] at hh
    exact hh
   have PAR := zh par; have CY := zh cy
   clear hpz hy par cy ho hbw hlt5 hr5 hc5
   go_wp2_with fail
   refine wp_region_plan_in (fun x' => Below wr.heap.size wr x') (.take 0 (.take 1 (.take 2 (.take 3 (.take 4 (.take 5 (.take 6 (.sole 7 (.take 8 (.take 9 (.take 10 (.take 11 (.take 12 (.take 13 (.take 14 .done))))))))))))))) (by kernel_rfl) (by kernel_rfl) (by kernel_rfl) D0.out ?_
   refine plan_row 31 _ w.heap.size _ M 31 zr zr zr Mem.ev_a (fun w' hw' => AW.out.below hw' AW.out.lt) Tryz.underlying31 zr (by rw [MS.out]; exact infoRS) ?_
   (simp only [Act.put, Mem.pa, Mem.pb, Mem.pc])
   (first | refine Mem.pm1 ?_ | refine Mem.pm2 ?_ | refine Mem.pt ?_ | refine Mem.pf ?_)
   (simp only [Act.put, Mem.pa, Mem.pb, Mem.pc])
   (first | refine Mem.pm1 ?_ | refine Mem.pm2 ?_ | refine Mem.pt ?_ | refine Mem.pf ?_)
   (simp only [Act.put, Mem.pa, Mem.pb, Mem.pc])
   refine plan_len _ _ _ (some ⟨g5, 0, none⟩) (k + 1) c5 zr zr zr zr Mem.ev_a (fun w' => by first | rfl | go_simp) ?_
   (simp only [Act.put, Mem.pa, Mem.pb, Mem.pc])
   refine plan_bin _ _ _ _ _ _ _ (.int .i64 (k : Int)) zr zr zr Mem.ev_a zr (fun wx => SUB.out _ _ _ _ wx) ?_
   (simp only [Act.put, Mem.pa, Mem.pb, Mem.pc])
   refine plan_index 29 3 _ _ g5 0 (k + 1) c5 k zr zr zr Mem.ev_a Mem.ev_a (by omega) Tryz.underlying29 (by kernel_rfl) ?_
   rw [Nat.zero_add]
   (simp only [Act.put, Mem.pa, Mem.pb, Mem.pc])
   refine plan_cell 3 _ ⟨g5, k, none⟩ (.int .i64 y) _ zr zr zr Mem.ev_a (fun w' hw' => (Below.cell hw' (p := ⟨g5, k, none⟩) LG.out).trans CY.out) Tryz.underlying3 zr ?_
   (simp only [Act.put, Mem.pa, Mem.pb, Mem.pc])
   refine plan_call 50 _ _ _ (by kernel_rfl) zr zr zr (by first | exact Mem.ev_none _ | (simp only [List.map_toArray, List.map_cons, List.map_nil, Mem.ev_tmp, List.getD_cons_succ, List.getD_cons_zero] <;> rfl)) ?_
   refine (PAR.out _ (RW.out.below D0.out)).mono ?_
   rintro e z7 ⟨rfl, hb7⟩
   have E7 : Hid (Below wr.heap.size wr z7) := zh (D0.out.trans (hb7.mono D0.out.size))
   clear hb7
   refine ⟨_, rfl, E7.out, ?_⟩
   (simp only [Act.put, Mem.pa, Mem.pb, Mem.pc])
   (first | refine Mem.pm1 ?_ | refine Mem.pm2 ?_ | refine Mem.pt ?_ | refine Mem.pf ?_)
   (simp only [Act.put, Mem.pa, Mem.pb, Mem.pc])
   refine plan_extract _ _ #[(.int .i64 0), (.int .i64 0), (.bool false)] (.int .i64 0) zr zr zr Mem.ev_a zr ?_
   (simp only [Act.put, Mem.pa, Mem.pb, Mem.pc])
   refine plan_extract _ _ #[(.int .i64 0), (.int .i64 0), (.bool false)] (.int .i64 0) zr zr zr Mem.ev_a zr ?_
   (simp only [Act.put, Mem.pa, Mem.pb, Mem.pc])
   refine plan_extract _ _ #[(.int .i64 0), (.int .i64 0), (.bool false)] (.bool false) zr zr zr Mem.ev_a zr ?_
   (simp only [Act.put, Mem.pa, Mem.pb, Mem.pc])
   (first | refine Mem.pm1 ?_ | refine Mem.pm2 ?_ | refine Mem.pt ?_ | refine Mem.pf ?_)
   (simp only [Act.put, Mem.pa, Mem.pb, Mem.pc])
   (first | refine Mem.pm1 ?_ | refine Mem.pm2 ?_ | refine Mem.pt ?_ | refine Mem.pf ?_)
   (simp only [Act.put, Mem.pa, Mem.pb, Mem.pc])
   (first | refine Mem.pm1 ?_ | refine Mem.pm2 ?_ | refine Mem.pt ?_ | refine Mem.pf ?_)
   (simp only [Act.put, Mem.pa, Mem.pb, Mem.pc])
   refine plan_nil ?_
   go_wp2_with fail
   go_ret
   exact ⟨_, rfl, ownV_low (OwnV.below OO.out E7.out) HB.out.size, HB.out.trans ((BW.out.trans (E7.out.mono BW.out.size)).mono HB.out.size)⟩
theorem rpath_any (p : Nat) (vL vF : Value) (z : Int) (w : World) (hR : RS w p vL vF) (h0 : 1 ≤ p) (h1 : p ≤ 216) : Calls Tryz.prog 35 #[.agg (rsC p vL vF), .int .i64 z] w (OIEnd w (WZ p z)) := by
 unfold WZ
 by_cases h : 0 ≤ z ∧ z < (p : Int)
 ·rw [if_pos h]
  obtain ⟨x, rfl⟩ : ∃ x : Nat, z = (x : Int) := ⟨z.toNat, by omega⟩
  exact rpath_some p vL vF x w hR h0 h1 (by omega)
 ·rw [if_neg h]; exact rpath_none p vL vF z w h
end Sha
end Go.Proofs.YtahcjnganedbiaaGreatDoor
