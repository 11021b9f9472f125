/- The document's shape: New. -/
import Derived.Test.YtbboljmemomcnaaShpRef1
namespace Go.Proofs.Ytbboljmemomcnaa
namespace Sha
open Go.RowKit Mem
set_option maxRecDepth 100000
/-- The first n levels. -/
def zP (p n : Nat) : List Int := (List.range n).map fun i => (lev p i : Int)
theorem zP_length (p n : Nat) : (zP p n).length = n := by simp [zP]
theorem zP_succ (p n : Nat) : zP p (n + 1) = zP p n ++ [(lev p n : Int)] := by simp [zP, List.range_succ]
theorem zP_all (p : Nat) : zP p (itn p) = zL p := rfl
theorem iz_zP (p n : Nat) (x : Int) (h : (lev p n : Int) = x) : iz (zP p (n + 1)) = iz (zP p n) ++ [.int .i64 x] := by rw [zP_succ, iz_snoc, h]
theorem iz_fstL (p n : Nat) (x : Int) (h : fstZ p n = x) : iz (fstL p (n + 1)) = iz (fstL p n) ++ [.int .i64 x] := by rw [fstL_succ, iz_snoc, h]
/-- New under way: the result's place, the shape, its two lists so long. -/
structure NS (u w : World) (g p : Nat) (vL vF : Value) (n m : Nat) : Prop where
  z : At w u.heap.size (rsC 0 (.slice none 0 0) (.slice none 0 0)) 29
  s : At w g (rsC p vL vF) 29
  l : OwnV w (g + 1) 3 vL (iz (zP p n))
  f : OwnV w (g + 1) 3 vF (iz (fstL p m))
  ne : ∀ b, vL.ownBlock = some b → vF.ownBlock ≠ some b
  b : Below u.heap.size u w
  h : g = u.heap.size + 1
theorem NS.gt {u w : World} {g p n m : Nat} {vL vF : Value} (h : NS u w g p vL vF n m) : g + 1 ≤ w.heap.size := h.s.lt
theorem NS.c1 {u w : World} {g p n m : Nat} {vL vF : Value} (h : NS u w g p vL vF n m) : w.cell? ⟨g, 1, none⟩ = some vL := (h.s.cell 1).trans rfl
theorem NS.c2 {u w : World} {g p n m : Nat} {vL vF : Value} (h : NS u w g p vL vF n m) : w.cell? ⟨g, 2, none⟩ = some vF := (h.s.cell 2).trans rfl
theorem NS.appL {u w w6 w7 : World} {g p n m : Nat} {vL vF v6 : Value} (h : NS u w g p vL vF n m)
    (ho : OwnV w6 (g + 1) 3 v6 (iz (zP p (n + 1)))) (hk : ∀ k, k < w.heap.size → vL.ownBlock ≠ some k → w6.heap[k]? = w.heap[k]?) (hb : Below (g + 1) w w6) (hf : v6.ownBlock = vL.ownBlock ∨ ∃ b, v6.ownBlock = some b ∧ w.heap.size ≤ b)
    (ha : At w7 g ((rsC p vL vF).setIfInBounds 1 v6) 29) (hq : ∀ k, k ≠ g → w7.heap[k]? = w6.heap[k]?) (hB : ∀ B a, Below B a w6 → B ≤ g → Below B a w7) : NS u w7 g p v6 vF (n + 1) m := by
  have hg := h.h
  refine ⟨?_, ha, ?_, ?_, ?_, hB _ _ (h.b.trans (hb.mono (by omega))) (by omega), hg⟩
  · exact at_keep (h.z.below hb (by omega)) hq (by omega)
  · exact OwnV.keep ho (fun b hb' => hq b (by have := (OwnV.lt ho b hb').1; omega))
  · refine OwnV.keep h.f (fun b hb' => ?_)
    have hl := OwnV.lt h.f b hb'
    rw [hq b (by omega)]
    exact hk b hl.2 (fun e => h.ne b e hb')
  · intro b h1 h2
    rcases hf with e | ⟨b', e, hge⟩
    · rw [e] at h1; exact h.ne b h1 h2
    · rw [e] at h1; injection h1 with h1; subst h1
      have := (OwnV.lt h.f _ h2).2
      omega
theorem NS.appF {u w w6 w7 : World} {g p n m : Nat} {vL vF v6 : Value} (h : NS u w g p vL vF n m)
    (ho : OwnV w6 (g + 1) 3 v6 (iz (fstL p (m + 1)))) (hk : ∀ k, k < w.heap.size → vF.ownBlock ≠ some k → w6.heap[k]? = w.heap[k]?) (hb : Below (g + 1) w w6) (hf : v6.ownBlock = vF.ownBlock ∨ ∃ b, v6.ownBlock = some b ∧ w.heap.size ≤ b)
    (ha : At w7 g ((rsC p vL vF).setIfInBounds 2 v6) 29) (hq : ∀ k, k ≠ g → w7.heap[k]? = w6.heap[k]?) (hB : ∀ B a, Below B a w6 → B ≤ g → Below B a w7) : NS u w7 g p vL v6 n (m + 1) := by
  have hg := h.h
  refine ⟨?_, ha, ?_, ?_, ?_, hB _ _ (h.b.trans (hb.mono (by omega))) (by omega), hg⟩
  · exact at_keep (h.z.below hb (by omega)) hq (by omega)
  · refine OwnV.keep h.l (fun b hb' => ?_)
    have hl := OwnV.lt h.l b hb'
    rw [hq b (by omega)]
    exact hk b hl.2 (fun e => h.ne b hb' e)
  · exact OwnV.keep ho (fun b hb' => hq b (by have := (OwnV.lt ho b hb').1; omega))
  · intro b h1 h2
    rcases hf with e | ⟨b', e, hge⟩
    · rw [e] at h2; exact h.ne b h1 h2
    · rw [e] at h2; injection h2 with h2; subst h2
      have := (OwnV.lt h.l _ h1).2
      omega
theorem NS.at6 {u w w6 : World} {g p n m : Nat} {vL vF v : Value} (h : NS u w g p vL vF n m) (hk : ∀ k, k < w.heap.size → v.ownBlock ≠ some k → w6.heap[k]? = w.heap[k]?) (hv : v = vL ∨ v = vF) : At w6 g (rsC p vL vF) 29 := by
  refine At.app h.s hk (fun e => ?_)
  rcases hv with rfl | rfl
  · have := (OwnV.lt h.l _ e).1; omega
  · have := (OwnV.lt h.f _ e).1; omega
theorem NS.out {u w : World} {g p n m : Nat} {vL vF : Value} (h : NS u w g p vL vF n m) (hn : n = itn p) (hm : m = itn p) {w' : World} (_hl : w'.heap.size = w.heap.size) (hk : ∀ k, k ≠ u.heap.size → w'.heap[k]? = w.heap[k]?) : RS w' p vL vF := by
  subst hn hm
  refine ⟨(ownV_sli (OwnV.keep h.l (fun b hb => hk b ?_))), (ownV_sli (OwnV.keep h.f (fun b hb => hk b ?_)))⟩
  · have := (OwnV.lt h.l b hb).1; have := h.h; omega
  · have := (OwnV.lt h.f b hb).1; have := h.h; omega
theorem stn_le (p k : Nat) (hk : k ≤ 3) (h1 : p ≤ 216) : stn p k ≤ 300 ∧ lvn p k ≤ 216 := by
  match k, hk with
  | 0, _ => simp [stn, lvn]; omega
  | 1, _ => simp [stn, lvn, cnt]; omega
  | 2, _ => simp [stn, lvn, cnt]; omega
  | 3, _ => simp [stn, lvn, cnt]; omega
theorem RS.one {w : World} {p : Nat} {vL vF : Value} (h : RS w p vL vF) : (rsC p vL vF).all (·.oneCell') = true := by
  obtain ⟨a, c, rfl⟩ := h.l.hd
  obtain ⟨b, d, rfl⟩ := h.f.hd
  exact rsC_one _ _ _ _ _ _ _
theorem lev_low (p i : Nat) (h : i < p) : lev p i = 0 := if_pos h
theorem fstZ_low (p i : Nat) (h : i < p) : fstZ p i = -1 := if_pos h
theorem zeroShR (w : World) : (zeroValue 29).run Try.prog w = .ok (.agg (rsC 0 (.slice none 0 0) (.slice none 0 0))) w := by kernel_rfl
theorem buildShR0 (w : World) : (Instr.build 29 #[]).run Try.prog w = .ok (.agg (rsC 0 (.slice none 0 0) (.slice none 0 0))) w := by kernel_rfl
theorem buildShR (p : Nat) (w : World) : (Instr.build 29 #[(0, .int .i64 (p : Int))]).run Try.prog w = .ok (.agg (rsC p (.slice none 0 0) (.slice none 0 0))) w := by kernel_rfl
set_option maxHeartbeats 1000000 in
theorem rnew_bad (z : Int) (w : World) (h : z < 1 ∨ 216 < z) : Calls Try.prog 8 #[.int .i64 z] w fun e w' => e = .returned (.tuple #[.agg (rsC 0 (.slice none 0 0) (.slice none 0 0)), .int .i64 1]) ∧ Below w.heap.size w w' := by
  obtain ⟨Z, hZ⟩ : ∃ Z, Z = rsC 0 (.slice none 0 0) (.slice none 0 0) := ⟨_, rfl⟩
  have zs : Z.size = 3 := by rw [hZ]; rfl
  have zo : Z.all (·.oneCell') = true := by rw [hZ]; exact rsC_one _ _ _ _ _ _ _
  have hx : ∀ w, (zeroValue 29).run Try.prog w = .ok (.agg Z) w := by rw [hZ]; exact zeroShR
  have bn : ∀ w, (Instr.build 29 #[]).run Try.prog w = .ok (.agg Z) w := by rw [hZ]; exact buildShR0
  rw [← hZ]
  have az := at_new w Z 29
  have bz : Below w.heap.size w (w.alloc (.cells Z 29)) := (Below.refl _ _).alloc (Nat.le_refl _) _
  have ZS := Lib.hid zs; have ZO := Lib.hid zo; have BN := Lib.hid bn; have AZ := Lib.hid az; have BZ := Lib.hid bz
  clear zs zo bn az bz hZ
  by_cases h0 : z < 1
  · go_enter Try.func8, Try.ntmps8
    go_upto_region 1 with fail
    clear hx
    generalize w.alloc (.cells Z 29) = w1 at *
    go_wp2_with (first
      | (refine Mem.wpList_build (by rfl) 29 _ #[] (.agg Z) (by rfl) (by simp) BN.out ?_)
      | (refine wpList_store_all (by rfl) 29 _ _ (by rfl) (by rfl) w.heap.size Z (by rfl) (by rfl) (by rw [ZS.out]; exact infoRS) Z 29 AZ.out (by rfl) ZO.out ?_))
    try simp only [Exit.inBlock, Exit.then]
    refine ret_row_tmp (by rfl) w.heap.size 29 Z _ _ (by rfl) (by rfl) (AZ.out.row Z) Try.underlying29 (by rfl) (by rw [ZS.out]; exact infoRS) ?_
    exact ⟨rfl, below_row BZ.out (Nat.le_refl _) Z⟩
  · have h1 : 216 < z := by omega
    clear h
    go_enter Try.func8, Try.ntmps8
    go_upto_region 1 with fail
    clear hx
    generalize w.alloc (.cells Z 29) = w1 at *
    go_wp2_with (first
      | (refine Mem.wpList_build (by rfl) 29 _ #[] (.agg Z) (by rfl) (by simp) BN.out ?_)
      | (refine wpList_store_all (by rfl) 29 _ _ (by rfl) (by rfl) w.heap.size Z (by rfl) (by rfl) (by rw [ZS.out]; exact infoRS) Z 29 AZ.out (by rfl) ZO.out ?_))
    try simp only [Exit.inBlock, Exit.then]
    refine ret_row_tmp (by rfl) w.heap.size 29 Z _ _ (by rfl) (by rfl) (AZ.out.row Z) Try.underlying29 (by rfl) (by rw [ZS.out]; exact infoRS) ?_
    exact ⟨rfl, below_row BZ.out (Nat.le_refl _) Z⟩
theorem infoSlInt : (Try.prog.info? 27).map (·.size) = some 1 := by kernel_rfl
theorem oneV {w : World} {B : Nat} {e : TypeId} {v : Value} {xs : List Value} (h : OwnV w B e v xs) : v.oneCell' = true := by
  obtain ⟨a, c, rfl, _⟩ := OwnV.open h; rfl
set_option maxHeartbeats 4000000 in
theorem rnew_any (p : Nat) (w : World) (h0 : 1 ≤ p) (h1 : p ≤ 216) : Calls Try.prog 8 #[.int .i64 p] w fun e w' => ∃ vL vF, e = .returned (.tuple #[.agg (rsC p vL vF), .int .i64 0]) ∧ RS w' p vL vF ∧ Below w.heap.size w w' := by
  obtain ⟨Z, hZ⟩ : ∃ Z, Z = rsC 0 (.slice none 0 0) (.slice none 0 0) := ⟨_, rfl⟩
  obtain ⟨D, hD⟩ : ∃ D, D = rsC p (.slice none 0 0) (.slice none 0 0) := ⟨_, rfl⟩
  have hx : ∀ w, (zeroValue 29).run Try.prog w = .ok (.agg Z) w := by rw [hZ]; exact zeroShR
  have bn : ∀ w, (Instr.build 29 #[(0, .int .i64 (p : Int))]).run Try.prog w = .ok (.agg D) w := by rw [hD]; exact buildShR p
  have zs : Z.size = 3 := by rw [hZ]; rfl
  have ds : D.size = 3 := by rw [hD]; rfl
  have hd1 : D.all (·.oneCell') = true := by rw [hD]; exact rsC_one _ _ _ _ _ _ _
  have hns : ∀ w1 w2, w1 = w.alloc (.cells Z 29) → w2 = w1.alloc (.cells D 29) → NS w w2 w1.heap.size p (.slice none 0 0) (.slice none 0 0) 0 0 := by
    intro w1 w2 e1 e2
    have hs : w1.heap.size = w.heap.size + 1 := by rw [e1]; simp
    have hA1 : At w1 w.heap.size Z 29 := by rw [e1]; exact at_new w Z _
    refine ⟨?_, ?_, OwnV.nil _ _ _, OwnV.nil _ _ _, fun b e => by simp [Value.ownBlock] at e, ?_, hs⟩
    · rw [← hZ, e2]; exact hA1.alloc _
    · rw [← hD, e2]; exact at_new w1 D _
    · rw [e2, e1]; exact ((Below.refl _ _).alloc (Nat.le_refl _) _).alloc (by simp) _
  have hsz : ∀ w1, w1 = w.alloc (.cells Z 29) → w1.heap.size = w.heap.size + 1 := fun w1 e1 => by rw [e1]; simp
  have NW := Lib.hid hns; have BN := Lib.hid bn; have DS := Lib.hid ds; have ZS := Lib.hid zs; have DO := Lib.hid hd1; have SZ := Lib.hid hsz
  have g0 : ¬ (p : Int) < 1 := by omega
  have g1 : ¬ (216 : Int) < (p : Int) := by omega
  clear hns bn ds zs hd1 hZ hD hsz
  go_enter Try.func8, Try.ntmps8
  go_upto_region 1 with fail
  obtain ⟨w1, hw1⟩ : ∃ w1, w1 = w.alloc (.cells Z 29) := ⟨_, rfl⟩
  have S1 := Lib.hid (SZ.out w1 hw1)
  have NV := Lib.hid (fun w2 h => NW.out w1 w2 hw1 h)
  rw [← hw1]
  clear hw1 SZ NW
  go_wp2_with (first
    | (refine Mem.wpList_build (by rfl) 29 _ #[(0, .int .i64 (p : Int))] (.agg D) (by rfl) (by first | rfl | (simp [Act.eval]; rfl) | simp [Act.eval]) BN.out ?_)
    | (refine wpList_store_new (by rfl) 29 _ _ (by rfl) (by rfl) D _ _ (by rfl) (by rfl) (by rw [DS.out]; exact infoRS) (by rw [DS.out, ZS.out]) DO.out ?_; clear hx; have N0 := Lib.hid (NV.out _ rfl); clear NV; generalize w1.alloc (.cells D 29) = w2 at *))
  go_loopw [5] (fun v wr => ∃ i : Nat, i ≤ p ∧ v = .int .i64 i ∧ ∃ vL vF, NS w wr w1.heap.size p vL vF i i) (fun v _ => p - (intOf v).toNat)
  case atStart => exact ⟨0, by omega, rfl, _, _, N0.out⟩
  case round =>
    clear N0
    obtain ⟨i, hi, rfl, vL, vF, hn⟩ := hrel
    by_cases hlt : i < p
    · have hlt' : (i : Int) < (p : Int) := by omega
      have c1 := hn.c1
      have N0 := Lib.hid hn
      have LL : Hid ((iz (zP p i)).length = i) := Lib.hid (by rw [iz_length, zP_length])
      have LF : Hid ((iz (fstL p i)).length = i) := Lib.hid (by rw [iz_length, fstL_length])
      have EL := Lib.hid (iz_zP p i 0 (by rw [lev_low p i hlt]; rfl))
      have EF := Lib.hid (iz_fstL p i (-1) (fstZ_low p i hlt))
      clear hn
      go_wp2_with (first
        | (at_builtin; refine wpList_append_lit (by rfl) _ _ 27 (by rfl) (.int .i64 (0)) (.int .i64 0) 8 elemInt (by rfl) (by rfl) N0.out.l (by rfl) (by rfl) (by rw [LL.out]; omega) (by rw [LL.out]; omega) (N0.out.gt) ?_; intro v6L w6L ho6 hk6 hb6 hf6; have O6 := Lib.hid ho6; have K6 := Lib.hid hk6; have B6 := Lib.hid hb6; have F6 := Lib.hid hf6; clear ho6 hk6 hb6 hf6)
        | (refine Mem.wpList_store_one (by rfl) 27 _ _ (by rfl) (by rfl) w1.heap.size 1 v6L (by rfl) (by rfl) (oneV O6.out) infoSlInt (rsC p vL vF) 29 (N0.out.at6 K6.out (Or.inl rfl)) (by exact (by decide : 1 < 3)) ?_; intro w7 ha7 hq7 hB7; have N1 := Lib.hid (N0.out.appL (by rw [EL.out]; exact O6.out) K6.out B6.out F6.out ha7 hq7 hB7); have c2 := N1.out.c2; clear ha7 hq7 hB7 O6 K6 B6 F6 N0)
        | (at_builtin; refine wpList_append_lit (by rfl) _ _ 27 (by rfl) (.int .i64 (-1)) (.int .i64 0) 8 elemInt (by rfl) (by rfl) N1.out.f (by rfl) (by rfl) (by rw [LF.out]; omega) (by rw [LF.out]; omega) (N1.out.gt) ?_; intro v6 w6 ho6 hk6 hb6 hf6; have P6 := Lib.hid ho6; have K6 := Lib.hid hk6; have B6 := Lib.hid hb6; have F6 := Lib.hid hf6; clear ho6 hk6 hb6 hf6)
        | (refine Mem.wpList_store_one (by rfl) 27 _ _ (by rfl) (by rfl) w1.heap.size 2 v6 (by rfl) (by rfl) (oneV P6.out) infoSlInt (rsC p v6L vF) 29 (N1.out.at6 K6.out (Or.inr rfl)) (by exact (by decide : 2 < 3)) ?_; intro w9 ha7 hq7 hB7; have N2 := Lib.hid (N1.out.appF (by rw [EF.out]; exact P6.out) K6.out B6.out F6.out ha7 hq7 hB7); clear ha7 hq7 hB7 P6 K6 B6 F6 N1))
      go_roundw
      case rel => exact ⟨i + 1, by omega, by go_num, _, _, N2.out⟩
      case measure => simp [intOf]; omega
    · have hip : i = p := by omega
      have hge : ¬ (i : Int) < (p : Int) := by omega
      subst hip
      have N0 := Lib.hid hn
      clear hn hlt hi hge
      have N9 : Hid (∃ vL vF, NS w wr w1.heap.size i vL vF (stn i 1) (stn i 1)) := Lib.hid ⟨vL, vF, N0.out⟩
      clear N0
      go_wp2_with fail
      go_loopw [6, 7, 8] (fun vf vm v wx => ∃ k : Nat, ∃ lz : Int, k ≤ topn i ∧ lz = (k : Int) + 1 ∧ vf = .int .i64 (stn i k : Nat) ∧ vm = .int .i64 (lvn i k : Nat) ∧ v = .int .i64 lz ∧ ∃ vL vF, NS w wx w1.heap.size i vL vF (stn i (k + 1)) (stn i (k + 1))) (fun _ _ v _ => 5 - (intOf v).toNat)
      case atStart => exact ⟨0, 1, by omega, rfl, rfl, rfl, rfl, N9.out⟩
      case round =>
        clear N9
        obtain ⟨k, lz, hk, hlz, rfl, rfl, rfl, vL, vF, hn⟩ := hrel
        have N0 := Lib.hid hn
        clear hn
        have ht := top_le i
        have hti := top_iff i k h0 h1 (by omega)
        have S2 := Lib.hid (stn_lvn i k (by omega))
        obtain ⟨c, hc⟩ : ∃ c, c = lvn i k := ⟨_, rfl⟩
        rw [← hc] at hti S2 ⊢
        by_cases hgo : k + 1 ≤ topn i
        · have hk2 : k ≤ 2 := by omega
          have hor := hti.mpr hgo
          have S3 := Lib.hid (stn_lvn i (k + 1) (by omega))
          have hcn := lvn_cnt i k hk2
          have LA := Lib.hid (fun j hj => lev_at i (k + 1) j (by omega) hj)
          have FA := Lib.hid (fun j hj => fstZ_at i k j hk2 hj)
          rw [← hc] at hcn
          have hcd : ∀ j : Nat, (6 * (j : Int) < (c : Int)) ↔ j < lvn i (k + 1) := fun j => by rw [hcn]; unfold cnt; omega
          obtain ⟨d, hd⟩ : ∃ d, d = lvn i (k + 1) := ⟨_, rfl⟩
          obtain ⟨sk, hsk⟩ : ∃ sk, sk = stn i k := ⟨_, rfl⟩
          obtain ⟨sm, hsm⟩ : ∃ sm, sm = stn i (k + 1) := ⟨_, rfl⟩
          rw [← hd] at hcd S3 LA FA
          rw [← hsk] at FA S2 ⊢
          rw [← hsm] at S2 LA FA S3 N0
          have bs := stn_le i k (by omega) h1
          have bm := stn_le i (k + 1) (by omega) h1
          rw [← hsk, ← hc] at bs
          rw [← hsm, ← hd] at bm
          have HT := Lib.hid hgo; have HC := Lib.hid hcd; have HS := Lib.hid hsm; have HD := Lib.hid hd; have H0 := Lib.hid h0; have HL := Lib.hid hlz; have z0 : 0 ≤ lz := by omega
          have z9 : lz ≤ 4 := by omega
          have hcase : k = 0 ∨ (¬ k = 0 ∧ 1 < c) := by omega
          clear hti hor hcn hcd hc hd hsk hsm hk ht hgo h0
          go_upto_region 11 with fail
          go_cut [41] (fun x wx => x = .bool true ∧ wx = wr)
          case first =>
            rcases hcase with hk0 | ⟨hk0, hc1⟩
            · have e1 : lz = 1 := by omega
              go_wp2_with fail
              go_meet
              exact ⟨rfl, rfl⟩
            · have e1 : ¬ lz = 1 := by omega
              have e2 : (1 : Int) < (c : Int) := by omega
              clear hlz
              go_wp2_with fail
              go_meet
              exact ⟨rfl, rfl⟩
          obtain ⟨rfl, rfl⟩ := hcut
          clear hcase hlz
          go_wp2_with fail
          go_loopw [9, 10] (fun vn vq wx => ∃ j : Nat, ∃ q : Int, j ≤ d ∧ q = 6 * (j : Int) ∧ vn = .int .i64 j ∧ vq = .int .i64 q ∧ ∃ vL vF, NS w wx w1.heap.size i vL vF (sm + j) (sm + j)) (fun vn _ _ => d - (intOf vn).toNat)
          case atStart => exact ⟨0, 0, by omega, by omega, rfl, rfl, _, _, N0.out⟩
          case round =>
            clear N0 vL vF
            obtain ⟨j, q, hj, hq, rfl, rfl, vL, vF, hn⟩ := hrel
            by_cases hjd : j < d
            · have hlt : q < (c : Int) := by rw [hq]; exact (HC.out j).mpr hjd
              have c1 := hn.c1
              have N0 := Lib.hid hn
              have LL : Hid ((iz (zP i (sm + j))).length = sm + j) := Lib.hid (by rw [iz_length, zP_length])
              have LF : Hid ((iz (fstL i (sm + j))).length = sm + j) := Lib.hid (by rw [iz_length, fstL_length])
              have EL := Lib.hid (iz_zP i (sm + j) lz (by rw [LA.out j hjd, HL.out]; omega))
              have EF := Lib.hid (iz_fstL i (sm + j) ((sk : Int) + q) (by rw [FA.out j hjd, hq]; omega))
              have q0 : 0 ≤ q := by omega
              have q1 : q ≤ 216 := by omega
              have HQ := Lib.hid hq
              clear hn hq
              go_wp2_with (first
                | (at_builtin; refine wpList_append_lit (by rfl) _ _ 27 (by rfl) (.int .i64 lz) (.int .i64 0) 8 elemInt (by rfl) (by rfl) N0.out.l (by rfl) (by rfl) (by rw [LL.out]; omega) (by rw [LL.out]; omega) (N0.out.gt) ?_; intro v6L w6L ho6 hk6 hb6 hf6; have O6 := Lib.hid ho6; have K6 := Lib.hid hk6; have B6 := Lib.hid hb6; have F6 := Lib.hid hf6; clear ho6 hk6 hb6 hf6)
                | (refine Mem.wpList_store_one (by rfl) 27 _ _ (by rfl) (by rfl) w1.heap.size 1 v6L (by rfl) (by rfl) (oneV O6.out) infoSlInt (rsC i vL vF) 29 (N0.out.at6 K6.out (Or.inl rfl)) (by exact (by decide : 1 < 3)) ?_; intro w7 ha7 hq7 hB7; have N1 := Lib.hid (N0.out.appL (by rw [EL.out]; exact O6.out) K6.out B6.out F6.out ha7 hq7 hB7); have c2 := N1.out.c2; clear ha7 hq7 hB7 O6 K6 B6 F6 N0)
                | (at_builtin; refine wpList_append_lit (by rfl) _ _ 27 (by rfl) (.int .i64 ((sk : Int) + q)) (.int .i64 0) 8 elemInt (by rfl) (by rfl) N1.out.f (by rfl) (by rfl) (by rw [LF.out]; omega) (by rw [LF.out]; omega) (N1.out.gt) ?_; intro v6 w6 ho6 hk6 hb6 hf6; have P6 := Lib.hid ho6; have K6 := Lib.hid hk6; have B6 := Lib.hid hb6; have F6 := Lib.hid hf6; clear ho6 hk6 hb6 hf6)
                | (refine Mem.wpList_store_one (by rfl) 27 _ _ (by rfl) (by rfl) w1.heap.size 2 v6 (by rfl) (by rfl) (oneV P6.out) infoSlInt (rsC i v6L vF) 29 (N1.out.at6 K6.out (Or.inr rfl)) (by exact (by decide : 2 < 3)) ?_; intro w9 ha7 hq7 hB7; have N2 := Lib.hid (N1.out.appF (by rw [EF.out]; exact P6.out) K6.out B6.out F6.out ha7 hq7 hB7); clear ha7 hq7 hB7 P6 K6 B6 F6 N1))
              go_roundw
              case rel => exact ⟨j + 1, q + 6, by omega, by rw [HQ.out]; omega, by go_num, by go_num, _, _, N2.out⟩
              case measure => simp [intOf]; omega
            · have hje : j = d := by omega
              have hge : ¬ q < (c : Int) := by rw [hq]; exact fun h => hjd ((HC.out j).mp h)
              subst hje
              have N0 := Lib.hid hn
              clear hn hq hj hjd
              go_wp2_with fail
              go_roundw
              case rel => exact ⟨k + 1, lz + 1, HT.out, by rw [HL.out]; omega, by rw [← HS.out, S2.out]; go_num, by rw [← HD.out], by go_num, _, _, by rw [S3.out]; exact N0.out⟩
              case measure => simp [intOf]; omega
        · have hkt : k = topn i := by omega
          have hk1 : ¬ lz = 1 := by omega
          have hc1 : ¬ (1 : Int) < (c : Int) := by omega
          have hit : stn i (k + 1) = itn i := by rw [hkt]; rfl
          obtain ⟨M, hM⟩ : ∃ M, M = rsC i vL vF := ⟨_, rfl⟩
          have ms : M.size = 3 := by rw [hM]; rfl
          have mo : M.all (·.oneCell') = true := by
            obtain ⟨a1, c1, e1, _⟩ := OwnV.open N0.out.l
            obtain ⟨a2, c2, e2, _⟩ := OwnV.open N0.out.f
            rw [hM, e1, e2]; exact rsC_one _ _ _ _ _ _ _
          have az := N0.out.z
          have hs9 := N0.out.s
          have hz : ∀ w', w' = wr.setRow w.heap.size M → RS w' i vL vF ∧ Below w.heap.size w w' := by
            rintro w' rfl
            exact ⟨N0.out.out hit hit (by simp) (fun k hk => setRow_other wr w.heap.size k M hk), below_row N0.out.b (Nat.le_refl _) M⟩
          rw [← hM] at hs9
          have MS := Lib.hid ms; have MO := Lib.hid mo; have AZ := Lib.hid az; have AS := Lib.hid hs9; have ZZ := Lib.hid hz; have HM := Lib.hid hM
          clear ms mo az hs9 hz hM hti hit hkt hgo hk ht hlz hc S2 h0 N0
          go_wp2_with (first
            | (refine wpList_load_all (by rfl) 29 _ (by rfl) w1.heap.size (by rfl) _ Try.underlying29 (by rfl) M _ AS.out (by rw [MS.out]; exact infoRS) ?_)
            | (refine wpList_store_all (by rfl) 29 _ _ (by rfl) (by rfl) w.heap.size M (by rfl) (by rfl) (by rw [MS.out]; exact infoRS) _ 29 AZ.out (by rw [MS.out]; rfl) MO.out ?_))
          try simp only [Exit.inBlock, Exit.then]
          refine ret_row_tmp (by rfl) w.heap.size 29 M _ _ (by rfl) (by rfl) (AZ.out.row M) Try.underlying29 (by rfl) (by rw [MS.out]; exact infoRS) ?_
          exact ⟨vL, vF, by rw [← HM.out]; rfl, ZZ.out _ rfl⟩
end Sha
end Go.Proofs.Ytbboljmemomcnaa
