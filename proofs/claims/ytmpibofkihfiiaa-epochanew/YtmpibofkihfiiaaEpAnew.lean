/- Layer 8's EpochAnew, over any account of the program's meter. -/
import Derived.Test.YtmpibofkihfiiaaEpOnce
namespace Go.Proofs.Ytmpibofkihfiiaa
namespace Sha
open Go.RowKit Mem
/-- A meter that began at last0, behind j steps. -/
structure AwInv (R : EAcc) (last0 : Int) (g j : Nat) (w wr : World) (m : Mtr) : Prop where
  h : EMine R g m w wr
  ok : OkM j m
  on : On last0 m
theorem aw_step {R : EAcc} (C : EpC R) {last0 : Int} {g j : Nat} {w wr : World} {m : Mtr} {x : Step8} {D : Array Value} (hI : AwInv R last0 g j w wr m) (hj : j ≤ 1000) (hin : goodS8 x) (hD : D = stepC8 x) :
    Calls Try.prog 9 #[mq g, .agg D] (wr.alloc (.cells D 31)) fun e w' => (∃ v, e = .returned (.tuple v)) ∧ ∃ m', AwInv R last0 g (j + 1) w w' m' := by
  subst hD
  refine (ecalls_beside C (t := 31) (D := stepC8 x) hI.h fun F h => play_any C x _ h (hI.ok.mono hj) hin).mono ?_
  rintro e w' ⟨rfl, h1, _⟩
  exact ⟨⟨_, rfl⟩, _, h1, ok_step hI.ok x hin, on_step hI.on x⟩
theorem AwInv.below {R : EAcc} (C : EpC R) {last0 : Int} {g j : Nat} {w wr wx : World} {m : Mtr} (h : AwInv R last0 g j w wr m) (hb : Below wr.heap.size wr wx) : AwInv R last0 g j w wx m := ⟨h.h.below C hb, h.ok, h.on⟩
set_option maxRecDepth 100000 in
set_option maxHeartbeats 8000000 in
theorem anew_core {R : EAcc} (C : EpC R) (NIL0 : EpNil) (last : Int) (h0 : 0 ≤ last) (h1 : last ≤ 4294967295) (l : List Step8) (v : Value) (l2 : List Step8) (vb : Value) (w : World) (hv : SlS8 w v l) (hl : l.length ≤ 9223372036854775807) (hg : ∀ x ∈ l, goodS8 x)
    (hv2 : SlS8 w vb l2) (hl2 : l2.length ≤ 9223372036854775807) (hg2 : ∀ x ∈ l2, goodS8 x) :
    Calls Try.prog 5 #[.int .u32 last, v, vb] w fun e w' => e = .returned (.bool true) ∧ Below w.heap.size w w' := by
  have CC := Lib.hid C; have NIL := Lib.hid NIL0
  have NEW := Lib.hid (fun wx => C.new last wx h0 h1)
  have SV := Lib.hid hv; have SV2 := Lib.hid hv2
  have GOOD : Hid (∀ x ∈ l.take 200, goodS8 x) := Lib.hid fun x hx => hg x (List.mem_of_mem_take hx)
  have GOOD2 : Hid (∀ x ∈ l2.take 200, goodS8 x) := Lib.hid fun x hx => hg2 x (List.mem_of_mem_take hx)
  have LL := Lib.hid hl; have LL2 := Lib.hid hl2
  clear C NIL0 hv hg hl hv2 hg2 hl2
  go_enter Try.func5, Try.ntmps5
  go_wp2_with fail
  refine (NIL.out.reserve w).mono ?_
  rintro e w1 ⟨rfl, hb1⟩
  have B1 := Lib.hid hb1
  clear hb1
  go_wp2_with fail
  refine (NIL.out.use 1 w1 (by decide)).mono ?_
  rintro e w2 ⟨rfl, hb2⟩
  have B2 : Hid (Below w.heap.size w w2) := B1.out.trans (hb2.mono B1.out.size)
  clear hb2 B1
  go_wp2_with fail
  refine (NIL.out.done w2).mono ?_
  rintro e w3 ⟨rfl, hb3⟩
  have B3 : Hid (Below w.heap.size w w3) := B2.out.trans (hb3.mono B2.out.size)
  clear hb3 B2
  go_wp2_with fail
  refine (NIL.out.last w3).mono ?_
  rintro e w4 ⟨rfl, hb4⟩
  have B4 : Hid (Below w.heap.size w w4) := B3.out.trans (hb4.mono B3.out.size)
  clear hb4 B3
  go_wp2_with fail
  refine (NIL.out.now w4).mono ?_
  rintro e w5 ⟨rfl, hb5⟩
  have B5 : Hid (Below w.heap.size w w5) := B4.out.trans (hb5.mono B4.out.size)
  clear hb5 B4
  go_wp2_with fail
  refine (NIL.out.left w5).mono ?_
  rintro e w6 ⟨rfl, hb6⟩
  have B6 : Hid (Below w.heap.size w w6) := B5.out.trans (hb6.mono B5.out.size)
  clear hb6 B5
  go_wp2_with fail
  refine (NIL.out.used w6).mono ?_
  rintro e w7 ⟨v7, rfl, hs7, hb7⟩
  obtain ⟨a7, c7, rfl⟩ := slr_hd hs7
  have B7 : Hid (Below w.heap.size w w7) := B6.out.trans (hb7.mono B6.out.size)
  clear hb7 hs7 B6
  go_wp2_with fail
  refine (NEW.out w7).mono ?_
  rintro e w8 ⟨g, F, rfl, h2, h3, h4⟩
  have I1 : Hid (AwInv R last g 0 w7 w8 (Mtr.new last)) := Lib.hid ⟨⟨⟨F, h2, h3⟩, h4⟩, ok_mnew last h0 h1, on_new last⟩
  have S1 := Lib.hid (SV.out.below (B7.out.trans (h4.mono B7.out.size)))
  clear h2 h3 h4 NEW
  go_wp2_with fail
  refine (short8_any l v w8 S1.out LL.out).mono ?_
  rintro e w9 ⟨⟨v2, rfl, hs2⟩, rfl⟩
  have S2 := Lib.hid (hs2 _ SV.out)
  obtain ⟨a, cap, rfl⟩ := slS8_info S2.out
  obtain ⟨L, hL⟩ : ∃ L, L = l.take 200 := ⟨_, rfl⟩
  rw [← hL] at S2 GOOD
  have hln : L.length ≤ 200 := by rw [hL, List.length_take]; omega
  rw [← hL]
  obtain ⟨n, hn⟩ : ∃ n, n = L.length := ⟨_, rfl⟩
  rw [← hn] at S2 hln ⊢
  have HN := Lib.hid hn
  clear hs2 hL hn S1 SV LL
  go_wp2_with fail
  go_loopw [64] (fun i wr => ∃ j : Nat, j ≤ n ∧ i = .int .i64 j ∧ ∃ m, AwInv R last g j w7 wr m) (fun i _ => n - (intOf i).toNat)
  case atStart => exact ⟨0, by omega, rfl, _, I1.out⟩
  case round =>
    clear I1
    obtain ⟨j, hj, rfl, m, hI⟩ := hrel
    by_cases hlt : j < n
    · have hlt' : (j : Int) < (n : Int) := by omega
      obtain ⟨b1, o1, ha1, cx⟩ := slS8_at (i := j) (S2.out.below (B7.out.trans (hI.h.b.mono B7.out.size))) (by rw [← HN.out]; exact hlt)
      have hin := GOOD.out (L.getD j default) (by rw [List.getD_eq_getElem?_getD, List.getElem?_eq_getElem (by rw [← HN.out]; exact hlt)]; exact List.getElem_mem _)
      obtain ⟨x, hx9⟩ : ∃ x, x = L.getD j default := ⟨_, rfl⟩
      rw [← hx9] at cx hin
      have c0 : wr.cell? ⟨b1, o1 + j * 2, none⟩ = some (.int .u8 (x.k.toNat : Int)) := by rw [show o1 + j * 2 = o1 + (2 * j + 0) by omega]; exact cx 0 (by decide)
      have c1 : wr.cell? ⟨b1, o1 + j * 2 + 1, none⟩ = some (.int .i64 x.b) := by rw [show o1 + j * 2 + 1 = o1 + (2 * j + 1) by omega]; exact cx 1 (by decide)
      subst ha1
      obtain ⟨k, hk⟩ : ∃ k, k = x.k.toNat := ⟨_, rfl⟩
      have hpl := aw_step CC.out hI (by omega) hin (D := #[.int .u8 (k : Int), .int .i64 x.b]) (by rw [hk]; rfl)
      rw [← hk] at c0
      have PL := Lib.hid hpl
      clear cx hx9 hI hin hpl hk
      go_wp2_with fail
      refine PL.out.mono ?_
      rintro e w10 ⟨⟨v10, rfl⟩, m', h10⟩
      have M10 := Lib.hid h10
      clear h10 PL c0 c1
      go_wp2_with fail
      go_roundw
      case rel => exact ⟨j + 1, by omega, by go_num, m', M10.out⟩
      case measure => simp [intOf]; omega
    · have hge : ¬ (j : Int) < (n : Int) := by omega
      have hj2 : j ≤ 200 := by omega
      have l0 := hI.ok.l0
      have l1 := hI.ok.l1
      have MI := Lib.hid hI
      clear hI hj hlt hln S2 HN GOOD
      go_wp2_with fail
      refine (ecalls_told CC.out MI.out.h fun F h => CC.out.last wr h (MI.out.ok.mono (by omega))).mono ?_
      rintro e w11 ⟨rfl, m11⟩
      have M11 : Hid (AwInv R last g j w7 w11 m) := Lib.hid ⟨m11, MI.out.ok, MI.out.on⟩
      clear m11 MI
      go_wp2_with fail
      refine (CC.out.new m.last w11 l0 l1).mono ?_
      rintro e w12 ⟨g2, F2, rfl, h2, h3, h4⟩
      have J1 : Hid (AwInv R m.last g2 0 w11 w12 (Mtr.new m.last)) := Lib.hid ⟨⟨⟨F2, h2, h3⟩, h4⟩, ok_mnew m.last l0 l1, on_new m.last⟩
      have BW : Hid (Below w.heap.size w w11) := Lib.hid (B7.out.trans (M11.out.h.b.mono B7.out.size))
      have S1 := Lib.hid (SV2.out.below (BW.out.trans (h4.mono BW.out.size)))
      clear h2 h3 h4
      go_wp2_with fail
      refine (short8_any l2 vb w12 S1.out LL2.out).mono ?_
      rintro e w13 ⟨⟨v2, rfl, hs2⟩, rfl⟩
      have S2 := Lib.hid (hs2 _ SV2.out)
      obtain ⟨a, cap, rfl⟩ := slS8_info S2.out
      obtain ⟨L, hL⟩ : ∃ L, L = l2.take 200 := ⟨_, rfl⟩
      rw [← hL] at S2 GOOD2
      have hln : L.length ≤ 200 := by rw [hL, List.length_take]; omega
      rw [← hL]
      obtain ⟨n, hn⟩ : ∃ n, n = L.length := ⟨_, rfl⟩
      rw [← hn] at S2 hln ⊢
      have HN := Lib.hid hn
      clear hs2 hL hn S1 SV2 LL2 hge
      go_wp2_with fail
      go_loopw [78] (fun i wr => ∃ j : Nat, j ≤ n ∧ i = .int .i64 j ∧ ∃ q, AwInv R m.last g2 j w11 wr q) (fun i _ => n - (intOf i).toNat)
      case atStart => exact ⟨0, by omega, rfl, _, J1.out⟩
      case round =>
        clear J1
        obtain ⟨j2, hj, rfl, q, hI⟩ := hrel
        by_cases hlt : j2 < n
        · have hlt' : (j2 : Int) < (n : Int) := by omega
          obtain ⟨b1, o1, ha1, cx⟩ := slS8_at (i := j2) (S2.out.below (BW.out.trans (hI.h.b.mono BW.out.size))) (by rw [← HN.out]; exact hlt)
          have hin := GOOD2.out (L.getD j2 default) (by rw [List.getD_eq_getElem?_getD, List.getElem?_eq_getElem (by rw [← HN.out]; exact hlt)]; exact List.getElem_mem _)
          obtain ⟨x, hx9⟩ : ∃ x, x = L.getD j2 default := ⟨_, rfl⟩
          rw [← hx9] at cx hin
          have c0 : wr.cell? ⟨b1, o1 + j2 * 2, none⟩ = some (.int .u8 (x.k.toNat : Int)) := by rw [show o1 + j2 * 2 = o1 + (2 * j2 + 0) by omega]; exact cx 0 (by decide)
          have c1 : wr.cell? ⟨b1, o1 + j2 * 2 + 1, none⟩ = some (.int .i64 x.b) := by rw [show o1 + j2 * 2 + 1 = o1 + (2 * j2 + 1) by omega]; exact cx 1 (by decide)
          subst ha1
          obtain ⟨k, hk⟩ : ∃ k, k = x.k.toNat := ⟨_, rfl⟩
          have hpl := aw_step CC.out hI (by omega) hin (D := #[.int .u8 (k : Int), .int .i64 x.b]) (by rw [hk]; rfl)
          rw [← hk] at c0
          have PL := Lib.hid hpl
          clear cx hx9 hI hin hpl hk
          go_wp2_with fail
          refine PL.out.mono ?_
          rintro e w14 ⟨⟨v14, rfl⟩, m', h14⟩
          have M14 := Lib.hid h14
          clear h14 PL c0 c1
          go_wp2_with fail
          go_roundw
          case rel => exact ⟨j2 + 1, by omega, by go_num, m', M14.out⟩
          case measure => simp [intOf]; omega
        · have hge : ¬ (j2 : Int) < (n : Int) := by omega
          have hj3 : j2 ≤ 200 := by omega
          have QI := Lib.hid hI
          have MI : Hid (AwInv R last g j w7 wr m) := Lib.hid (M11.out.below CC.out hI.h.b)
          have DIS : Hid (∀ p, p ∈ m.l → p ∈ q.l → False) := Lib.hid fun p hp hq => by
            have h1 := (M11.out.ok.uses p hp).2.1
            have h2 := hI.on.gt p hq
            omega
          have BR : Hid (Below w.heap.size w wr) := Lib.hid (BW.out.trans (hI.h.b.mono BW.out.size))
          have hal : Below wr.heap.size wr (wr.alloc (.map #[] 0)) := (Below.refl _ _).alloc (Nat.le_refl _) _
          have QA := Lib.hid (QI.out.below CC.out hal); have MA := Lib.hid (MI.out.below CC.out hal)
          obtain ⟨bm, hbm⟩ : ∃ bm, bm = wr.heap.size := ⟨_, rfl⟩
          have hset : Met (wr.alloc (.map #[] 0)) wr.heap.size [] := setM_made wr _ _ _ _ _ _
          rw [← hbm] at hset
          have hsz : (wr.alloc (.map #[] 0)).heap.size = bm + 1 := by rw [hbm]; simp
          have MF : Hid (∃ F, R F g (wr.alloc (.map #[] 0)) m ∧ ∀ k, F k → k ≠ bm) := by
            obtain ⟨F, f1, _⟩ := MI.out.h.h
            exact ⟨F, CC.out.below f1 hal, fun k hk => by have := CC.out.lt f1 k hk; omega⟩
          have QF : Hid (∃ F, R F g2 (wr.alloc (.map #[] 0)) q ∧ ∀ k, F k → k ≠ bm) := by
            obtain ⟨F, f1, _⟩ := QI.out.h.h
            exact ⟨F, CC.out.below f1 hal, fun k hk => by have := CC.out.lt f1 k hk; omega⟩
          have hbw : w.heap.size ≤ bm := by rw [hbm]; exact BR.out.size
          have BA := Lib.hid (BR.out.trans (hal.mono BR.out.size)); have SET := Lib.hid hset; have HSZ := Lib.hid hsz; have HBM := Lib.hid hbm
          have okm := MI.out.ok.mono (show j ≤ 200 by omega)
          have okq := QI.out.ok.mono (show j2 ≤ 200 by omega)
          obtain ⟨N, hN⟩ : ∃ N, N = m.l.length := ⟨_, rfl⟩
          have hN2 : N ≤ 200 := by rw [hN]; exact okm.len
          obtain ⟨K, hK⟩ : ∃ K, K = q.l.length := ⟨_, rfl⟩
          have hK2 : K ≤ 200 := by rw [hK]; exact okq.len
          have NN := Lib.hid hN; have KK := Lib.hid hK; have OKM := Lib.hid okm; have OKQ := Lib.hid okq
          clear hI hj hlt hal hset hsz hbm okm okq hN hK QI MI QA MA M11 BW BR S2 HN GOOD2 hln
          obtain ⟨F1, f1, f1n⟩ := MF.out
          obtain ⟨F2, f2, f2n⟩ := QF.out
          have US := Lib.hid (CC.out.used _ f1 (OKM.out.mono (by decide))); have FN1 := Lib.hid f1n; have FN2 := Lib.hid f2n; have R2 := Lib.hid f2
          clear f1 f2 f1n f2n MF QF
          go_wp2_with (refine wpList_map_made (by rfl) 48 (by rfl) ?_)
          refine US.out.mono ?_
          rw [← NN.out]
          rintro e w15 ⟨v6, rfl, hs6, hb6⟩
          obtain ⟨a6, c6, rfl⟩ := slr_hd hs6
          have hs7 : SlR (fun k => k ≠ bm) w15 2 (.slice a6 N c6) N (euCs m.l) := hs6.mono fun k hk _ => by
            rcases hk with h9 | h9
            · exact FN1.out k h9
            · rw [HSZ.out] at h9; omega
          have set6 : Met w15 bm [] := SET.out.below hb6 (by rw [HSZ.out]; omega)
          have B6 := Lib.hid (BA.out.trans (hb6.mono BA.out.size))
          have R6 := Lib.hid (CC.out.below R2.out hb6)
          have hbm6 : bm < w15.heap.size := set6.lt
          have S7 := Lib.hid hs7; have SET6 := Lib.hid set6
          rw [← HBM.out]
          clear hs6 hb6 hs7 set6 US SET BA HSZ R2 hge
          go_wp2_with fail
          go_loopw [90] (fun i wx => ∃ p : Nat, p ≤ N ∧ i = .int .i64 p ∧ Chg (fun k => k = bm) w15 wx ∧ Met wx bm (m.l.take p)) (fun i _ => N - (intOf i).toNat)
          case atStart => exact ⟨0, by omega, rfl, Chg.refl _ _, by simpa using SET6.out⟩
          case round =>
            obtain ⟨p, hp, rfl, hc, hm⟩ := hrel
            by_cases hlt : p < N
            · have hlt' : (p : Int) < (N : Int) := by omega
              have hsl : SlR (fun k => k ≠ bm) wr 2 (.slice a6 N c6) N (euCs m.l) := S7.out.keep hc.size fun k hk hk2 => hc.block k hk2 hk
              obtain ⟨b2, o2, rfl, _, hb2, hrg⟩ := eu_range hsl NN.out hlt
              have hqm : m.l.getD p (0, 0) ∈ m.l := by rw [List.getD_eq_getElem?_getD, List.getElem?_eq_getElem (by rw [← NN.out]; exact hlt)]; exact List.getElem_mem _
              have hnx : m.l.take (p + 1) = m.l.take p ++ [m.l.getD p (0, 0)] := by rw [List.take_add_one, List.getD_eq_getElem?_getD, List.getElem?_eq_getElem (by rw [← NN.out]; exact hlt)]; rfl
              obtain ⟨⟨p1, p2⟩, hpp⟩ : ∃ p', p' = m.l.getD p (0, 0) := ⟨_, rfl⟩
              rw [← hpp] at hrg hqm hnx
              have hok := OKM.out.eu hqm
              have k0 : wr.cell? ⟨b2, o2 + p * 2, none⟩ = some (.int .u32 p1) := hrg 0 _ rfl
              have k1 : wr.cell? ⟨b2, o2 + p * 2 + 1, none⟩ = some (.int .i64 p2) := hrg 1 _ rfl
              have hal : Below wr.heap.size wr (wr.alloc (.cells (euC (p1, p2)) 43)) := (Below.refl _ _).alloc (Nat.le_refl _) _
              have hma := hm.alloc (.cells (euC (p1, p2)) 43)
              have hca : Chg (fun k => k = bm) w15 (wr.alloc (.cells (euC (p1, p2)) 43)) := hc.trans (Chg.of_below (F := fun k => k = bm) hal) fun k hk => .inl hk
              have hlm : (m.l.take p).length < maxLen := by rw [List.length_take]; unfold maxLen; omega
              have MA := Lib.hid hma; have CA := Lib.hid hca; have NX := Lib.hid hnx; have OKP := Lib.hid hok; have HLM := Lib.hid hlm
              clear hc hm hsl hrg hqm hnx hpp hok hal hma hca hlm
              go_wp2_with (at_mapUpdate; go_loud (refine wpList_set_put (by rfl) 48 _ _ _ (by rfl) 4 bm (p1, p2) (.bool true) _ _ [] (by rfl) (by rfl) (by rfl) (plainElem_bool Try.underlying4 true) MA.out keyTy_use Try.underlying48 HLM.out OKP.out ?_; intro w16 hs8 hc8 hz8; have S8 := Lib.hid hs8; have C8 : Hid (Chg (fun k => k = bm) w15 w16) := Lib.hid (CA.out.trans hc8 fun k hk => .inl hk); clear hs8 hc8 hz8))
              go_roundw
              case rel => exact ⟨p + 1, by omega, by go_num, C8.out, S8.out.alike (fun c => by rw [NX.out]; simp [or_comm]) (by rw [NX.out]; simp)⟩
              case measure => simp [intOf]; omega
            · have hge2 : ¬ (p : Int) < (N : Int) := by omega
              have hm2 : Met wr bm m.l := by have h9 := hm; rw [List.take_of_length_le (by rw [← NN.out]; omega)] at h9; exact h9
              have hbx : Below w.heap.size w wr := hc.below B6.out (fun k hk => by subst hk; exact hbw) B6.out.size
              have hr2 := CC.out.chg R6.out hc fun k hk => FN2.out k hk
              have MS := Lib.hid hm2; have BX := Lib.hid hbx; have US2 := Lib.hid (CC.out.used wr hr2 (OKQ.out.mono (by decide)))
              clear hc hm hm2 hbx hr2 hp hlt S7 SET6
              go_wp2_with fail
              refine US2.out.mono ?_
              rw [← KK.out]
              rintro e w17 ⟨v9, rfl, hs9, hb9⟩
              obtain ⟨a9, c9, rfl⟩ := slr_hd hs9
              have set9 := MS.out.below hb9 MS.out.lt
              have S9 := Lib.hid hs9; have SET9 := Lib.hid set9; have B9 := Lib.hid (BX.out.trans (hb9.mono BX.out.size))
              clear hs9 hb9 set9 US2 MS BX hge2 R6
              go_wp2_with fail
              go_loopw [100] (fun i wx => ∃ p : Nat, p ≤ K ∧ i = .int .i64 p ∧ Below w17.heap.size w17 wx) (fun i _ => K - (intOf i).toNat)
              case atStart => exact ⟨0, by omega, rfl, Below.refl _ _⟩
              case round =>
                obtain ⟨p3, hp, rfl, hb⟩ := hrel
                by_cases hlt : p3 < K
                · have hlt' : (p3 : Int) < (K : Int) := by omega
                  obtain ⟨b2, o2, rfl, _, hb2, hrg⟩ := eu_range (S9.out.below hb) KK.out hlt
                  have hqm : q.l.getD p3 (0, 0) ∈ q.l := by rw [List.getD_eq_getElem?_getD, List.getElem?_eq_getElem (by rw [← KK.out]; exact hlt)]; exact List.getElem_mem _
                  obtain ⟨⟨p1, p2⟩, hpp⟩ : ∃ p', p' = q.l.getD p3 (0, 0) := ⟨_, rfl⟩
                  rw [← hpp] at hrg hqm
                  have hok := OKQ.out.eu hqm
                  have k0 : wr.cell? ⟨b2, o2 + p3 * 2, none⟩ = some (.int .u32 p1) := hrg 0 _ rfl
                  have k1 : wr.cell? ⟨b2, o2 + p3 * 2 + 1, none⟩ = some (.int .i64 p2) := hrg 1 _ rfl
                  have hd : false = true ↔ (p1, p2) ∈ m.l := ⟨fun h => absurd h (by decide), fun h => (DIS.out _ h hqm).elim⟩
                  have hal : Below wr.heap.size wr (wr.alloc (.cells (euC (p1, p2)) 43)) := (Below.refl _ _).alloc (Nat.le_refl _) _
                  have hma := (SET9.out.below hb SET9.out.lt).alloc (.cells (euC (p1, p2)) 43)
                  have hba := hb.trans (hal.mono hb.size)
                  have MA := Lib.hid hma; have CA := Lib.hid hba; have OKP := Lib.hid hok; have HD := Lib.hid hd
                  clear hb hrg hqm hpp hok hal hma hba hd
                  go_wp2_with (at_lookup; go_loud (refine wpList_set_look (by rfl) 48 _ _ (by rfl) 4 bm (p1, p2) (by rfl) (by rfl) MA.out keyTy_use Try.underlying48 Try.underlying4 (zeroBool _) OKP.out false HD.out ?_))
                  go_roundw
                  case rel => exact ⟨p3 + 1, by omega, by go_num, CA.out⟩
                  case measure => simp [intOf]; omega
                · have hge3 : ¬ (p3 : Int) < (K : Int) := by omega
                  have BX := Lib.hid (B9.out.trans (hb.mono B9.out.size))
                  clear hb hlt
                  go_wp2_with fail
                  refine (alive8_any CC.out wr).mono ?_
                  rintro e w18 ⟨rfl, hb9⟩
                  have B18 := Lib.hid (BX.out.trans (hb9.mono BX.out.size))
                  clear hb9
                  go_wp2_with fail
                  go_ret
                  exact ⟨rfl, B18.out⟩
end Sha
end Go.Proofs.Ytmpibofkihfiiaa
