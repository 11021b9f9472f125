/- The program's Parse and Set of a node's page. The program's shape: Path. -/
import Derived.Test.YtajdpbbbocnfiaaDoorBx25
import Derived.Test.YtajdpbbbocnfiaaDoorBx23
import Derived.Test.YtajdpbbbocnfiaaDoorBx26
namespace Go.Proofs.YtajdpbbbocnfiaaDoor
namespace Sha
open Go.RowKit Mem
set_option maxRecDepth 100000
set_option maxHeartbeats 1000000 in
theorem pparse13_own (p : List (BitVec 8)) (z : Int) (v : Value) (w : World) (hv : Sl w v p) (hl : p.length ≤ 1000) : Calls Tryd.prog 55 #[v, .int .i64 z] w (RfOwn 32 w (parseN p z).1 (parseN p z).2) := by
  have al := ptake_any p v w hv hl
  have hwf := allN_wf p
  have hle := allN_le p
  have herr := allN_err p
  have hP : parseN p z = if z < 1 ∨ 6 < z then ([], 1) else if (allN p).2 = 0 ∧ ((allN p).1.length : Int) ≠ z then ([], 9) else allN p := rfl
  obtain ⟨Y, hY⟩ : ∃ Y, Y = parseN p z := ⟨_, rfl⟩
  rw [← hY] at hP ⊢
  obtain ⟨L, hL⟩ : ∃ L, L = (allN p).1 := ⟨_, rfl⟩
  obtain ⟨e, he⟩ : ∃ e, e = (allN p).2 := ⟨_, rfl⟩
  have hpair : allN p = (L, e) := by rw [hL, he]
  rw [hpair] at al hwf hle herr hP
  simp only at al hwf hle herr hP
  by_cases hz : 1 ≤ z ∧ z ≤ 6
  · have im := isMany_any z w
    rw [decide_eq_true hz] at im
    obtain ⟨i2, hi2, hz2, hs2, hb2⟩ := info_parts rfRP
    have hxt := zeroTk
    obtain ⟨T, hT⟩ : ∃ Z, Z = tkC (pad6 []) 0 := ⟨_, rfl⟩
    have ts : T.size = 205 := by rw [hT]; exact tkC_size (pad6_wf (fun _ h => nomatch h)) (pad6_len (by decide))
    rw [← hT] at hxt
    unfold TkE at al
    have cm : (tkC (pad6 L) L.length)[204]? = some (.int .i64 (L.length : Int)) := tkC_many (pad6_wf hwf) (pad6_len hle)
    have cs : (tkC (pad6 L) L.length).size = 205 := tkC_size (pad6_wf hwf) (pad6_len hle)
    have co : (tkC (pad6 L) L.length).all (·.oneCell') = true := tkC_one
    have hsl : ∀ wx b t, At wx b (tkC (pad6 L) L.length) t → SlRf wx (.slice (some ⟨b, 0, none⟩) 6 6) (pad6 L) := fun wx b t h => by
      have g := tk_sl (m := 6) (c := 6) h (pad6_wf hwf) (pad6_len hle) (by decide)
      have e6 : (pad6 L).take 6 = pad6 L := List.take_of_length_le (by rw [pad6_len hle]; decide)
      rwa [e6] at g
    have hpl := pad6_len hle
    have hpw := pad6_wf hwf
    have hpt := pad6_take L
    obtain ⟨C, hC⟩ : ∃ C, C = tkC (pad6 L) L.length := ⟨_, rfl⟩
    rw [← hC] at al cm cs co hsl
    obtain ⟨K, hK⟩ : ∃ K, K = pad6 L := ⟨_, rfl⟩
    rw [← hK] at hsl hpl hpw hpt
    obtain ⟨n, hn⟩ : ∃ n, n = L.length := ⟨_, rfl⟩
    rw [← hn] at cm hP hpt hle
    have AL := Lib.hid al; have WF := Lib.hid hwf; have HP := Lib.hid hP; have ERR := Lib.hid herr; have IM := Lib.hid im; have TS := Lib.hid ts; have CM := Lib.hid cm; have CS := Lib.hid cs; have CO := Lib.hid co; have HSL := Lib.hid hsl; have HPL := Lib.hid hpl; have HPW := Lib.hid hpw; have HPT := Lib.hid hpt; have HN := Lib.hid hn
    have I2 := Lib.hid hi2; have Z2 := Lib.hid hz2; have S2 := Lib.hid hs2; have B2i := Lib.hid hb2
    clear al hwf hP herr hY hL he hpair hv im ts cm cs co hsl hpl hpw hpt hC hK hT hi2 hz2 hs2 hb2 hl hn
    have hx := hxt
    clear hxt
    go_enter Tryd.func55, Tryd.ntmps55
    go_wp2_with fail
    refine IM.out.mono ?_
    rintro e1 w1 ⟨rfl, rfl⟩
    go_wp2_with fail
    refine (AL.out).mono ?_
    rintro e2 w2 ⟨rfl, hb2⟩
    have B2 : Hid (Below w1.heap.size w1 (w2.alloc (.cells C 114))) := Lib.hid (hb2.alloc hb2.size _)
    have C2 := Lib.hid (at_new w2 C 114)
    clear hb2
    go_upto_region 4 with (refine wpList_store_new (by rfl) 114 _ _ (by rfl) (by rfl) C _ _ (by rfl) (by rfl) (by rw [CS.out]; exact infoTk) (by rw [TS.out, CS.out]) CO.out ?_)
    clear hx
    obtain ⟨l, hl⟩ : ∃ l, l = w2.heap.size := ⟨_, rfl⟩
    rw [← hl] at C2 ⊢
    clear hl
    generalize (w2.alloc (.cells C 114)) = w3 at *
    rcases ERR.out with h0 | ⟨h0, he⟩
    · subst h0
      have cm : w3.cell? ⟨l, 204, none⟩ = some (.int .i64 (n : Int)) := (C2.out.cell 204).trans CM.out
      by_cases hnz : (n : Int) = z
      · have hy : Y = (L, 0) := by rw [HP.out, if_neg (by omega), if_neg (fun x => x.2 hnz)]
        have HY := Lib.hid hy
        clear hy
        subst hnz
        have h1n : 0 < n := by omega
        go_upto_region 9 with (refine wpList_make_full _ (by rfl) _ _ 35 (by rfl) w1.heap.size 32 i2 (.agg (refC zref)) 34 Tryd.underlying35 I2.out Z2.out S2.out .i64 .i64 (n : Int) (n : Int) n (by rfl) (by rfl) (by rfl) (by rfl) (by rw [B2i.out]; omega) (by simp [maxLen]; omega) B2.out.size ?_; intro w4 ho4 hg4; have O4 := Lib.hid ho4; have B4 : Hid (Below w1.heap.size w1 w4) := Lib.hid (B2.out.grown hg4 B2.out.size (fun k e => by cases e)); have C4 := Lib.hid (C2.out.below ((Below.refl w3.heap.size w3).grown hg4 (Nat.le_refl _) (fun k e => by cases e)) C2.out.lt); have G4 := Lib.hid B2.out.size; clear ho4 hg4)
        clear cm
        obtain ⟨g, hg⟩ : ∃ g, g = w3.heap.size := ⟨_, rfl⟩
        rw [← hg] at O4 G4 ⊢
        clear hg
        have SL4 := Lib.hid (HSL.out _ _ _ C4.out)
        go_upto_region 10 with (first
          | (refine wpList_cut_all (by rfl) 112 _ (by rfl) 6 32 Tryd.underlying112 34 infoRfP l 0 (by rfl) ?_)
          | (refine wpList_copy_rfn (by rfl) _ _ 35 35 (by rfl) 32 Tryd.underlying35 infoRfP w1.heap.size 32 n g n _ O4.out (by rfl) (some ⟨l, 0, none⟩) 6 6 (by rfl) K SL4.out HPL.out.symm hle h1n HPW.out ?_; intro w5 ho5 hz5 hh5 hb5; have B5 : Hid (Below w1.heap.size w1 w5) := Lib.hid (hb5 _ _ B4.out G4.out); have O5 : Hid (OwnRf w5 w1.heap.size 32 (.slice (some ⟨g, 0, none⟩) n n) L) := Lib.hid (by rw [HPT.out] at ho5; show w5.ownsRow _ _ _ _ L.length _; rw [← HN.out]; exact ho5); clear ho5 hz5 hh5 hb5))
        go_wp2_with fail
        go_ret2
        exact ⟨_, by rw [HY.out]; rfl, by rw [HY.out]; exact O5.out, B5.out⟩
      · have hy : Y = ([], 9) := by rw [HP.out, if_neg (by omega), if_pos ⟨rfl, hnz⟩]
        have HY := Lib.hid hy
        clear hy
        go_wp2_with fail
        go_ret2
        exact ⟨_, by rw [HY.out]; rfl, by rw [HY.out]; exact World.ownsRow_nil _ _ _ _, B2.out⟩
    · have hne : ¬ e = 0 := by rcases he with h | h <;> omega
      have hy : Y = ([], e) := by rw [HP.out, if_neg (by omega), if_neg (fun x => hne x.1), h0]
      have HY := Lib.hid hy
      clear hy he h0
      go_wp2_with fail
      go_ret2
      exact ⟨_, by rw [HY.out]; rfl, by rw [HY.out]; exact World.ownsRow_nil _ _ _ _, B2.out⟩
  · have im := isMany_any z w
    rw [decide_eq_false hz] at im
    have hy : Y = ([], 1) := by rw [hP, if_pos (by omega)]
    have HY := Lib.hid hy; have IM := Lib.hid im
    clear hy im al hwf hP herr hY hL he hpair hv hl hle hz
    go_enter Tryd.func55, Tryd.ntmps55
    go_wp2_with fail
    refine IM.out.mono ?_
    rintro e1 w1 ⟨rfl, rfl⟩
    go_wp2_with fail
    go_ret2
    exact ⟨_, by rw [HY.out]; rfl, by rw [HY.out]; exact World.ownsRow_nil _ _ _ _, Below.refl _ _⟩
end Sha
end Go.Proofs.YtajdpbbbocnfiaaDoor
namespace Go.Proofs.YtajdpbbbocnfiaaDoor
namespace Sha
open Go.RowKit Mem
set_option maxRecDepth 100000
theorem own_lit1 {w : World} {B : Nat} (x : Int) (hB : B ≤ w.heap.size) : OwnV (w.alloc (.cells #[.int .i64 x] 3)) B 3 (.slice (some ⟨w.heap.size, 0, none⟩) 1 1) (iz [x]) :=
  World.ownsRow_lit w #[.int .i64 x] 1 hB (by decide) (by rfl)
theorem ppath_out (p : Nat) (z : Int) (w : World) (h1 : p ≤ 216) (h : ¬ (0 ≤ z ∧ z < (p : Int))) : Calls Tryd.prog 29 #[.agg (psC p), .int .i64 z] w (IEnd w []) := by
  have WI := Lib.hid (fun w => within_any z 0 (p : Int) w (by omega) (by omega) (by omega))
  have NZ : Hid (decide (0 ≤ z ∧ z < 0 + (p : Int)) = false) := Lib.hid (decide_eq_false (fun hh => h ⟨by omega, by omega⟩))
  clear h
  have ha := at_new w (psC p) 30
  have hb : Below w.heap.size w (w.alloc (.cells (psC p) 30)) := (Below.refl _ _).alloc (Nat.le_refl _) _
  have ms : (psC p).size = 1 := rfl
  have c0 : (w.alloc (.cells (psC p) 30)).cell? ⟨w.heap.size, 0, none⟩ = some (.int .i64 (p : Int)) := ((at_new w (psC p) _).cell 0).trans rfl
  obtain ⟨M, hM⟩ : ∃ M, M = psC p := ⟨_, rfl⟩
  rw [← hM] at ha hb ms c0 ⊢
  obtain ⟨w1, hw1⟩ : ∃ w1, w1 = w.alloc (.cells M 30) := ⟨_, rfl⟩
  rw [← hw1] at ha hb c0
  have HB := Lib.hid hb; have MS := Lib.hid ms; have AX := Lib.hid ha; have BS := Lib.hid hb.size
  clear hb ms hM ha 
  go_enter Tryd.func29, Tryd.ntmps29
  go_upto_region 1 with fail
  rw [← hw1]
  clear hw1
  go_wp2_with fail
  refine (WI.out _).mono ?_
  rintro e w3 ⟨rfl, rfl⟩
  rw [NZ.out]
  clear c0
  go_wp2_with fail
  go_ret
  exact ⟨_, rfl, SlI.nil _, HB.out⟩
set_option maxHeartbeats 2000000 in
theorem ppath_in (p x : Nat) (w : World) (h0 : 1 ≤ p) (h1 : p ≤ 216) (hx : x < p) : Calls Tryd.prog 29 #[.agg (psC p), .int .i64 (x : Int)] w (IEnd w (pathZ p x (topn p + 1))) := by
  have WI := Lib.hid (fun w => within_any (x : Int) 0 (p : Int) w (by omega) (by omega) (by omega))
  have YZ : Hid (decide (0 ≤ (x : Int) ∧ (x : Int) < 0 + (p : Int)) = true) := Lib.hid (decide_eq_true ⟨by omega, by omega⟩)
  have pr := fun z w => pparent_any p z w h1
  have hgo := fun k hk => itp_par p x k h0 h1 hx hk
  have hend := itp_end p x h0 h1 hx
  have ht := top_le p
  have hs := fun n => pathZ_succ p x n
  have hln := fun n => pathZ_length p x n
  obtain ⟨t, htt⟩ : ∃ t, t = topn p := ⟨_, rfl⟩
  rw [← htt] at ht hend hgo ⊢
  have GO := Lib.hid hgo; have EN := Lib.hid hend; have SN := Lib.hid hs; have LN := Lib.hid hln
  have hz0 : itp p x 0 = x := rfl
  have HZ := Lib.hid hz0
  clear hgo hend hs hln htt hz0
  have ha := at_new w (psC p) 30
  have hb : Below w.heap.size w (w.alloc (.cells (psC p) 30)) := (Below.refl _ _).alloc (Nat.le_refl _) _
  have ms : (psC p).size = 1 := rfl
  have c0 : (w.alloc (.cells (psC p) 30)).cell? ⟨w.heap.size, 0, none⟩ = some (.int .i64 (p : Int)) := ((at_new w (psC p) _).cell 0).trans rfl
  obtain ⟨M, hM⟩ : ∃ M, M = psC p := ⟨_, rfl⟩
  rw [← hM] at pr ha hb ms c0 ⊢
  obtain ⟨w1, hw1⟩ : ∃ w1, w1 = w.alloc (.cells M 30) := ⟨_, rfl⟩
  rw [← hw1] at ha hb c0
  have HB := Lib.hid hb; have MS := Lib.hid ms; have AX := Lib.hid ha; have BS := Lib.hid hb.size
  have PR := Lib.hid pr
  clear pr hb ms hM ha 
  go_enter Tryd.func29, Tryd.ntmps29
  go_upto_region 1 with fail
  rw [← hw1]
  clear hw1
  go_wp2_with fail
  refine (WI.out _).mono ?_
  rintro e w3 ⟨rfl, rfl⟩
  rw [YZ.out]
  clear c0
  have o1 := Lib.hid (own_lit1 (w := w3) (x : Int) (Nat.le_refl _))
  have bb1 : Below w3.heap.size w3 (w3.alloc (.cells #[.int .i64 (x : Int)] 3)) := (Below.refl _ _).alloc (Nat.le_refl _) _
  have A1 := Lib.hid (AX.out.below bb1 AX.out.lt); have BB1 := Lib.hid bb1
  clear bb1
  go_upto_region 4 with fail
  obtain ⟨g1, hg1⟩ : ∃ g, g = w3.heap.size := ⟨_, rfl⟩
  rw [← hg1] at o1
  rw [← hg1]
  have HG := Lib.hid hg1
  clear hg1
  generalize (w3.alloc (.cells #[.int .i64 (x : Int)] 3)) = w4 at *
  go_wp2_with (refine wpList_load_all (by rfl) 30 _ (by rfl) w.heap.size (by rfl) _ Tryd.underlying30 (by rfl) M _ A1.out (by rw [MS.out]; exact infoPS) ?_)
  refine (PR.out _ _).mono ?_
  rintro e w5 ⟨rfl, hb5⟩
  have O5 := Lib.hid (OwnV.below o1.out hb5)
  have B5 : Hid (Below w3.heap.size w3 w5) := Lib.hid (BB1.out.trans (hb5.mono BB1.out.size))
  have A5 := Lib.hid (A1.out.below hb5 A1.out.lt)
  clear hb5 o1 A1 BB1
  obtain ⟨pz, hpz⟩ : ∃ pz : Nat → Int × Int × Bool, ∀ k, pz k = PZ p (itp p x k : Int) := ⟨_, fun _ => rfl⟩
  have PZF := Lib.hid hpz
  rw [show PZ p (x : Int) = pz 0 from (hpz 0).symm]
  clear hpz
  go_wp2_with fail
  go_loopw [5, 6, 8] (fun vp vn vo wr => ∃ k : Nat, k ≤ t ∧ vn = .int .i64 (pz k).1 ∧ vo = .bool (pz k).2.2 ∧ OwnV wr w3.heap.size 3 vp (iz (pathZ p x (k + 1))) ∧ Below w3.heap.size w3 wr) (fun vp _ _ _ => t + 1 - slen vp)
  case atStart => exact ⟨0, by omega, rfl, rfl, by rw [SN.out 0, ← HG.out]; exact O5.out, B5.out⟩
  case round =>
    obtain ⟨k, hk, rfl, rfl, ho, hbw⟩ := hrel
    have OW := Lib.hid ho; have BW := Lib.hid hbw
    have AW := Lib.hid (At.below (AX.out) hbw AX.out.lt)
    have hl : (iz (pathZ p x (k + 1))).length = k + 1 := by rw [iz_length, LN.out]
    obtain ⟨a5, c5, rfl, _⟩ := OwnV.open ho
    rw [hl] at OW ⊢
    have HL := Lib.hid hl
    clear ho hbw hl
    by_cases hlt : k < t
    · have hpk := PZF.out k
      rw [GO.out k hlt] at hpk
      rw [hpk]
      have hsn := SN.out (k + 1)
      obtain ⟨y, hy⟩ : ∃ y, y = itp p x (k + 1) := ⟨_, rfl⟩
      have hpn := PZF.out (k + 1)
      rw [← hy] at hsn hpn
      rw [← hy]
      have HSN := Lib.hid hsn; have HPN := Lib.hid hpn
      clear hpk hsn hpn hy
      go_upto_region 6 with (at_builtin; refine wpList_append_lit (by rfl) _ _ 52 (by rfl) (.int .i64 (y : Int)) (.int .i64 0) 8 elemInt (by rfl) (by rfl) OW.out (by rfl) (by rfl) (by rw [HL.out]; omega) (by rw [HL.out]; omega) (BW.out.size) ?_; intro v6 w6 ho6 _ hb6 _; have O6 : Hid (OwnV w6 w3.heap.size 3 v6 (iz (pathZ p x (k + 1 + 1)))) := Lib.hid (by rw [HSN.out, iz_snoc]; exact ho6); have B6 : Hid (Below w3.heap.size w3 w6) := Lib.hid (BW.out.trans hb6); clear ho6 hb6)
      have A6 := Lib.hid (At.below (AX.out) B6.out AX.out.lt)
      go_wp2_with (refine wpList_load_all (by rfl) 30 _ (by rfl) w.heap.size (by rfl) _ Tryd.underlying30 (by rfl) M _ A6.out (by rw [MS.out]; exact infoPS) ?_)
      refine (PR.out _ _).mono ?_
      rintro e w7 ⟨rfl, hb7⟩
      have O7 := Lib.hid (OwnV.below O6.out (hb7))
      have B7 : Hid (Below w3.heap.size w3 w7) := Lib.hid (B6.out.trans (hb7.mono B6.out.size))
      clear hb7 O6 B6 A6 OW BW AW
      have hl7 : (iz (pathZ p x (k + 1 + 1))).length = k + 1 + 1 := by rw [iz_length, LN.out]
      obtain ⟨a7, c7, h7, _⟩ := OwnV.open O7.out
      rw [hl7] at h7
      subst h7
      clear hl7
      rw [← HPN.out]
      go_wp2_with fail
      go_roundw
      case rel => exact ⟨k + 1, by omega, rfl, rfl, O7.out, B7.out⟩
      case measure => simp [slen]; omega
    · have hkt : k = t := by omega
      subst hkt
      have hpk := PZF.out k
      rw [EN.out] at hpk
      rw [hpk]
      clear hpk
      go_wp2_with fail
      go_ret
      exact ⟨_, rfl, ownV_sli OW.out, HB.out.trans (BW.out.mono BS.out)⟩
theorem ppath_any (p : Nat) (z : Int) (w : World) (h1 : p ≤ 216) : Calls Tryd.prog 29 #[.agg (psC p), .int .i64 z] w (IEnd w (WZ p z)) := by
  unfold WZ
  by_cases h : 0 ≤ z ∧ z < (p : Int)
  · rw [if_pos h]
    obtain ⟨x, rfl⟩ : ∃ x : Nat, z = (x : Int) := ⟨z.toNat, by omega⟩
    rw [Int.toNat_natCast]
    exact ppath_in p x w (by omega) h1 (by omega)
  · rw [if_neg h]; exact ppath_out p z w h1 h
end Sha
end Go.Proofs.YtajdpbbbocnfiaaDoor
