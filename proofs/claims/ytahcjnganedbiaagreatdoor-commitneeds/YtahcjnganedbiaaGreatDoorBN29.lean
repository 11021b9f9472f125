/- The program's reader of a node's page: a struct of its references. The program's Lay of a node's page: the count, the references put behind it, filled up. -/
import Derived.Test.YtahcjnganedbiaaGreatDoorBN22
import Derived.Test.YtahcjnganedbiaaGreatDoorBN09
import Derived.Great.Walk
import Derived.Test.YtahcjnganedbiaaGreatDoorBN20
import Derived.BigQuiet
import Derived.Test.YtahcjnganedbiaaGreatDoorBN17
namespace Go.Proofs.YtahcjnganedbiaaGreatDoor
namespace Sha
open Go.RowKit Mem
set_option maxRecDepth 100000
theorem isMany_any (z : Int) (w : World) : Calls Tryz.prog 95 #[.int .i64 z] w fun e w' => e = .returned (.bool (decide (1 ≤ z ∧ z ≤ 6))) ∧ w' = w := by
 by_cases h1 : 1 ≤ z
 ·by_cases h6 : z ≤ 6
  ·rw [decide_eq_true ⟨h1, h6⟩]
   go_enter Tryz.func95, Tryz.ntmps95
   go_wp2_with fail
   go_ret
   exact ⟨rfl, rfl⟩
  ·rw [decide_eq_false (fun h => h6 h.2)]
   go_enter Tryz.func95, Tryz.ntmps95
   go_wp2_with fail
   go_ret
   exact ⟨rfl, rfl⟩
 ·rw [decide_eq_false (fun h => h1 h.1)]
  go_enter Tryz.func95, Tryz.ntmps95
  go_wp2_with fail
  go_ret
  exact ⟨rfl, rfl⟩
structure TInv (w : World) (br bt : Nat) (Z C : Array Value) (b : List (BitVec 8)) (e : Nat) (W : World) : Prop where
 r : RPk W br b e
 ar : At W w.heap.size Z 206
 ag : At W bt C 206
 l : Below w.heap.size w W
 o1 : w.heap.size < br
 o2 : br < bt
section
variable {w W W' : World} {br bt : Nat} {Z C C' : Array Value} {b b' : List (BitVec 8)} {e e' : Nat}
theorem TInv.call (h : TInv w br bt Z C b e W) (hp : PkEnd RPk W br b' e' W') : TInv w br bt Z C b' e' W' :=
 ⟨hp.r, h.ar.but hp.o (by have := h.o1; omega), h.ag.but hp.o (by have := h.o2; omega), hp.k _ _ h.l (by have := h.o1; omega), h.o1, h.o2⟩
theorem TInv.below (h : TInv w br bt Z C b e W) (hb : Below W.heap.size W W') : TInv w br bt Z C b e W' :=
 ⟨h.r.below hb, h.ar.below hb h.ar.lt, h.ag.below hb h.ag.lt, h.l.trans (hb.mono h.l.size), h.o1, h.o2⟩
theorem TInv.row (h : TInv w br bt Z C b e W) (D : Array Value) : TInv w br bt Z D b e (W.setRow bt D) := by
 have hs : But bt W (W.setRow bt D) := ⟨by simp, fun k _ hne => setRow_other W bt k D hne⟩
 exact ⟨h.r.above hs h.o2, h.ar.but hs (by have := h.o1; have := h.o2; omega), h.ag.row D, below_row h.l (by have := h.o1; have := h.o2; omega) D, h.o1, h.o2⟩
end
end Sha
end Go.Proofs.YtahcjnganedbiaaGreatDoor
namespace Go.Proofs.YtahcjnganedbiaaGreatDoor
namespace Sha
open Go.RowKit Mem
set_option maxRecDepth 100000
theorem isPlace_any (z : Int) (w : World) : Calls Tryz.prog 97 #[.int .i64 z] w fun e w' => e = .returned (.bool (decide (0 ≤ z ∧ z ≤ 1))) ∧ w' = w := by
 by_cases h1 : 0 ≤ z
 ·by_cases h6 : z ≤ 1
  ·rw [decide_eq_true ⟨h1, h6⟩]
   go_enter Tryz.func97, Tryz.ntmps97
   go_wp2_with fail
   go_ret
   exact ⟨rfl, rfl⟩
  ·rw [decide_eq_false (fun h => h6 h.2)]
   go_enter Tryz.func97, Tryz.ntmps97
   go_wp2_with fail
   go_ret
   exact ⟨rfl, rfl⟩
 ·rw [decide_eq_false (fun h => h1 h.1)]
  go_enter Tryz.func97, Tryz.ntmps97
  go_wp2_with fail
  go_ret
  exact ⟨rfl, rfl⟩
theorem body_first (L : List RefV) : ([] : List (BitVec 8)) ++ nbytes L.length 1 = bodyN L 0 := by
 simp [bodyN, nbytes, nbyte, List.range_succ]
set_option maxHeartbeats 2000000 in
theorem play13_many (L : List RefV) (v : Value) (w : World) (hv : SlRf w v L) (hw : ∀ r ∈ L, r.Wf) (h1 : 1 ≤ L.length) (h6 : L.length ≤ 6) : Calls Tryz.prog 74 #[v] w (SealEnd w (layN L).1 (layN L).2) := by
 have hgood := layN_good h1 h6
 have hbad := fun i hi h => layN_place (L := L) i hi h
 obtain ⟨Y, hY⟩ : ∃ Y, Y = layN L := ⟨_, rfl⟩
 rw [← hY] at hgood hbad ⊢
 have hgw := fun i => getD_wf hw i
 have hrl := fun i wx => play9_any (L.getD i zref) (hgw i) wx
 have hrll := fun i => layRf_length (hgw i)
 have hbl := fun i (hi : i ≤ L.length) => bodyN_length L i hw hi
 have hbs := fun i (hi : i < L.length) => bodyN_succ L i hi
 have hfill : ∀ u wx, Sl wx u (bodyN L L.length) → Calls Tryz.prog 99 #[u, .int .i64 256] wx (TwoOwn wx (bodyN L L.length ++ List.replicate (256 - (1 + 37 * L.length)) 0) 0) := fun u wx h => by
  have hf := pfill_own (bodyN L L.length) 256 u wx h (by rw [hbl _ (Nat.le_refl _)]; omega) (by decide)
  unfold fillB at hf
  rw [hbl _ (Nat.le_refl _)] at hf
  exact hf
 have hnum := fun u wx h => num1_any [] L.length u wx h (by decide) (by omega)
 rw [body_first] at hnum
 obtain ⟨F, hF⟩ : ∃ F, F = bodyN L L.length ++ List.replicate (256 - (1 + 37 * L.length)) 0 := ⟨_, rfl⟩
 rw [← hF] at hgood hfill
 have hb0 : (bodyN L 0).length = 1 := hbl 0 (Nat.zero_le _)
 obtain ⟨a, c, rfl⟩ := hv.hd
 obtain ⟨n, hn⟩ : ∃ n, n = L.length := ⟨_, rfl⟩
 rw [← hn] at hv h1 h6 hgood hbad hbl hbs hfill hnum ⊢
 have im := fun wx => isMany_any (n : Int) wx
 rw [decide_eq_true (⟨by omega, by omega⟩ : 1 ≤ (n : Int) ∧ (n : Int) ≤ 6)] at im
 have cv := fun wx => conv_iu64 (n : Int) n (by omega) wx
 have zsz : (refC zref).size = 34 := refC_size zref_wf
 have hx0 := zeroRfP
 obtain ⟨Z, hZ⟩ : ∃ Z, Z = refC zref := ⟨_, rfl⟩
 rw [← hZ] at zsz hx0
 have HV := zh hv; have GOOD := zh hgood; have BAD := zh hbad; have GW := zh hgw; have RL := zh hrl; have RLL := zh hrll; have HN := zh hn; have BL := zh hbl; have BS := zh hbs; have FILL := zh hfill; have NUM := zh hnum; have ZSZ := zh zsz; have HX := zh hx0; have IM := zh im; have CV := zh cv; have B0 := zh hb0
 clear hv hgood hbad hgw hrl hrll hn hbl hbs hfill hnum hF hY hw zsz hx0 hZ im cv hb0
 go_enter Tryz.func74, Tryz.ntmps74
 go_wp2_with fail
 refine (IM.out _).mono ?_
 rintro e w1 ⟨rfl, rfl⟩
 go_wp2_with (refine wpList_conv zr _ _ _ _ (.int .u64 (n : Int)) zr zr CV.out ?_)
 refine (NUM.out _ _ (sl_none _)).mono ?_
 rintro e w3 ⟨g, rfl, ha, hg, hb⟩
 have B3 := zh hb
 have O3 : Hid (OwnB w3 w1.heap.size (.slice (some ⟨g, 0, none⟩) 1 1) (bodyN L 0)) := zh (by
  have h := own_fulls ha hg (by rw [B0.out]; decide)
  rw [B0.out] at h
  exact h)
 rw [B0.out]
 clear ha hg hb
 go_upto_region 5 with fail
 go_loopw [4, 17] (fun vb vi wr => ∃ i : Nat, i ≤ n ∧ vi = .int .i64 (i : Int) ∧ OwnB wr w1.heap.size vb (bodyN L i) ∧ (∀ k, k < i → plOk (L.getD k zref) = true) ∧ Below w1.heap.size w1 wr) (fun _ vi _ => n - (intOf vi).toNat)
 case atStart => exact ⟨0, by omega, rfl, O3.out, fun k hk => by omega, B3.out⟩
 case round =>
  obtain ⟨i, hi, rfl, ho, hpl, hbw⟩ := hrel
  have OW := zh ho; have BW := zh hbw; have PL := zh hpl; have VW := zh (HV.out.below hbw)
  clear ho hbw hpl
  by_cases hlt : i < n
  ·have hlt2 : (i : Int) < (n : Int) := by omega
   obtain ⟨b, o, ea, _, hr⟩ := slrf_at (i := i) VW.out HN.out hlt
   subst ea
   have hok : plOk (L.getD i zref) = decide (0 ≤ (L.getD i zref).pl ∧ (L.getD i zref).pl ≤ 1) := rfl
   have hwi := GW.out i
   have hrli := RL.out i
   have hrll := RLL.out i
   have hbd := BAD.out i hlt
   have hbs := BS.out i hlt
   have hbl := BL.out i hi
   obtain ⟨r, hr0⟩ : ∃ r, r = L.getD i zref := ⟨_, rfl⟩
   have hgi : plOk r = true → ∀ k, k < i + 1 → plOk (L.getD k zref) = true := fun h k hk => by
    rcases Nat.lt_or_ge k i with x | x
    ·exact PL.out k x
    ·rw [show k = i by omega, ← hr0]; exact h
   rw [← hr0] at hr hok hwi hrli hrll hbd hbs
   have rc0 := ref0 r
   have ip := fun wx => isPlace_any r.pl wx
   rw [← hok] at ip
   obtain ⟨pl, hp⟩ : ∃ pl, pl = r.pl := ⟨_, rfl⟩
   rw [← hp] at rc0 ip
   obtain ⟨q, hq⟩ : ∃ q, q = plOk r := ⟨_, rfl⟩
   rw [← hq] at ip hbd hgi
   have msz := refC_size hwi; have mone := refC_one r
   obtain ⟨M, hM⟩ : ∃ M, M = refC r := ⟨_, rfl⟩
   have hrg : wr.rangeAt b (o + i * 34) M.toList := by rw [hM]; exact hr
   rw [← hM] at rc0 msz mone hrli
   have RLI := zh hrli; have HBD := zh hbd; have HGI := zh hgi; have HRL := zh hrll; have HBS := zh hbs; have HBL := zh hbl; have RC0 := zh rc0; have MSZ := zh msz; have MONE := zh mone; have RG := zh hrg; have IP := zh ip
   have hb5 : Below wr.heap.size wr (wr.alloc (.cells M 69)) := (Below.refl _ _).alloc (Nat.le_refl _) _
   have A5 := zh (at_new wr M 69); have O5 := zh (ownsRow_below OW.out hb5); have B5 := zh (BW.out.alloc BW.out.size (.cells M 69))
   clear hr hok hrli hrll hbd hbs hbl hr0 hgi hp rc0 msz mone hM hrg hb5 hwi ip hq
   have hx := HX.out
   go_upto_region 7 with (first
    | (refine wpList_load_mid zr 69 _ zr b (o + i * 34) zr M.toList _ RG.out Tryz.underlying69 zr (by rw [infoRfP, Array.length_toList, MSZ.out]) ?_; rw [Array.toArray_toList])
    | (refine wpList_store_new zr 69 _ _ zr zr M _ _ zr zr (by rw [MSZ.out]; exact infoRfP) (by rw [MSZ.out, ZSZ.out]) MONE.out ?_))
   clear hx
   obtain ⟨l, hl⟩ : ∃ l, l = wr.heap.size := ⟨_, rfl⟩
   rw [← hl] at A5 ⊢
   clear hl
   generalize (wr.alloc (.cells M 69)) = w5 at *
   have cp : w5.cell? ⟨l, 0, none⟩ = some (.int .i64 pl) := (A5.out.cell 0).trans RC0.out
   go_wp2_with fail
   refine (IP.out _).mono ?_
   rintro e w6 ⟨rfl, rfl⟩
   clear cp
   cases q
   ·have HY := zh (HBD.out rfl)
    go_wp2_with fail
    go_ret2
    exact ⟨_, by rw [HY.out]; rfl, by rw [HY.out]; exact sl_none _, B5.out⟩
   ·have HG2 := zh (HGI.out rfl)
    go_wp2_with (refine wpList_load_all zr 69 _ zr l zr _ Tryz.underlying69 zr M _ A5.out (by rw [MSZ.out]; exact infoRfP) ?_)
    refine (RLI.out _).mono ?_
    rintro e w7 ⟨v7, rfl, hs7, hb7⟩
    have S7 := zh hs7; have O7 := zh (ownsRow_below O5.out hb7); have B7 : Hid (Below w1.heap.size w1 w7) := zh (B5.out.trans (hb7.mono B5.out.size))
    clear hs7 hb7
    go_wp2_with (at_builtin; go_loud (refine wpList_append_bytes zr _ _ zr w1.heap.size u4 v7 (bodyN L i) (layRf r) zr O7.out zr S7.out (by rw [HBL.out, HRL.out]; omega) B7.out.size ?_); intro v9 w9 ho9 _ hb9; have O9 : Hid (OwnB w9 w1.heap.size v9 (bodyN L (i + 1))) := zh (by rw [HBS.out]; exact ho9); have B9 := zh (B7.out.trans hb9); clear ho9 hb9)
    go_roundw
    case rel => exact ⟨i + 1, by omega, by go_num, O9.out, HG2.out, B9.out⟩
    case measure => simp [intOf]; omega
  ·have hin : i = n := by omega
   subst hin
   have hge : ¬ (i : Int) < (i : Int) := by omega
   have HY := zh (GOOD.out PL.out)
   have SW := zh OW.out.sl
   go_wp2_with fail
   refine (FILL.out _ _ SW.out).mono ?_
   rintro e w6 ⟨g6, rfl, ha6, _, hb6⟩
   have S6 := zh (at_sl ha6 rfl); have B6 : Hid (Below w1.heap.size w1 w6) := zh (BW.out.trans (hb6.mono BW.out.size))
   clear ha6 hb6
   go_wp2_with fail
   go_ret2
   exact ⟨_, by rw [HY.out]; rfl, by rw [HY.out]; exact S6.out, B6.out⟩
set_option maxHeartbeats 1000000 in
theorem play13_any (L : List RefV) (v : Value) (w : World) (hv : SlRf w v L) (hw : ∀ r ∈ L, r.Wf) : Calls Tryz.prog 74 #[v] w (SealEnd w (layN L).1 (layN L).2) := by
 by_cases h : 1 ≤ L.length ∧ L.length ≤ 6
 ·exact play13_many L v w hv hw h.1 h.2
 ·have hy : layN L = ([], 1) := layN_few (by omega)
  obtain ⟨Y, hY⟩ : ∃ Y, Y = layN L := ⟨_, rfl⟩
  rw [← hY] at hy ⊢
  obtain ⟨a, c, rfl⟩ := hv.hd
  obtain ⟨n, hn⟩ : ∃ n, n = L.length := ⟨_, rfl⟩
  rw [← hn] at h ⊢
  have im := isMany_any (n : Int) w
  rw [decide_eq_false (fun g : 1 ≤ (n : Int) ∧ (n : Int) ≤ 6 => h (by omega))] at im
  have HY := zh hy; have IM := zh im
  clear hy hY hv hw h hn im
  go_enter Tryz.func74, Tryz.ntmps74
  go_wp2_with fail
  refine IM.out.mono ?_
  rintro e w1 ⟨rfl, rfl⟩
  go_wp2_with fail
  go_ret2
  exact ⟨_, by rw [HY.out]; rfl, by rw [HY.out]; exact sl_none _, Below.refl _ _⟩
end Sha
end Go.Proofs.YtahcjnganedbiaaGreatDoor
