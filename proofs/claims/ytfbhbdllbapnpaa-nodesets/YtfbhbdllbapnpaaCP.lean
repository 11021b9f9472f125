/- Layer 13: NodeParses, over the contracts. -/
import Derived.Test.YtfbhbdllbapnpaaCL
namespace Go.Proofs.Ytfbhbdllbapnpaa
namespace Sha
open Go.RowKit Mem
set_option maxRecDepth 100000
theorem parseN_wf (p : List (BitVec 8)) (z : Int) : (∀ r ∈ (parseN p z).1, r.Wf) ∧ (parseN p z).1.length ≤ 6 := by
  unfold parseN
  split
  · exact ⟨fun r hr => by (cases hr), by decide⟩
  · split
    · exact ⟨fun r hr => by (cases hr), by decide⟩
    · exact ⟨allN_wf p, allN_le p⟩
theorem set_wf {L : List RefV} {i : Nat} {r : RefV} (h : ∀ x ∈ L, x.Wf) (hr : r.Wf) : ∀ x ∈ L.set i r, x.Wf := fun x hx => by
  rcases List.mem_or_eq_of_mem_set hx with a | a
  · exact h x a
  · rw [a]; exact hr
theorem setN_short (p : List (BitVec 8)) (z : Int) (r : RefV) (hr : r.Wf) : (setN p z r).1.length ≤ 256 := by
  unfold setN
  split
  · exact Nat.zero_le _
  · exact layN_short _ (set_wf (allN_wf p) hr)
theorem sameRf_self (L : List RefV) : sameRf L L = true := (sameRf_iff L L).2 rfl
set_option maxHeartbeats 2000000 in
theorem parses13_core (S : NodeP) (p : List (BitVec 8)) (v : Value) (z : Int) (r : RefV) (w : World) (hv : Sl w v p) (hr : r.Wf) : Calls Try.prog 4 #[v, .int .i64 z, .agg (refC r)] w fun e w' => e = .returned (.bool true) ∧ Below w.heap.size w w' := by
  have AL := Lib.hid (fun wx => alive13_any S wx)
  have rb : Below w.heap.size w (w.alloc (.cells (refC r) 37)) := (Below.refl _ _).alloc (Nat.le_refl _) _
  have ra := at_new w (refC r) 37
  have rsz := refC_size hr
  by_cases h600 : 600 < p.length
  · obtain ⟨a, c, rfl⟩ := sl_inv hv
    obtain ⟨n, hn⟩ : ∃ n, n = p.length := ⟨_, rfl⟩
    obtain ⟨M, hM⟩ : ∃ M, M = refC r := ⟨_, rfl⟩
    rw [← hM] at rb rsz ⊢
    rw [← hn] at h600 ⊢
    have g : (600 : Int) < (n : Int) := by omega
    have RB := Lib.hid rb; have RSZ := Lib.hid rsz
    clear hv hn h600 ra rb hM hr rsz
    go_enter Try.func4, Try.ntmps4
    go_wp2_with fail
    refine (AL.out _).mono ?_
    rintro e w2 ⟨rfl, hb2⟩
    have B2 := Lib.hid (RB.out.trans (hb2.mono RB.out.size))
    clear hb2
    go_wp2_with fail
    go_ret
    exact ⟨rfl, B2.out⟩
  · have hl : p.length ≤ 1000 := by omega
    have pp := fun vx wx h => S.parse p z vx wx h hl
    have rp := fun vx wx h => rparseN_any p z vx wx h hl
    have pg := fun vx wx h => S.get p z vx wx h hl
    have rg := fun vx wx h => rgetN_any p z vx wx h hl
    have ps := fun vx wx h => S.set p z r vx wx hr h hl
    have rs := fun vx wx h => rsetN_any p z r hr vx wx h hl
    obtain ⟨kwf, kl⟩ := parseN_wf p z
    have gw := getN_wf p z
    have ge := eqlRR gw gw
    rw [sameRef_self] at ge
    have gsz := refC_size gw; have gone := refC_one (getN p z).1
    have slen := setN_short p z r hr
    obtain ⟨K, hK⟩ : ∃ K, K = (parseN p z).1 := ⟨_, rfl⟩
    obtain ⟨n1, hn1⟩ : ∃ n, n = (parseN p z).2 := ⟨_, rfl⟩
    obtain ⟨n2, hn2⟩ : ∃ n, n = (getN p z).2 := ⟨_, rfl⟩
    obtain ⟨q, hq⟩ : ∃ q, q = (setN p z r).1 := ⟨_, rfl⟩
    obtain ⟨n3, hn3⟩ : ∃ n, n = (setN p z r).2 := ⟨_, rfl⟩
    unfold RNEnd at pg rg
    obtain ⟨G, hG⟩ : ∃ G, G = refC (getN p z).1 := ⟨_, rfl⟩
    rw [← hK, ← hn1] at pp rp
    rw [← hK] at kwf kl
    rw [← hG, ← hn2] at pg rg
    rw [← hG] at ge gsz gone
    rw [← hq, ← hn3] at ps rs
    rw [← hq] at slen
    have sk := fun va vb wx (h1 : SlRf wx va K) (h2 : SlRf wx vb K) => same13_any K K va vb wx h1 h2 kwf kwf (by omega) (by omega)
    rw [sameRf_self] at sk
    have sm := fun va vb wx (h1 : Sl wx va q) (h2 : Sl wx vb q) => same_any q q va vb wx h1 h2 (by omega) (by omega)
    rw [sameB_self] at sm
    obtain ⟨M, hM⟩ : ∃ M, M = refC r := ⟨_, rfl⟩
    rw [← hM] at rb rsz ra ps rs ⊢
    have VB := Lib.hid (hv.below rb)
    obtain ⟨a, c, rfl⟩ := sl_inv hv
    obtain ⟨n, hn⟩ : ∃ n, n = p.length := ⟨_, rfl⟩
    rw [← hn] at h600 VB ⊢
    have g : ¬ (600 : Int) < (n : Int) := by omega
    have zsz : (refC zref).size = 34 := refC_size zref_wf
    have zr := zeroRfR; have zp := zeroRfP
    obtain ⟨Z, hZ⟩ : ∃ Z, Z = refC zref := ⟨_, rfl⟩
    rw [← hZ] at zsz zr zp
    have PP := Lib.hid pp; have RP := Lib.hid rp; have PG := Lib.hid pg; have RG := Lib.hid rg; have PS := Lib.hid ps; have RS := Lib.hid rs; have GE := Lib.hid ge; have GSZ := Lib.hid gsz; have GONE := Lib.hid gone; have SK := Lib.hid sk; have SM := Lib.hid sm; have RSZ := Lib.hid rsz; have ZSZ := Lib.hid zsz; have ZR := Lib.hid zr; have ZP := Lib.hid zp
    have RB := Lib.hid rb; have RA := Lib.hid ra
    clear hv hn h600 hl pp rp pg rg ps rs kwf kl gw ge gsz gone slen hK hn1 hn2 hq hn3 hG sk sm hM rb rsz ra zsz zr zp hZ hr
    go_enter Try.func4, Try.ntmps4
    go_upto_region 1 with fail
    obtain ⟨gm, hgm⟩ : ∃ g, g = w.heap.size := ⟨_, rfl⟩
    have HGM := Lib.hid hgm
    obtain ⟨w1, hw1⟩ : ∃ w1, w1 = w.alloc (.cells M 37) := ⟨_, rfl⟩
    rw [← hw1] at RA RB VB ⊢
    rw [← hgm] at RA ⊢
    clear hw1 hgm
    go_wp2_with fail
    refine (PP.out _ _ VB.out).mono ?_
    rintro e w2 ⟨v2, rfl, hs2, hb⟩
    have K2 := Lib.hid hs2; have B2 := Lib.hid (RB.out.trans (hb.mono RB.out.size)); have V2 := Lib.hid (VB.out.below hb); have M2 := Lib.hid (RA.out.below hb RA.out.lt)
    clear hs2 hb VB RB RA
    go_wp2_with fail
    refine (RP.out _ _ V2.out).mono ?_
    rintro e w3 ⟨v3, rfl, hs3, hb⟩
    have L3 := Lib.hid hs3; have K3 := Lib.hid (K2.out.below hb); have B3 := Lib.hid (B2.out.trans (hb.mono B2.out.size)); have V3 := Lib.hid (V2.out.below hb); have M3 := Lib.hid (M2.out.below hb M2.out.lt)
    clear hs3 hb K2 B2 V2 M2
    have hx := ZP.out
    go_upto_region 6 with (first
      | (go_at_call 14; refine (PG.out _ _ V3.out).mono ?_; rintro e w4 ⟨rfl, hb⟩; have L4 := Lib.hid (L3.out.below hb); have K4 := Lib.hid (K3.out.below hb); have B4 := Lib.hid (B3.out.trans (hb.mono B3.out.size)); have V4 := Lib.hid (V3.out.below hb); have M4 := Lib.hid (M3.out.below hb M3.out.lt); clear hb)
      | (refine wpList_store_new (by rfl) 42 _ _ (by rfl) (by rfl) G _ _ (by rfl) (by rfl) (by rw [GSZ.out]; exact infoRfP) (by rw [GSZ.out, ZSZ.out]) GONE.out ?_))
    clear hx
    have hb5 : Below w4.heap.size w4 (w4.alloc (.cells G 42)) := (Below.refl _ _).alloc (Nat.le_refl _) _
    have G5 := Lib.hid (at_new w4 G 42)
    have L5 := Lib.hid (L4.out.below hb5); have K5 := Lib.hid (K4.out.below hb5); have B5 := Lib.hid (B4.out.trans (hb5.mono B4.out.size)); have V5 := Lib.hid (V4.out.below hb5); have M5 := Lib.hid (M4.out.below hb5 M4.out.lt)
    obtain ⟨g5, hg5⟩ : ∃ g, g = w4.heap.size := ⟨_, rfl⟩
    rw [← hg5] at G5 ⊢
    clear hb5 hg5 L4 K4 B4 V4 M4 L3 K3 B3 V3 M3
    generalize (w4.alloc (.cells G 42)) = w5 at *
    have hx := ZR.out
    go_upto_region 7 with (first
      | (go_at_call 15; refine (RG.out _ _ V5.out).mono ?_; rintro e w6 ⟨rfl, hb⟩; have L6 := Lib.hid (L5.out.below hb); have K6 := Lib.hid (K5.out.below hb); have B6 := Lib.hid (B5.out.trans (hb.mono B5.out.size)); have V6 := Lib.hid (V5.out.below hb); have M6 := Lib.hid (M5.out.below hb M5.out.lt); have G6 := Lib.hid (G5.out.below hb G5.out.lt); clear hb)
      | (refine wpList_store_new (by rfl) 37 _ _ (by rfl) (by rfl) G _ _ (by rfl) (by rfl) (by rw [GSZ.out]; exact infoRfR) (by rw [GSZ.out, ZSZ.out]) GONE.out ?_))
    clear hx
    have hb7 : Below w6.heap.size w6 (w6.alloc (.cells G 37)) := (Below.refl _ _).alloc (Nat.le_refl _) _
    have H7 := Lib.hid (at_new w6 G 37)
    have L7 := Lib.hid (L6.out.below hb7); have K7 := Lib.hid (K6.out.below hb7); have B7 := Lib.hid (B6.out.trans (hb7.mono B6.out.size)); have V7 := Lib.hid (V6.out.below hb7); have M7 := Lib.hid (M6.out.below hb7 M6.out.lt); have G7 := Lib.hid (G6.out.below hb7 G6.out.lt)
    obtain ⟨g7, hg7⟩ : ∃ g, g = w6.heap.size := ⟨_, rfl⟩
    rw [← hg7] at H7 ⊢
    clear hb7 hg7 L6 K6 B6 V6 M6 G6 L5 K5 B5 V5 M5 G5
    generalize (w6.alloc (.cells G 37)) = w7 at *
    go_wp2_with (refine wpList_load_all (by rfl) 37 _ (by rfl) gm (by rfl) _ Try.underlying37 (by rfl) M _ M7.out (by rw [RSZ.out]; exact infoRfR) ?_)
    refine (PS.out _ _ V7.out).mono ?_
    rintro e w8 ⟨v8, rfl, hs8, hb⟩
    have X8 := Lib.hid hs8; have L8 := Lib.hid (L7.out.below hb); have K8 := Lib.hid (K7.out.below hb); have B8' := Lib.hid (B7.out.trans (hb.mono B7.out.size)); have V8 := Lib.hid (V7.out.below hb); have M8 := Lib.hid (M7.out.below hb M7.out.lt); have G8 := Lib.hid (G7.out.below hb G7.out.lt); have H8 := Lib.hid (H7.out.below hb H7.out.lt)
    clear hs8 hb L7 K7 B7 V7 M7 G7 H7
    go_wp2_with (refine wpList_load_all (by rfl) 37 _ (by rfl) gm (by rfl) _ Try.underlying37 (by rfl) M _ M8.out (by rw [RSZ.out]; exact infoRfR) ?_)
    refine (RS.out _ _ V8.out).mono ?_
    rintro e w9 ⟨v9, rfl, hs9, hb⟩
    have Y9 := Lib.hid hs9; have X9 := Lib.hid (X8.out.below hb); have L9 := Lib.hid (L8.out.below hb); have K9 := Lib.hid (K8.out.below hb); have B9 := Lib.hid (B8'.out.trans (hb.mono B8'.out.size)); have G9 := Lib.hid (G8.out.below hb G8.out.lt); have H9 := Lib.hid (H8.out.below hb H8.out.lt)
    clear hs9 hb L8 K8 B8' V8 M8 G8 H8 X8
    go_wp2_with fail
    refine (SK.out _ _ _ K9.out L9.out).mono ?_
    rintro e wa ⟨rfl, hb⟩
    have Ya := Lib.hid (Y9.out.below hb); have Xa := Lib.hid (X9.out.below hb); have Ba := Lib.hid (B9.out.trans (hb.mono B9.out.size)); have Ga := Lib.hid (G9.out.below hb G9.out.lt); have Ha := Lib.hid (H9.out.below hb H9.out.lt)
    clear hb L9 K9 B9 G9 H9 X9 Y9
    go_wp2_with (first
      | (refine wpList_load_wanted (by rfl) 42 _ (by rfl) g5 (by rfl) _ Try.underlying42 (by rfl) G _ Ga.out (by rw [GSZ.out]; exact infoRfP) ?_)
      | (refine wpList_load_wanted (by rfl) 37 _ (by rfl) g7 (by rfl) _ Try.underlying37 (by rfl) G _ Ha.out (by rw [GSZ.out]; exact infoRfR) ?_)
      | (refine wpList_bin (by rfl) .eql 37 37 _ _ (.agg G) (.agg G) (.bool true) (by rfl) (by rfl) (by rfl) (fun wx => GE.out _ _ wx) ?_))
    refine (SM.out _ _ _ Xa.out Ya.out).mono ?_
    rintro e wb ⟨rfl, hb⟩
    have Bb := Lib.hid (Ba.out.trans (hb.mono Ba.out.size))
    clear hb Ba Xa Ya Ga Ha
    go_wp2_with fail
    refine (AL.out _).mono ?_
    rintro e wc ⟨rfl, hb⟩
    have Bc := Lib.hid (Bb.out.trans (hb.mono Bb.out.size))
    clear hb Bb
    go_wp2_with fail
    go_ret
    exact ⟨rfl, Bc.out⟩
end Sha
end Go.Proofs.Ytfbhbdllbapnpaa
