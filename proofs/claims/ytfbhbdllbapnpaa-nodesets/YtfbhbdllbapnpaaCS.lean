/- Layer 13: NodeSets, over the contracts. -/
import Derived.Test.YtfbhbdllbapnpaaCB
namespace Go.Proofs.Ytfbhbdllbapnpaa
namespace Sha
open Go.RowKit Mem
set_option maxRecDepth 100000
theorem neqRP {a b : RefV} (ha : a.Wf) (hb : b.Wf) (x y : Operand) (w : World) : (do eqGuard .neq 42 x y (.agg (refC a)) (.agg (refC b)); binOp .neq 42 (.agg (refC a)) (.agg (refC b)) : Sem Value).run Try.prog w = .ok (.bool (!sameRef a b)) w :=
  (eqlRf _ (by kernel_rfl) (by kernel_rfl) (by kernel_rfl) (by kernel_rfl) ha hb x y w).2
theorem neqP_self {a : RefV} (ha : a.Wf) (x y : Operand) (w : World) : (do eqGuard .neq 42 x y (.agg (refC a)) (.agg (refC a)); binOp .neq 42 (.agg (refC a)) (.agg (refC a)) : Sem Value).run Try.prog w = .ok (.bool false) w := by
  have h := neqRP ha ha x y w
  rw [sameRef_self] at h
  exact h
/-- What Set tells of a page that was laid. -/
theorem set_laid {L : List RefV} {q : List (BitVec 8)} (hw : ∀ x ∈ L, x.Wf) (h : layN L = (q, 0)) (z : Int) (r : RefV) :
    (∃ (i : Nat) (y : List (BitVec 8)), z = (i : Int) ∧ i < L.length ∧ setN q z r = (y, 0) ∧ layN (L.set i r) = (y, 0)) ∨ (setN q z r = ([], 1) ∧ (z < 0 ∨ (L.length : Int) ≤ z ∨ r.pl < 0 ∨ 1 < r.pl)) := by
  have ha := lay_all hw h
  have hok := layN_ok h
  have hg : getN q z = if z < 0 ∨ (L.length : Int) ≤ z then (zref, 1) else (L.getD z.toNat zref, 0) := by
    unfold getN
    rw [ha, if_neg (fun x => x rfl)]
  by_cases hz : z < 0 ∨ (L.length : Int) ≤ z
  · right
    rw [if_pos hz] at hg
    refine ⟨?_, by rcases hz with a | a; exact .inl a; exact .inr (.inl a)⟩
    unfold setN
    rw [hg, if_pos (by decide)]
  · obtain ⟨i, rfl⟩ : ∃ i : Nat, z = (i : Int) := ⟨z.toNat, by omega⟩
    rw [if_neg hz] at hg
    have hs : setN q (i : Int) r = layN (L.set i r) := by
      unfold setN
      rw [hg, if_neg (fun x => x rfl), ha, Int.toNat_natCast]
    by_cases hp : plOk r = true
    · left
      have hall : (L.set i r).all plOk = true := by
        rw [List.all_eq_true]
        intro x hx
        rcases List.mem_or_eq_of_mem_set hx with a | a
        · exact List.all_eq_true.1 hok.2.1 x a
        · rw [a]; exact hp
      refine ⟨i, (layN (L.set i r)).1, rfl, by omega, ?_, ?_⟩
      · rw [hs]
        unfold layN
        rw [if_neg (by rw [List.length_set, hall]; rintro (a | a | a); omega; omega; cases a)]
      · unfold layN
        rw [if_neg (by rw [List.length_set, hall]; rintro (a | a | a); omega; omega; cases a)]
    · right
      have hp2 : r.pl < 0 ∨ 1 < r.pl := by
        have : ¬ (0 ≤ r.pl ∧ r.pl ≤ 1) := fun x => hp (decide_eq_true x)
        omega
      refine ⟨?_, .inr (.inr hp2)⟩
      rw [hs]
      refine layN_place i (by rw [List.length_set]; omega) ?_
      have e : (L.set i r).getD i zref = r := by simp [List.getD_eq_getElem?_getD, show i < L.length by omega]
      rw [e]
      cases hq : plOk r
      · rfl
      · exact absurd hq hp
set_option maxHeartbeats 1000000 in
theorem sets13_big (S : NodeP) (L : List RefV) (v : Value) (z : Int) (r : RefV) (w : World) (h0 : SlRf w v L) (h : 100 < L.length) : Calls Try.prog 6 #[v, .int .i64 z, .agg (refC r)] w fun e w' => e = .returned (.bool true) ∧ Below w.heap.size w w' := by
  have AL := Lib.hid (fun wx => alive13_any S wx)
  have rb : Below w.heap.size w (w.alloc (.cells (refC r) 37)) := (Below.refl _ _).alloc (Nat.le_refl _) _
  obtain ⟨a, c, rfl⟩ := h0.hd
  obtain ⟨n, hn⟩ : ∃ n, n = L.length := ⟨_, rfl⟩
  rw [← hn] at h
  rw [← hn]
  obtain ⟨M, hM⟩ : ∃ M, M = refC r := ⟨_, rfl⟩
  rw [← hM] at rb ⊢
  have g2 : (100 : Int) < (n : Int) := by omega
  have RB := Lib.hid rb
  clear h0 h hn hM rb
  go_enter Try.func6, Try.ntmps6
  go_wp2_with fail
  refine (AL.out _).mono ?_
  rintro e w2 ⟨rfl, hb2⟩
  have B2 := Lib.hid (RB.out.trans (hb2.mono RB.out.size))
  clear hb2
  go_wp2_with fail
  go_ret
  exact ⟨rfl, B2.out⟩
set_option maxHeartbeats 4000000 in
theorem sets13_rest (S : NodeP) (L : List RefV) (v : Value) (z : Int) (r : RefV) (w : World) (h0 : SlRf w v L) (hw : ∀ x ∈ L, x.Wf) (hr : r.Wf) (hl : L.length ≤ 100) : Calls Try.prog 6 #[v, .int .i64 z, .agg (refC r)] w fun e w' => e = .returned (.bool true) ∧ Below w.heap.size w w' := by
  have AL := Lib.hid (fun wx => alive13_any S wx)
  have rb : Below w.heap.size w (w.alloc (.cells (refC r) 37)) := (Below.refl _ _).alloc (Nat.le_refl _) _
  have ra := at_new w (refC r) 37
  have rsz := refC_size hr
  have rc0 := ref0 r
  have th := fun vx wx h => theirs13_any L vx wx h hw (by omega)
  have pl := fun vx wx h => S.lay L vx wx h hw (by omega)
  have hbad : (layN L).2 = 1 → layN L = ([], 1) := fun h => layN_bad (by rw [h]; decide)
  have hset := fun q h => set_laid (q := q) hw h z r
  have hlen := fun q h => layN_length (p := q) hw h
  have ps := fun q (hq : q.length ≤ 1000) vx wx h => S.set q z r vx wx hr h hq
  have hgp := fun i => getD_wf hw i
  have hswf := fun i => set_wf (i := i) hw hr
  have hpy := fun i y (h : layN (L.set i r) = (y, 0)) vx wx (hx : Sl wx vx y) => by
    have k := S.parse y ((L.set i r).length : Int) vx wx hx (by rw [layN_length (hswf i) h]; decide)
    rw [lay_parse (hswf i) h, List.length_set] at k
    exact k
  have hkg : ∀ i j, i < L.length → j < L.length → (L.set i r).getD j zref = if j = i then r else L.getD j zref := fun i j hi hj => by
    by_cases e : j = i
    · subst e; rw [if_pos rfl]; simp [List.getD_eq_getElem?_getD, hj]
    · rw [if_neg e]; simp [List.getD_eq_getElem?_getD, Ne.symm e]
  have herr := layN_err L
  obtain ⟨q, hq⟩ : ∃ q, q = (layN L).1 := ⟨_, rfl⟩
  obtain ⟨n1, hn1⟩ : ∃ n, n = (layN L).2 := ⟨_, rfl⟩
  have hpr : layN L = (q, n1) := by rw [hq, hn1]
  rw [← hq, ← hn1] at pl
  rw [← hn1] at herr hbad
  have hsl : ∀ i : Nat, (L.set i r).length = L.length := fun i => List.length_set
  have HV := Lib.hid (h0.below rb)
  obtain ⟨a, c, rfl⟩ := h0.hd
  obtain ⟨n, hn⟩ : ∃ n, n = L.length := ⟨_, rfl⟩
  rw [← hn] at hl HV hset hpy hkg hsl
  rw [← hn]
  obtain ⟨M, hM⟩ : ∃ M, M = refC r := ⟨_, rfl⟩
  have mlist : M.toList = refL r := by rw [hM]; rfl
  have mself := fun x y wx => neqP_self hr x y wx
  have mone : M.all (·.oneCell') = true := by rw [hM]; exact refC_one r
  rw [← hM] at rb ra rsz rc0 ps mself HV ⊢
  obtain ⟨pp, hpp⟩ : ∃ p, p = r.pl := ⟨_, rfl⟩
  rw [← hpp] at rc0 hset
  have g1 : ¬ (100 : Int) < (n : Int) := by omega
  have zsz : (refC zref).size = 34 := refC_size zref_wf
  have zp := zeroRfP
  obtain ⟨Z, hZ⟩ : ∃ Z, Z = refC zref := ⟨_, rfl⟩
  rw [← hZ] at zsz zp
  have TH := Lib.hid th; have PL := Lib.hid pl; have BAD := Lib.hid hbad; have SET := Lib.hid hset; have LEN := Lib.hid hlen; have PS := Lib.hid ps; have HG := Lib.hid hgp; have PY := Lib.hid hpy; have KG := Lib.hid hkg; have HPR := Lib.hid hpr; have SWF := Lib.hid hswf; have HSL := Lib.hid hsl; have HN := Lib.hid hn; have ZSZ := Lib.hid zsz; have ZP := Lib.hid zp
  have RB := Lib.hid rb; have RA := Lib.hid ra; have RSZ := Lib.hid rsz; have RC0 := Lib.hid rc0; have MLIST := Lib.hid mlist; have MSELF := Lib.hid mself; have MONE := Lib.hid mone; have HM := Lib.hid hM
  clear h0 hw hl th pl hbad hset hlen ps hgp hpy hkg hpr hswf hsl hn zsz zp rb ra rsz rc0 mlist mself mone hq hn1 hM hZ hpp hr
  go_enter Try.func6, Try.ntmps6
  go_upto_region 1 with fail
  obtain ⟨gm, hgm⟩ : ∃ g, g = w.heap.size := ⟨_, rfl⟩
  have HGM := Lib.hid hgm
  obtain ⟨w1, hw1⟩ : ∃ w1, w1 = w.alloc (.cells M 37) := ⟨_, rfl⟩
  rw [← hw1] at RA RB HV ⊢
  rw [← hgm] at RA ⊢
  clear hw1 hgm
  go_wp2_with fail
  refine (TH.out _ _ HV.out).mono ?_
  rintro e w2 ⟨v2, rfl, hs2, hb⟩
  have S2 := Lib.hid hs2; have B2 := Lib.hid (RB.out.trans (hb.mono RB.out.size)); have V2 := Lib.hid (HV.out.below hb); have M2 := Lib.hid (RA.out.below hb RA.out.lt)
  clear hs2 hb
  go_wp2_with fail
  refine (PL.out _ _ S2.out).mono ?_
  rintro e w3 ⟨v3, rfl, hs3, hb⟩
  have Q3 := Lib.hid hs3; have B3 := Lib.hid (B2.out.trans (hb.mono B2.out.size)); have V3 := Lib.hid (V2.out.below hb); have M3 := Lib.hid (M2.out.below hb M2.out.lt)
  clear hs3 hb S2 B2 V2 M2 HV RA RB
  rcases herr with h | h
  · subst h
    have hq := LEN.out q HPR.out
    have PSQ := Lib.hid (PS.out q (by rw [hq]; decide))
    have hs := SET.out q HPR.out
    have HS := Lib.hid hs
    clear hq hs
    go_wp2_with (refine wpList_load_all (by rfl) 37 _ (by rfl) gm (by rfl) _ Try.underlying37 (by rfl) M _ M3.out (by rw [RSZ.out]; exact infoRfR) ?_)
    refine (PSQ.out _ _ Q3.out).mono ?_
    rintro e w4 ⟨v4, rfl, hs4, hb⟩
    have Y4 := Lib.hid hs4; have B4 := Lib.hid (B3.out.trans (hb.mono B3.out.size)); have V4 := Lib.hid (V3.out.below hb); have M4 := Lib.hid (M3.out.below hb M3.out.lt)
    clear hs4 hb B3 V3 M3
    rcases HS.out with ⟨i, y, hzi, hi, hset, hlay⟩ | ⟨hset, hcase⟩
    · have Y5 := Y4.out
      rw [hset] at Y5 ⊢
      have Y6 : Hid (Sl w4 v4 y) := Lib.hid Y5
      have PYI := Lib.hid (PY.out i y hlay)
      have z0 : ¬ z < 0 := by omega
      have zn : ¬ (n : Int) ≤ z := by omega
      have HZI := Lib.hid hzi
      clear hset hlay Y5 hzi
      go_wp2_with fail
      refine (PYI.out _ _ Y6.out).mono ?_
      rintro e w5 ⟨v5, rfl, hs5, hb⟩
      have K5 := Lib.hid hs5; have B5 := Lib.hid (B4.out.trans (hb.mono B4.out.size)); have V5 := Lib.hid (V4.out.below hb); have M5 := Lib.hid (M4.out.below hb M4.out.lt)
      obtain ⟨ak, ck, rfl⟩ := hs5.hdn (HSL.out i)
      clear hs5 hb B4 V4 M4
      go_wp2_with fail
      have d0 : decide (z < 0) = false := decide_eq_false (by omega)
      have d1 : decide ((n : Int) ≤ z) = false := decide_eq_false (by omega)
      simp only [d0, d1, Bool.or_false]
      clear d0 d1
      go_loopw [97] (fun vj wr => ∃ j : Nat, j ≤ n ∧ vj = .int .i64 (j : Int) ∧ Below w5.heap.size w5 wr) (fun vj _ => n - (intOf vj).toNat)
      case atStart => exact ⟨0, by omega, rfl, Below.refl _ _⟩
      case round =>
        obtain ⟨j, hj, rfl, hbw⟩ := hrel
        have BW := Lib.hid hbw; have VW := Lib.hid (V5.out.below hbw); have MW := Lib.hid (M5.out.below hbw M5.out.lt); have KW := Lib.hid (K5.out.below hbw)
        clear hbw
        by_cases hlt : j < n
        · have hlt2 : (j : Int) < (n : Int) := by omega
          obtain ⟨b, o, ea, _, hrg⟩ := slrf_at (i := j) KW.out (HSL.out i).symm hlt
          subst ea
          have hwk : ((L.set i r).getD j zref).Wf := getD_wf (SWF.out i) j
          have hwj := HG.out j
          have hkg := KG.out i j hi hlt
          obtain ⟨x, hx0⟩ : ∃ x, x = L.getD j zref := ⟨_, rfl⟩
          obtain ⟨k, hk0⟩ : ∃ k, k = (L.set i r).getD j zref := ⟨_, rfl⟩
          rw [← hk0] at hwk hkg hrg
          rw [← hx0] at hwj hkg
          have ksz := refC_size hwk; have kone := refC_one k; have gsz := refC_size hwj; have gone := refC_one x
          obtain ⟨G, hG⟩ : ∃ G, G = refC x := ⟨_, rfl⟩
          obtain ⟨KC, hKC⟩ : ∃ G, G = refC k := ⟨_, rfl⟩
          have gself := fun p q wx => neqP_self hwj p q wx
          have heq : (z = (j : Int) → KC = M) ∧ (¬ (j : Int) = z → KC = G) := by
            have h1 := HZI.out
            refine ⟨fun h => ?_, fun h => ?_⟩
            · rw [hKC, hkg, if_pos (by omega), HM.out]
            · rw [hKC, hkg, if_neg (by omega), hG]
          rw [← hG] at gsz gone gself
          rw [← hKC] at ksz kone
          have KSZ := Lib.hid ksz; have KONE := Lib.hid kone; have GSZ := Lib.hid gsz; have GONE := Lib.hid gone; have GSELF := Lib.hid gself; have GL : Hid (G.toList = refL (L.getD j zref)) := Lib.hid (by rw [hG, hx0]; rfl); have EQ := Lib.hid heq
          have RG : Hid (wr.rangeAt b (o + j * 34) KC.toList) := Lib.hid (by rw [hKC]; exact hrg)
          have hx := ZP.out
          have hb6 : Below wr.heap.size wr (wr.alloc (.cells KC 42)) := (Below.refl _ _).alloc (Nat.le_refl _) _
          have X6 := Lib.hid (at_new wr KC 42); have V6 := Lib.hid (VW.out.below hb6); have M6 := Lib.hid (MW.out.below hb6 MW.out.lt); have B6 := Lib.hid (BW.out.trans (hb6.mono BW.out.size))
          clear hrg hb6 hwk hwj hkg hx0 hk0 ksz kone gsz gone gself heq hG hKC
          go_upto_region 15 with (first
            | (refine wpList_load_mid (by rfl) 42 _ (by rfl) b (o + j * 34) (by rfl) KC.toList _ RG.out Try.underlying42 (by rfl) (by rw [infoRfP, Array.length_toList, KSZ.out]) ?_; rw [Array.toArray_toList])
            | (refine wpList_store_new (by rfl) 42 _ _ (by rfl) (by rfl) KC _ _ (by rfl) (by rfl) (by rw [KSZ.out]; exact infoRfP) (by rw [KSZ.out, ZSZ.out]) KONE.out ?_))
          clear hx
          obtain ⟨g6, hg6⟩ : ∃ g, g = wr.heap.size := ⟨_, rfl⟩
          rw [← hg6] at X6 ⊢
          clear hg6
          generalize (wr.alloc (.cells KC 42)) = w6 at *
          go_wp2_with fail
          refine (TH.out _ _ V6.out).mono ?_
          rintro e w7 ⟨v7, rfl, hs7, hb⟩
          obtain ⟨a7, c7, rfl⟩ := hs7.hdn HN.out.symm
          obtain ⟨b7, o7, ea, _, hrg⟩ := slrf_at (i := j) hs7 HN.out hlt
          subst ea
          rw [← GL.out] at hrg
          have RG7 := Lib.hid hrg; have X7 := Lib.hid (X6.out.below hb X6.out.lt); have M7 := Lib.hid (M6.out.below hb M6.out.lt); have B7 := Lib.hid (B6.out.trans (hb.mono B6.out.size))
          have hb8 : Below w7.heap.size w7 (w7.alloc (.cells G 42)) := (Below.refl _ _).alloc (Nat.le_refl _) _
          have W8 := Lib.hid (at_new w7 G 42); have X8 := Lib.hid (X7.out.below hb8 X7.out.lt); have M8 := Lib.hid (M7.out.below hb8 M7.out.lt); have B8' := Lib.hid (B7.out.trans (hb8.mono B7.out.size))
          clear hs7 hb hrg hb8
          have hx := ZP.out
          go_upto_region 16 with (first
            | (refine wpList_load_mid (by rfl) 42 _ (by rfl) b7 (o7 + j * 34) (by rfl) G.toList _ RG7.out Try.underlying42 (by rfl) (by rw [infoRfP, Array.length_toList, GSZ.out]) ?_; rw [Array.toArray_toList])
            | (refine wpList_store_new (by rfl) 42 _ _ (by rfl) (by rfl) G _ _ (by rfl) (by rfl) (by rw [GSZ.out]; exact infoRfP) (by rw [GSZ.out, ZSZ.out]) GONE.out ?_))
          clear hx
          obtain ⟨g8, hg8⟩ : ∃ g, g = w7.heap.size := ⟨_, rfl⟩
          rw [← hg8] at W8 ⊢
          clear hg8
          generalize (w7.alloc (.cells G 42)) = w8 at *
          clear X6 V6 M6 B6 X7 M7 B7 VW MW KW
          go_cut [124] (fun y wx => y = .bool false ∧ w8 = wx)
          case first =>
            by_cases hji : z = (j : Int)
            · have hK := EQ.out.1 hji
              subst hK
              subst hji
              go_wp2_with (first
                | (refine wpList_load_wanted (by rfl) 42 _ (by rfl) g6 (by rfl) _ Try.underlying42 (by rfl) KC _ X8.out (by rw [RSZ.out]; exact infoRfP) ?_)
                | (refine wpList_load_wanted (by rfl) 37 _ (by rfl) gm (by rfl) _ Try.underlying37 (by rfl) KC _ M8.out (by rw [RSZ.out]; exact infoRfR) ?_)
                | (refine wpList_bin (by rfl) .neq 42 42 _ _ (.agg KC) (.agg KC) (.bool false) (by rfl) (by rfl) (by rfl) (fun wx => MSELF.out _ _ wx) ?_))
              go_meet
              exact ⟨rfl, rfl⟩
            · have e2 : ¬ (j : Int) = z := by omega
              have e1 : ((j : Int) == z) = false := beq_eq_false_iff_ne.mpr e2
              have e3 : ((j : Int) != z) = true := by simpa using e2
              have hK := EQ.out.2 e2
              subst hK
              clear hji
              go_wp2_with (first
                | (refine wpList_load_wanted (by rfl) 42 _ (by rfl) g6 (by rfl) _ Try.underlying42 (by rfl) KC _ X8.out (by rw [GSZ.out]; exact infoRfP) ?_)
                | (refine wpList_load_wanted (by rfl) 42 _ (by rfl) g8 (by rfl) _ Try.underlying42 (by rfl) KC _ W8.out (by rw [GSZ.out]; exact infoRfP) ?_)
                | (refine wpList_bin (by rfl) .neq 42 42 _ _ (.agg KC) (.agg KC) (.bool false) (by rfl) (by rfl) (by rfl) (fun wx => GSELF.out _ _ wx) ?_))
              go_meet
              exact ⟨rfl, rfl⟩
          obtain ⟨rfl, hwx⟩ := hcut
          subst hwx
          go_wp2_with fail
          go_roundw
          case rel => exact ⟨j + 1, by omega, by go_num, B8'.out⟩
          case measure => simp [intOf]; omega
        · have hjn : j = n := by omega
          subst hjn
          go_wp2_with fail
          refine (AL.out _).mono ?_
          rintro e w9 ⟨rfl, hb⟩
          have B9 := Lib.hid (B5.out.trans ((BW.out.trans (hb.mono BW.out.size)).mono B5.out.size))
          clear hb
          go_wp2_with fail
          go_ret
          exact ⟨rfl, B9.out⟩
    · have Y5 := Y4.out
      rw [hset] at Y5 ⊢
      obtain ⟨a4, c4, rfl⟩ := sl_inv Y5
      have cp : w4.cell? ⟨gm, 0, none⟩ = some (.int .i64 pp) := (M4.out.cell 0).trans RC0.out
      clear hset Y5 Y4 HS
      have fin : ∀ w8, Below w4.heap.size w4 w8 → Below w.heap.size w w8 := fun w8 h => B4.out.trans (h.mono B4.out.size)
      have FIN := Lib.hid fin
      clear fin
      by_cases z0 : z < 0
      · clear hcase
        go_wp2_with fail
        refine (AL.out _).mono ?_
        rintro e w9 ⟨rfl, hb⟩
        have B9 := Lib.hid (FIN.out _ hb)
        clear hb
        go_wp2_with fail
        go_ret
        exact ⟨rfl, B9.out⟩
      · by_cases zn : (n : Int) ≤ z
        · clear hcase
          go_wp2_with fail
          refine (AL.out _).mono ?_
          rintro e w9 ⟨rfl, hb⟩
          have B9 := Lib.hid (FIN.out _ hb)
          clear hb
          go_wp2_with fail
          go_ret
          exact ⟨rfl, B9.out⟩
        · by_cases p0 : pp < 0
          · clear hcase
            go_wp2_with fail
            refine (AL.out _).mono ?_
            rintro e w9 ⟨rfl, hb⟩
            have B9 := Lib.hid (FIN.out _ hb)
            clear hb
            go_wp2_with fail
            go_ret
            exact ⟨rfl, B9.out⟩
          · have p1 : 1 < pp := by omega
            clear hcase
            go_wp2_with fail
            refine (AL.out _).mono ?_
            rintro e w9 ⟨rfl, hb⟩
            have B9 := Lib.hid (FIN.out _ hb)
            clear hb
            go_wp2_with fail
            go_ret
            exact ⟨rfl, B9.out⟩
  · subst h
    have hb := BAD.out rfl
    have Q5 := Q3.out
    have hq0 : q = [] := by have := HPR.out; rw [hb] at this; injection this with this; exact this.symm
    rw [hq0] at Q5
    obtain ⟨a4, c4, rfl⟩ := sl_inv Q5
    clear hb hq0 Q5 Q3
    go_wp2_with fail
    refine (AL.out _).mono ?_
    rintro e w9 ⟨rfl, hb⟩
    have B9 := Lib.hid (B3.out.trans (hb.mono B3.out.size))
    clear hb
    go_wp2_with fail
    go_ret
    exact ⟨rfl, B9.out⟩
theorem sets13_core (S : NodeP) (L : List RefV) (v : Value) (z : Int) (r : RefV) (w : World) (h0 : SlRf w v L) (hw : ∀ x ∈ L, x.Wf) (hr : r.Wf) : Calls Try.prog 6 #[v, .int .i64 z, .agg (refC r)] w fun e w' => e = .returned (.bool true) ∧ Below w.heap.size w w' := by
  by_cases h : 100 < L.length
  · exact sets13_big S L v z r w h0 h
  · exact sets13_rest S L v z r w h0 hw hr (by omega)
end Sha
end Go.Proofs.Ytfbhbdllbapnpaa
