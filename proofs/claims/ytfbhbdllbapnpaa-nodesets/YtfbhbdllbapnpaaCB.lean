/- Layer 13: NodeBack, over the contracts. -/
import Derived.Test.YtfbhbdllbapnpaaCP
namespace Go.Proofs.Ytfbhbdllbapnpaa
namespace Sha
open Go.RowKit Mem
set_option maxRecDepth 100000
theorem parseN_ok {p : List (BitVec 8)} {z : Int} {K : List RefV} (h : parseN p z = (K, 0)) : layN K = (p, 0) ∧ (K.length : Int) = z := by
  unfold parseN at h
  split at h
  · injection h with _ h; cases h
  · split at h
    · injection h with _ h; cases h
    · rename_i hc
      refine ⟨allN_lay h, ?_⟩
      rw [h] at hc
      exact Classical.byContradiction fun x => hc ⟨rfl, x⟩
theorem parseN_err (p : List (BitVec 8)) (z : Int) : (parseN p z).2 = 0 ∨ ((parseN p z).1 = [] ∧ ((parseN p z).2 = 1 ∨ (parseN p z).2 = 9)) := by
  unfold parseN
  split
  · exact .inr ⟨rfl, .inl rfl⟩
  · split
    · exact .inr ⟨rfl, .inr rfl⟩
    · exact allN_err p
set_option maxHeartbeats 1000000 in
theorem back13_big (S : NodeP) (L : List RefV) (p : List (BitVec 8)) (v0 v1 : Value) (z : Int) (w : World) (h0 : SlRf w v0 L) (h1 : Sl w v1 p) (h : 100 < L.length ∨ 600 < p.length) : Calls Try.prog 5 #[v0, v1, .int .i64 z] w fun e w' => e = .returned (.bool true) ∧ Below w.heap.size w w' := by
  have AL := Lib.hid (fun wx => alive13_any S wx)
  obtain ⟨a, c, rfl⟩ := h0.hd
  obtain ⟨a1, c1, rfl⟩ := sl_inv h1
  obtain ⟨n, hn⟩ : ∃ n, n = L.length := ⟨_, rfl⟩
  obtain ⟨m, hm⟩ : ∃ m, m = p.length := ⟨_, rfl⟩
  rw [← hn, ← hm] at h
  rw [← hn, ← hm]
  clear h0 h1 hn hm
  by_cases g : 100 < n
  · have g2 : (100 : Int) < (n : Int) := by omega
    clear h g
    go_enter Try.func5, Try.ntmps5
    go_wp2_with fail
    refine (AL.out _).mono ?_
    rintro e w2 ⟨rfl, hb2⟩
    have B2 := Lib.hid hb2
    clear hb2
    go_wp2_with fail
    go_ret
    exact ⟨rfl, B2.out⟩
  · have g1 : ¬ (100 : Int) < (n : Int) := by omega
    have g2 : (600 : Int) < (m : Int) := by omega
    clear h g
    go_enter Try.func5, Try.ntmps5
    go_wp2_with fail
    refine (AL.out _).mono ?_
    rintro e w2 ⟨rfl, hb2⟩
    have B2 := Lib.hid hb2
    clear hb2
    go_wp2_with fail
    go_ret
    exact ⟨rfl, B2.out⟩
set_option maxHeartbeats 2000000 in
theorem back13_rest (S : NodeP) (L : List RefV) (p : List (BitVec 8)) (v0 v1 : Value) (z : Int) (w : World) (h0 : SlRf w v0 L) (hw : ∀ r ∈ L, r.Wf) (h1 : Sl w v1 p) (hl : L.length ≤ 100) (hp : p.length ≤ 600) : Calls Try.prog 5 #[v0, v1, .int .i64 z] w fun e w' => e = .returned (.bool true) ∧ Below w.heap.size w w' := by
  have AL := Lib.hid (fun wx => alive13_any S wx)
  have th := theirs13_any L v0 w h0 hw (by omega)
  have pl := fun vx wx h => S.lay L vx wx h hw (by omega)
  have hq2 : ∀ q, layN L = (q, 0) → ∀ vx wx, Sl wx vx q → Calls Try.prog 12 #[vx, .int .i64 (L.length : Int)] wx (RfEnd wx L 0) := fun q h vx wx hx => by
    have k := S.parse q (L.length : Int) vx wx hx (by rw [layN_length hw h]; decide)
    rw [lay_parse hw h] at k
    exact k
  have sk := fun va vb wx (h1 : SlRf wx va L) (h2 : SlRf wx vb L) => same13_any L L va vb wx h1 h2 hw hw (by omega) (by omega)
  rw [sameRf_self] at sk
  have pp := fun vx wx h => S.parse p z vx wx h (by omega)
  obtain ⟨kwf, kl⟩ := parseN_wf p z
  have kerr := parseN_err p z
  obtain ⟨K, hK⟩ : ∃ K, K = (parseN p z).1 := ⟨_, rfl⟩
  obtain ⟨n2, hn2⟩ : ∃ n, n = (parseN p z).2 := ⟨_, rfl⟩
  have kok : n2 = 0 → layN K = (p, 0) ∧ (K.length : Int) = z := fun h => parseN_ok (by rw [hK, ← h, hn2])
  have kpl := fun vx wx h => S.lay K vx wx h (by rw [hK]; exact kwf) (by rw [hK]; omega)
  rw [← hK, ← hn2] at pp kerr
  have sm := fun va vb wx (h1 : Sl wx va p) (h2 : Sl wx vb p) => same_any p p va vb wx h1 h2 (by omega) (by omega)
  rw [sameB_self] at sm
  have hpr : layN L = ((layN L).1, (layN L).2) := rfl
  obtain ⟨q, hq⟩ : ∃ q, q = (layN L).1 := ⟨_, rfl⟩
  obtain ⟨n1, hn1⟩ : ∃ n, n = (layN L).2 := ⟨_, rfl⟩
  have herr := layN_err L
  rw [← hq, ← hn1] at pl hpr
  rw [← hn1] at herr
  have HV := Lib.hid h0; have PV := Lib.hid h1
  obtain ⟨a, c, rfl⟩ := h0.hd
  obtain ⟨a1, c1, rfl⟩ := sl_inv h1
  obtain ⟨n, hn⟩ : ∃ n, n = L.length := ⟨_, rfl⟩
  obtain ⟨m, hm⟩ : ∃ m, m = p.length := ⟨_, rfl⟩
  rw [← hn] at hl hq2 th HV
  rw [← hm] at hp PV
  rw [← hn, ← hm]
  have g1 : ¬ (100 : Int) < (n : Int) := by omega
  have g2 : ¬ (600 : Int) < (m : Int) := by omega
  have TH := Lib.hid th; have PL := Lib.hid pl; have HQ2 := Lib.hid hq2; have SK := Lib.hid sk; have PP := Lib.hid pp; have KERR := Lib.hid kerr; have KOK := Lib.hid kok; have KPL := Lib.hid kpl; have SM := Lib.hid sm; have HPR := Lib.hid hpr; have KL := Lib.hid kl
  clear h0 h1 hw hl hp th pl hq2 sk pp kwf kl kerr kok kpl sm hpr hq hn1 hK hn2 hn hm
  go_enter Try.func5, Try.ntmps5
  go_wp2_with fail
  refine (TH.out).mono ?_
  rintro e w2 ⟨v2, rfl, hs2, hb⟩
  have S2 := Lib.hid hs2; have B2 := Lib.hid hb; have V2 := Lib.hid (HV.out.below hb); have P2 := Lib.hid (PV.out.below hb)
  clear hs2 hb
  go_wp2_with fail
  refine (PL.out _ _ S2.out).mono ?_
  rintro e w3 ⟨v3, rfl, hs3, hb⟩
  have Q3 := Lib.hid hs3; have B3 := Lib.hid (B2.out.trans (hb.mono B2.out.size)); have V3 := Lib.hid (V2.out.below hb); have P3 := Lib.hid (P2.out.below hb)
  clear hs3 hb S2 B2 V2 P2
  rcases herr with h | h
  · subst h
    have PQ := Lib.hid (HQ2.out q HPR.out)
    go_wp2_with fail
    refine (PQ.out _ _ Q3.out).mono ?_
    rintro e w4 ⟨v4, rfl, hs4, hb⟩
    have S4 := Lib.hid hs4; have B4 := Lib.hid (B3.out.trans (hb.mono B3.out.size)); have V4 := Lib.hid (V3.out.below hb); have P4 := Lib.hid (P3.out.below hb)
    clear hs4 hb B3 V3 P3
    go_wp2_with fail
    refine (SK.out _ _ _ S4.out V4.out).mono ?_
    rintro e w5 ⟨rfl, hb⟩
    have B5 := Lib.hid (B4.out.trans (hb.mono B4.out.size)); have P5 := Lib.hid (P4.out.below hb)
    clear hb B4 P4 V4 S4
    go_wp2_with fail
    refine (PP.out _ _ P5.out).mono ?_
    rintro e w6 ⟨v6, rfl, hs6, hb⟩
    have K6 := Lib.hid hs6; have B6 := Lib.hid (B5.out.trans (hb.mono B5.out.size)); have P6 := Lib.hid (P5.out.below hb)
    obtain ⟨a6, c6, rfl⟩ := hs6.hd
    clear hs6 hb
    rcases KERR.out with hk | ⟨hk, hke⟩
    · subst hk
      obtain ⟨hlay, hlen⟩ := KOK.out rfl
      subst hlen
      have kpl := fun vx wx h => KPL.out vx wx h
      rw [hlay] at kpl
      obtain ⟨u, hu⟩ : ∃ u, u = K.length := ⟨_, rfl⟩
      have K7 := K6.out
      rw [← hu] at K7 ⊢
      have K8 := Lib.hid K7; have KP2 := Lib.hid kpl
      clear K7 kpl hlay hu K6
      go_wp2_with fail
      refine (KP2.out _ _ K8.out).mono ?_
      rintro e w7 ⟨v7, rfl, hs7, hb⟩
      have Q7 := Lib.hid hs7; have B7 := Lib.hid (B6.out.trans (hb.mono B6.out.size)); have P7 := Lib.hid (P6.out.below hb)
      clear hs7 hb
      go_wp2_with fail
      refine (SM.out _ _ _ Q7.out P7.out).mono ?_
      rintro e w8 ⟨rfl, hb⟩
      have B8' := Lib.hid (B7.out.trans (hb.mono B7.out.size))
      clear hb
      go_wp2_with fail
      refine (AL.out _).mono ?_
      rintro e w9 ⟨rfl, hb⟩
      have B9 := Lib.hid (B8'.out.trans (hb.mono B8'.out.size))
      clear hb
      go_wp2_with fail
      go_ret
      exact ⟨rfl, B9.out⟩
    · subst hk
      have hne : ¬ n2 = 0 := by rcases hke with h | h <;> omega
      clear hke
      go_wp2_with fail
      refine (AL.out _).mono ?_
      rintro e w9 ⟨rfl, hb⟩
      have B9 := Lib.hid (B6.out.trans (hb.mono B6.out.size))
      clear hb
      go_wp2_with fail
      go_ret
      exact ⟨rfl, B9.out⟩
  · subst h
    go_wp2_with fail
    refine (PP.out _ _ P3.out).mono ?_
    rintro e w6 ⟨v6, rfl, hs6, hb⟩
    have K6 := Lib.hid hs6; have B6 := Lib.hid (B3.out.trans (hb.mono B3.out.size)); have P6 := Lib.hid (P3.out.below hb)
    obtain ⟨a6, c6, rfl⟩ := hs6.hd
    clear hs6 hb
    rcases KERR.out with hk | ⟨hk, hke⟩
    · subst hk
      obtain ⟨hlay, hlen⟩ := KOK.out rfl
      subst hlen
      have kpl := fun vx wx h => KPL.out vx wx h
      rw [hlay] at kpl
      obtain ⟨u, hu⟩ : ∃ u, u = K.length := ⟨_, rfl⟩
      have K7 := K6.out
      rw [← hu] at K7 ⊢
      have K8 := Lib.hid K7; have KP2 := Lib.hid kpl
      clear K7 kpl hlay hu K6
      go_wp2_with fail
      refine (KP2.out _ _ K8.out).mono ?_
      rintro e w7 ⟨v7, rfl, hs7, hb⟩
      have Q7 := Lib.hid hs7; have B7 := Lib.hid (B6.out.trans (hb.mono B6.out.size)); have P7 := Lib.hid (P6.out.below hb)
      clear hs7 hb
      go_wp2_with fail
      refine (SM.out _ _ _ Q7.out P7.out).mono ?_
      rintro e w8 ⟨rfl, hb⟩
      have B8' := Lib.hid (B7.out.trans (hb.mono B7.out.size))
      clear hb
      go_wp2_with fail
      refine (AL.out _).mono ?_
      rintro e w9 ⟨rfl, hb⟩
      have B9 := Lib.hid (B8'.out.trans (hb.mono B8'.out.size))
      clear hb
      go_wp2_with fail
      go_ret
      exact ⟨rfl, B9.out⟩
    · subst hk
      have hne : ¬ n2 = 0 := by rcases hke with h | h <;> omega
      clear hke
      go_wp2_with fail
      refine (AL.out _).mono ?_
      rintro e w9 ⟨rfl, hb⟩
      have B9 := Lib.hid (B6.out.trans (hb.mono B6.out.size))
      clear hb
      go_wp2_with fail
      go_ret
      exact ⟨rfl, B9.out⟩
theorem back13_core (S : NodeP) (L : List RefV) (p : List (BitVec 8)) (v0 v1 : Value) (z : Int) (w : World) (h0 : SlRf w v0 L) (hw : ∀ r ∈ L, r.Wf) (h1 : Sl w v1 p) : Calls Try.prog 5 #[v0, v1, .int .i64 z] w fun e w' => e = .returned (.bool true) ∧ Below w.heap.size w w' := by
  by_cases h : 100 < L.length ∨ 600 < p.length
  · exact back13_big S L p v0 v1 z w h0 h1 h
  · exact back13_rest S L p v0 v1 z w h0 hw h1 (by omega) (by omega)
end Sha
end Go.Proofs.Ytfbhbdllbapnpaa
