/- The document's Same: its walk. The document's all: a page's references, as many as it tells. The document's Parse, Get, Set. Layer 13: what the program's functions are asked to do; the law's own theirs and same. Layer 13: alive, over the contracts. -/
import Derived.Test.YtfbhbdllbapnpaaBA
import Derived.Test.YtfbhbdllbapnpaaBC
import Derived.Great.Walk
namespace Go.Proofs.Ytfbhbdllbapnpaa
namespace Sha
open Go.RowKit Mem
set_option maxRecDepth 100000 in
set_option maxHeartbeats 1000000 in
theorem same_any (l m : List (BitVec 8)) (vl vm : Value) (w : World) (hl : Sl w vl l) (hm : Sl w vm m) (_bl : l.length ≤ 9223372036854775807) (bm : m.length ≤ 9223372036854775807) :
    Calls Try.prog 11 #[vl, vm] w fun e w' => e = .returned (.bool (sameB l m)) ∧ Below w.heap.size w w' := by
  have hl0 := hl
  have hm0 := hm
  obtain ⟨a1, c1, rfl, hc1, _⟩ := hl
  obtain ⟨a2, c2, rfl, hc2, _⟩ := hm
  obtain ⟨n, hn⟩ : ∃ n, n = l.length := ⟨_, rfl⟩
  obtain ⟨k, hk⟩ : ∃ k, k = m.length := ⟨_, rfl⟩
  have HL := Lib.hid hl0; have HM := Lib.hid hm0
  clear hl0 hm0
  by_cases hne : n ≠ k
  · have hs := sameB_len l m (by omega)
    rw [hs]
    rw [← hn, ← hk]
    have hne' : ¬ (n : Int) = (k : Int) := by omega
    rw [← hn] at _bl; rw [← hk] at bm
    clear hs hn hk hc1 hc2 hne HL HM
    go_enter Try.func11, Try.ntmps11
    go_wp2
    go_ret
    exact ⟨rfl, Below.refl _ _⟩
  · have hnk : n = k := by omega
    subst hnk
    rw [← hn] at hc1 _bl
    rw [← hk] at hc2 bm
    have heq : (n : Int) = (n : Int) := rfl
    have HN := Lib.hid hn; have HK := Lib.hid hk
    rw [← hn, ← hk]
    clear hn hk hne heq
    go_enter Try.func11, Try.ntmps11
    go_wp2
    go_loopw [5] (fun i wr => ∃ j : Nat, j ≤ n ∧ i = .int .i64 j ∧ l.take j = m.take j ∧ ∃ q, wr = w.drewN q) (fun i _ => n - (intOf i).toNat)
    case atStart => exact ⟨0, Nat.zero_le _, rfl, rfl, 0, rfl⟩
    case round =>
      obtain ⟨j, hj, rfl, htk, q, rfl⟩ := hrel
      have HT := Lib.hid htk; clear htk
      by_cases hlt : j < n
      · obtain ⟨b1, o1, rfl, cl⟩ := sl_at (i := j) HL.out (by rw [← HN.out]; exact hlt)
        obtain ⟨b2, o2, rfl, cm⟩ := sl_at (i := j) HM.out (by rw [← HK.out]; exact hlt)
        have z0 : (0 : Int) ≤ (j : Int) := by omega
        have zn : (j : Int) < (n : Int) := by omega
        by_cases hxy : l.getD j 0 = m.getD j 0
        · have htn := take_next l m j (by rw [← HN.out]; exact hlt) (by rw [← HK.out]; exact hlt) HT.out hxy
          rw [← hxy] at cm
          obtain ⟨x, hx⟩ : ∃ x, x = l.getD j 0 := ⟨_, rfl⟩
          rw [← hx] at cl cm
          have HTN := Lib.hid htn
          clear hxy hx htn
          go_wp2
          go_quiet (fail)
          go_wp2
          go_roundw
          case rel => exact ⟨j + 1, by omega, by go_num, HTN.out, _, rfl⟩
          case measure => simp [intOf]; omega
        · have hs := sameB_at l m j hxy
          obtain ⟨x, hx⟩ : ∃ x, x = l.getD j 0 := ⟨_, rfl⟩
          obtain ⟨y, hy⟩ : ∃ y, y = m.getD j 0 := ⟨_, rfl⟩
          rw [← hx] at cl hxy
          rw [← hy] at cm hxy
          have hbn : (B8 x != B8 y) = true := by
            rw [bne_iff_ne]; exact fun e => hxy (B8_inj e)
          have hbe : ¬ B8 x = B8 y := fun e => hxy (B8_inj e)
          have HS := Lib.hid hs
          clear hs hx hy hxy
          go_wp2
          go_quiet (fail)
          go_wp2
          go_ret
          exact ⟨by rw [HS.out]; rfl, ⟨rfl, rfl, rfl, Nat.le_refl _, fun _ _ => rfl⟩⟩
      · have hjn : j = n := by omega
        have hge : ¬ (j : Int) < (n : Int) := by omega
        have hs : Hid (sameB l m = true) := by
          have h := HT.out
          rw [hjn, HN.out, List.take_length] at h
          have h2 : l.length = m.length := by rw [← HN.out, ← HK.out]
          rw [h2, List.take_length] at h
          show sameB l m = true
          rw [h]; exact sameB_self m
        clear hjn hlt
        go_wp2
        go_ret
        exact ⟨by rw [hs.out]; rfl, ⟨rfl, rfl, rfl, Nat.le_refl _, fun _ _ => rfl⟩⟩
end Sha
end Go.Proofs.Ytfbhbdllbapnpaa
namespace Go.Proofs.Ytfbhbdllbapnpaa
namespace Sha
open Go.RowKit Mem
set_option maxRecDepth 100000
theorem sl_page {w : World} {b o cap i : Nat} {p : List (BitVec 8)} (h : Sl w (.slice (some ⟨b, o, none⟩) 256 cap) p) (hp : p.length = 256) (hi : i < 6) : Sl w (.slice (some ⟨b, o + (1 + 37 * i), none⟩) 37 (cap - (1 + 37 * i))) (pieceN p i) := by
  obtain ⟨a, c, e, hc, hr⟩ := h
  obtain ⟨b', o', ea, hlt, hcell⟩ := hr (by intro e0; rw [e0] at hp; simp at hp)
  injection e with e1 e2 e3
  subst e1 e3
  injection ea with ea
  injection ea with ea1 ea2
  subst ea1 ea2
  have hl := piece_length p i hp hi
  refine ⟨_, _, by rw [hl], by rw [hl]; omega, fun _ => ⟨b, _, rfl, hlt, fun j hj => ?_⟩⟩
  rw [hl] at hj
  have hx := hcell (1 + 37 * i + j) (by omega)
  rw [show o + (1 + 37 * i) + j = o + (1 + 37 * i + j) by omega, hx]
  unfold pieceN
  have e4 : ((p.drop (1 + 37 * i)).take 37).getD j 0 = p.getD (1 + 37 * i + j) 0 := by
    rw [List.getD_eq_getElem?_getD, List.getElem?_take, if_pos hj, List.getElem?_drop, ← List.getD_eq_getElem?_getD]
  rw [e4]
theorem sl_some {w : World} {v : Value} {p : List (BitVec 8)} (h : Sl w v p) (hne : 0 < p.length) : ∃ b o c, v = .slice (some ⟨b, o, none⟩) p.length c ∧ p.length ≤ c ∧ b < w.heap.size ∧ ∀ i, i < p.length → w.cell? ⟨b, o + i, none⟩ = some (.int .u8 ((p.getD i 0).toNat : Int)) := by
  obtain ⟨a, c, e, hc, hr⟩ := h
  obtain ⟨b, o, ea, hlt, hcell⟩ := hr (by intro e0; rw [e0] at hne; simp at hne)
  exact ⟨b, o, c, by rw [e, ea], hc, hlt, hcell⟩
theorem parse_piece (p : List (BitVec 8)) (i : Nat) (h : p.length = 256) (hi : i < 6) : parseRf (pieceN p i) = if 1 < ((pieceN p i).getD 0 0).toNat then (zref, 1) else (rfOf (pieceN p i), 0) := by
  unfold parseRf
  have hl := piece_length p i h hi
  by_cases g : 1 < ((pieceN p i).getD 0 0).toNat
  · rw [if_pos (.inr g), if_pos g]
  · rw [if_neg (by rintro (x | x); exact x hl; exact g x), if_neg g]
theorem allN_bad (p : List (BitVec 8)) (hp : p.length = 256) (i : Nat) (hi : i < manyN p) (h : 1 < ((pieceN p i).getD 0 0).toNat) : allN p = ([], 9) := by
  unfold allN
  rw [if_neg (fun x => x hp), bad_piece p i _ hi h, if_neg (by intro e; injection e with _ e; cases e)]
theorem rallN_short (p : List (BitVec 8)) (v : Value) (w : World) (hv : Sl w v p) (_hl : p.length ≤ 1000) (h : p.length ≠ 256) : Calls Try.prog 26 #[v] w (RfOwn 37 w (allN p).1 (allN p).2) := by
  rw [show allN p = ([], 1) from if_pos h]
  obtain ⟨a, c, rfl⟩ := sl_inv hv
  obtain ⟨n, hn⟩ : ∃ n, n = p.length := ⟨_, rfl⟩
  rw [← hn] at h _hl ⊢
  have h1 : ((n : Int) == 256) = false := by
    have : ¬ (n : Int) = 256 := by omega
    simpa using this
  clear hv hn h
  go_enter Try.func26, Try.ntmps26
  go_wp2_with fail
  go_ret2
  exact ⟨_, rfl, World.ownsRow_nil _ _ _ _, Below.refl _ _⟩
set_option maxHeartbeats 2000000 in
theorem rallN_page (p : List (BitVec 8)) (v : Value) (w : World) (hv : Sl w v p) (hp : p.length = 256) : Calls Try.prog 26 #[v] w (RfOwn 37 w (allN p).1 (allN p).2) := by
  have hbad := fun i hi h => allN_bad p hp i hi h
  have hfin : allN p = if layN (refsN p (manyN p)) = (p, 0) then (refsN p (manyN p), 0) else ([], 9) := by unfold allN; rw [if_neg (fun x => x hp)]
  obtain ⟨Y, hY⟩ : ∃ Y, Y = allN p := ⟨_, rfl⟩
  rw [← hY] at hbad hfin ⊢
  obtain ⟨b, o, c, rfl, hc, hlt, hcell⟩ := sl_some hv (by omega)
  rw [hp] at hv hc ⊢
  have hx0 := hcell 0 (by omega)
  obtain ⟨x, hx⟩ : ∃ x, x = (p.getD 0 0).toNat := ⟨_, rfl⟩
  rw [← hx] at hx0
  have hx9 : x < 256 := by rw [hx]; exact (p.getD 0 0).isLt
  obtain ⟨K, hK⟩ : ∃ K, K = manyN p := ⟨_, rfl⟩
  have hKx : K = min x 6 := by rw [hK, hx]; rfl
  rw [← hK] at hbad hfin
  have hpc := fun i hi => parse_piece p i hp hi
  have hrp := fun i hi wx (h : Sl wx (.slice (some ⟨b, o, none⟩) 256 c) p) => rparseRf_any (pieceN p i) _ wx (sl_page (i := i) h hp hi) (by rw [piece_length p i hp hi]; decide)
  have hwf := fun n hn => refsN_wf p n hp hn
  have hrs := fun n => refsN_succ p n
  have hrl := fun n => refsN_length p n
  have hc256 : 256 ≤ c := hc
  have FIN := Lib.hid hfin; have BAD := Lib.hid hbad; have HV := Lib.hid hv; have PC := Lib.hid hpc; have RP := Lib.hid hrp; have WF := Lib.hid hwf; have RS := Lib.hid hrs; have RL := Lib.hid hrl; have X0 := Lib.hid hx0; have LT := Lib.hid hlt; have HK := Lib.hid hKx; have HP := Lib.hid hp
  have hK6 : K ≤ 6 := by omega
  clear hfin hbad hv hpc hrp hwf hrs hrl hx0 hlt hcell hKx hK hx hc hY hp
  go_enter Try.func26, Try.ntmps26
  go_wp2_with fail
  go_loopw [4, 5] (fun vo vi wr => ∃ i : Nat, i ≤ K ∧ vi = .int .i64 (i : Int) ∧ wr.ownsRow w.heap.size 37 34 vo i (refCs (refsN p i)) ∧ Below w.heap.size w wr) (fun _ vi _ => K - (intOf vi).toNat)
  case atStart => exact ⟨0, by omega, rfl, World.ownsRow_nil _ _ _ _, Below.refl _ _⟩
  case round =>
    obtain ⟨i, hi, rfl, ho, hbw⟩ := hrel
    have OW := Lib.hid ho; have BW := Lib.hid hbw; have VW := Lib.hid (HV.out.below hbw)
    have c0 : wr.cell? ⟨b, o + 0, none⟩ = some (.int .u8 (x : Int)) := (hbw.cell (p := ⟨b, o + 0, none⟩) LT.out).trans X0.out
    have c00 : wr.cell? ⟨b, o, none⟩ = some (.int .u8 (x : Int)) := c0
    clear ho hbw
    by_cases hik : i < K
    · have hi6 : i < 6 := by omega
      have hix : i < x := by have := HK.out; omega
      have hix2 : (i : Int) < (x : Int) := by omega
      have hi62 : (i : Int) < 6 := by omega
      have hpc := PC.out i hi6
      have hbd := BAD.out i hik
      have rpi := RP.out i hi6 wr VW.out
      have hrs := RS.out i
      have hwi : (rfOf (pieceN p i)).Wf := rfOf_wf _ (piece_length p i HP.out hi6)
      obtain ⟨s, hs⟩ : ∃ s, s = pieceN p i := ⟨_, rfl⟩
      rw [← hs] at hpc hbd rpi hrs hwi
      have HRS := Lib.hid hrs; have HWI := Lib.hid hwi; have HBD := Lib.hid hbd
      clear hrs hbd hs
      by_cases g1 : 1 < (s.getD 0 0).toNat
      · rw [hpc, if_pos g1] at rpi
        have hy := HBD.out g1
        have HY := Lib.hid hy; have RPI := Lib.hid rpi
        have hx := zeroRfR
        have ZW : Hid (zref.Wf) := Lib.hid zref_wf
        obtain ⟨Z, hZ⟩ : ∃ Z, Z = refC zref := ⟨_, rfl⟩
        have zs : Z.size = 34 := by rw [hZ]; exact refC_size zref_wf
        have zo : Z.all (·.oneCell') = true := by rw [hZ]; exact refC_one zref
        rw [← hZ] at hx RPI
        have ZS := Lib.hid zs; have ZO := Lib.hid zo
        clear hy rpi hpc hwi g1 zs zo hZ ZW
        go_wp2_with (refine Mem.wpList_slice_mid (by rfl) 24 _ _ _ (by rfl) 5 Try.underlying24 infoB b o 256 c (1 + 37 * i) (38 + 37 * i) (by rfl) (by exact congrArg (Value.int .i64) (by omega)) (by exact congrArg (Value.int .i64) (by omega)) (by omega) (by omega) (by omega) ?_)
        rw [show 38 + 37 * i - (1 + 37 * i) = 37 by omega]
        refine (RPI.out).mono ?_
        rintro e w2 ⟨rfl, hb2⟩
        have B2 : Hid (Below w.heap.size w w2) := Lib.hid (BW.out.trans (hb2.mono BW.out.size))
        clear hb2 c0 c00
        go_wp2_with (refine wpList_store_new (by rfl) 37 _ _ (by rfl) (by rfl) Z _ _ (by rfl) (by rfl) (by rw [ZS.out]; exact infoRfR) (by rfl) ZO.out ?_)
        go_ret2
        exact ⟨_, by rw [HY.out]; rfl, by rw [HY.out]; exact World.ownsRow_nil _ _ _ _, B2.out.alloc B2.out.size _⟩
      · rw [hpc, if_neg g1] at rpi
        have hx := zeroRfR
        obtain ⟨r, hr⟩ : ∃ r, r = rfOf s := ⟨_, rfl⟩
        rw [← hr] at rpi hwi HRS
        have zsz : (refC zref).size = (refC r).size := by rw [refC_size zref_wf, refC_size hwi]
        have rb := built_rr r hwi
        have rdf := fun wx => rd_rf (w := wx) (e := 37) hwi
        have rl := refL_one r
        have rcl : (refC r).toList = refL r := rfl
        obtain ⟨M, hM⟩ : ∃ M, M = refC r := ⟨_, rfl⟩
        obtain ⟨Z, hZ⟩ : ∃ Z, Z = refC zref := ⟨_, rfl⟩
        have ms : M.size = 34 := by rw [hM]; exact refC_size hwi
        have mo : M.all (·.oneCell') = true := by rw [hM]; exact refC_one r
        rw [← hM] at rpi zsz rb rdf
        rw [← hZ] at hx zsz
        have RPI := Lib.hid rpi; have MS := Lib.hid ms; have MO := Lib.hid mo; have ZSZ := Lib.hid zsz; have RB := Lib.hid rb; have RDF := Lib.hid rdf; have RLO := Lib.hid rl
        clear rpi hpc hwi g1 ms mo zsz rb rdf rl rcl hM hZ hr
        go_upto_region 8 with (first
          | (refine Mem.wpList_slice_mid (by rfl) 24 _ _ _ (by rfl) 5 Try.underlying24 infoB b o 256 c (1 + 37 * i) (38 + 37 * i) (by rfl) (by exact congrArg (Value.int .i64) (by omega)) (by exact congrArg (Value.int .i64) (by omega)) (by omega) (by omega) (by omega) ?_; rw [show 38 + 37 * i - (1 + 37 * i) = 37 by omega])
          | (go_at_call 36; refine (RPI.out).mono ?_; rintro e w2 ⟨rfl, hb2⟩; have B2 : Hid (Below w.heap.size w w2) := Lib.hid (BW.out.trans (hb2.mono BW.out.size)); have O2 := Lib.hid (ownsRow_below OW.out hb2); clear hb2)
          | (refine wpList_store_new (by rfl) 37 _ _ (by rfl) (by rfl) M _ _ (by rfl) (by rfl) (by rw [MS.out]; exact infoRfR) ZSZ.out.symm MO.out ?_))
        clear c0 c00 hx
        have A3 := Lib.hid (at_new w2 M 37)
        have B3 : Hid (Below w.heap.size w (w2.alloc (.cells M 37))) := Lib.hid (B2.out.alloc B2.out.size _)
        have O3 : Hid ((w2.alloc (.cells M 37)).ownsRow w.heap.size 37 34 u4 i (refCs (refsN p i))) := Lib.hid (World.ownsRow.alloc O2.out _)
        obtain ⟨l, hl⟩ : ∃ l, l = w2.heap.size := ⟨_, rfl⟩
        rw [← hl] at A3 ⊢
        clear hl O2
        generalize (w2.alloc (.cells M 37)) = w3 at *
        have B4 : Hid (Below w.heap.size w (w3.alloc (.cells M 37))) := Lib.hid (B3.out.alloc B3.out.size _)
        have O4 : Hid ((w3.alloc (.cells M 37)).ownsRow w.heap.size 37 34 u4 i (refCs (refsN p i))) := Lib.hid (World.ownsRow.alloc O3.out _)
        go_wp2_with (first
          | (refine wpList_load_all (by rfl) 37 _ (by rfl) l (by rfl) _ Try.underlying37 (by rfl) M _ A3.out (by rw [MS.out]; exact infoRfR) ?_)
          | ((refine Go.Great.wpList_buildSliceTo (by rfl) 22 37 1 _ (by rfl) _ (by rfl) _ (by rfl) Try.underlying22 M (by first | (simp [Act.eval, Act.put]; exact RB.out) | (go_simp; exact RB.out) | (simp only [List.map_toArray, List.map_cons, List.map_nil]; exact RB.out)) ?_))
          | (at_builtin; go_loud (refine wpList_append_app (by rfl) _ _ 22 (by rfl) (.slice (some ⟨w3.heap.size, 0, none⟩) 1 1) i 1 34 (refL r) (.agg (refC zref)) 48 elemRR (refC_size zref_wf) (by decide) (by rfl) O4.out (by rfl) (RDF.out w3) RLO.out (by omega) (by omega) B4.out.size ?_); intro v5 w5 ho5 ha5 hb5; have O5 : Hid (w5.ownsRow w.heap.size 37 34 v5 (i + 1) (refCs (refsN p (i + 1)))) := Lib.hid (by rw [HRS.out, refCs_snoc]; exact ho5); have B5 := Lib.hid (B4.out.trans hb5); clear ho5 ha5 hb5))
        go_roundw
        case rel => exact ⟨i + 1, by omega, by go_num, O5.out, B5.out⟩
        case measure => simp [intOf]; omega
    · have hiK : i = K := by omega
      have hcase : ¬ i < x ∨ (i < x ∧ ¬ i < 6) := by have := HK.out; omega
      go_upto_region 5 with fail
      go_cut [22] (fun y wx => y = .bool false ∧ wr = wx)
      case first =>
        clear hi hik hiK
        rcases hcase with h | ⟨h, h6⟩
        · have e1 : ¬ (i : Int) < (x : Int) := by omega
          clear h
          go_wp2_with fail
          go_meet
          exact ⟨rfl, rfl⟩
        · have e1 : (i : Int) < (x : Int) := by omega
          have e2 : ¬ (i : Int) < 6 := by omega
          clear h h6
          go_wp2_with fail
          go_meet
          exact ⟨rfl, rfl⟩
      obtain ⟨rfl, hwx⟩ := hcut
      subst hwx
      subst hiK
      have hwf := WF.out i hK6
      have hrl := RL.out i
      obtain ⟨L, hL⟩ : ∃ L, L = refsN p i := ⟨_, rfl⟩
      have hfin := FIN.out
      have hown := OW.out
      rw [← hL] at hwf hrl hown hfin
      rw [← hrl] at hown
      have hsl := own_slrf hown hwf
      have rlay := rlayN_any L _ wr hsl hwf (by omega)
      have OL := Lib.hid hown; have RLAY := Lib.hid rlay; have FI := Lib.hid hfin; have ERR := Lib.hid (layN_err L); have LOK := Lib.hid (fun q h => layN_length (p := q) hwf h)
      obtain ⟨q, hq⟩ : ∃ q, q = (layN L).1 := ⟨_, rfl⟩
      obtain ⟨e, he⟩ : ∃ e, e = (layN L).2 := ⟨_, rfl⟩
      have hpair : layN L = (q, e) := by rw [hq, he]
      rw [hpair] at RLAY ERR FI
      have HPR := Lib.hid hpair
      clear hcase c0 c00 hown hsl rlay hfin hq he hpair hrl hwf hL hik hi
      go_wp2_with fail
      refine (RLAY.out).mono ?_
      rintro e1 w2 ⟨v2, rfl, hs2, hb2⟩
      have S2 := Lib.hid hs2; have B2 : Hid (Below w.heap.size w w2) := Lib.hid (BW.out.trans (hb2.mono BW.out.size)); have O2 : Hid (OwnRf w2 w.heap.size 37 u4 L) := Lib.hid (ownsRow_below OL.out hb2); have V2 := Lib.hid (VW.out.below hb2)
      clear hs2 hb2
      rcases ERR.out with h0 | h0
      · subst h0
        have SM := Lib.hid (same_any q p v2 _ w2 S2.out V2.out (by rw [LOK.out q HPR.out]; decide) (by rw [HP.out]; decide))
        go_wp2_with fail
        refine (SM.out).mono ?_
        rintro e1 w3 ⟨rfl, hb3⟩
        have B3 : Hid (Below w.heap.size w w3) := Lib.hid (B2.out.trans (hb3.mono B2.out.size)); have O3 : Hid (OwnRf w3 w.heap.size 37 u4 L) := Lib.hid (ownsRow_below O2.out hb3)
        clear hb3
        by_cases hqp : q = p
        · have e1 : sameB q p = true := by rw [hqp]; exact sameB_self p
          rw [e1]
          have hy : Y = (L, 0) := by rw [FI.out, if_pos (by rw [hqp])]
          have HY := Lib.hid hy
          clear hy hqp e1
          go_wp2_with fail
          go_ret2
          exact ⟨_, by rw [HY.out]; rfl, by rw [HY.out]; exact O3.out, B3.out⟩
        · have e1 : sameB q p = false := by unfold sameB; exact beq_eq_false_iff_ne.mpr hqp
          rw [e1]
          have hy : Y = ([], 9) := by rw [FI.out, if_neg (fun h => hqp (by injection h))]
          have HY := Lib.hid hy
          clear hy hqp e1
          go_wp2_with fail
          go_ret2
          exact ⟨_, by rw [HY.out]; rfl, by rw [HY.out]; exact World.ownsRow_nil _ _ _ _, B3.out⟩
      · subst h0
        have hy : Y = ([], 9) := by rw [FI.out, if_neg (by intro h; injection h with _ h; cases h)]
        have HY := Lib.hid hy
        clear hy
        go_wp2_with fail
        go_ret2
        exact ⟨_, by rw [HY.out]; rfl, by rw [HY.out]; exact World.ownsRow_nil _ _ _ _, B2.out⟩
theorem rallN_any (p : List (BitVec 8)) (v : Value) (w : World) (hv : Sl w v p) (hl : p.length ≤ 1000) : Calls Try.prog 26 #[v] w (RfOwn 37 w (allN p).1 (allN p).2) := by
  by_cases h : p.length = 256
  · exact rallN_page p v w hv h
  · exact rallN_short p v w hv hl h
end Sha
end Go.Proofs.Ytfbhbdllbapnpaa
namespace Go.Proofs.Ytfbhbdllbapnpaa
namespace Sha
open Go.RowKit Mem
set_option maxRecDepth 100000
theorem allN_err (p : List (BitVec 8)) : (allN p).2 = 0 ∨ ((allN p).1 = [] ∧ ((allN p).2 = 1 ∨ (allN p).2 = 9)) := by
  unfold allN
  split
  · exact .inr ⟨rfl, .inl rfl⟩
  · split
    · exact .inl rfl
    · exact .inr ⟨rfl, .inr rfl⟩
set_option maxHeartbeats 1000000 in
theorem rparseN_any (p : List (BitVec 8)) (z : Int) (v : Value) (w : World) (hv : Sl w v p) (hl : p.length ≤ 1000) : Calls Try.prog 13 #[v, .int .i64 z] w (RfEnd w (parseN p z).1 (parseN p z).2) := by
  have al := rallN_any p v w hv hl
  have hwf := allN_wf p
  have hle := allN_le p
  have herr := allN_err p
  have hP : parseN p z = if z < 1 ∨ 6 < z then ([], 1) else if (allN p).2 = 0 ∧ ((allN p).1.length : Int) ≠ z then ([], 9) else allN p := rfl
  obtain ⟨Y, hY⟩ : ∃ Y, Y = parseN p z := ⟨_, rfl⟩
  rw [← hY] at hP ⊢
  obtain ⟨L, hL⟩ : ∃ L, L = (allN p).1 := ⟨_, rfl⟩
  obtain ⟨e, he⟩ : ∃ e, e = (allN p).2 := ⟨_, rfl⟩
  have hpair : allN p = (L, e) := by rw [hL, he]
  rw [hpair] at al hwf hle herr hP
  simp only at al hwf hle herr hP
  have AL := Lib.hid al; have WF := Lib.hid hwf; have HP := Lib.hid hP; have ERR := Lib.hid herr
  clear al hwf herr hP hY hL he hpair hv
  by_cases h1 : z < 1
  · have hy : Y = ([], 1) := by rw [HP.out, if_pos (.inl h1)]
    have HY := Lib.hid hy
    clear hy
    go_enter Try.func13, Try.ntmps13
    go_wp2_with fail
    go_ret2
    exact ⟨_, by rw [HY.out]; rfl, by rw [HY.out]; exact SlRf.nil _, Below.refl _ _⟩
  · by_cases h6 : 6 < z
    · have hy : Y = ([], 1) := by rw [HP.out, if_pos (.inr h6)]
      have HY := Lib.hid hy
      clear hy
      go_enter Try.func13, Try.ntmps13
      go_wp2_with fail
      go_ret2
      exact ⟨_, by rw [HY.out]; rfl, by rw [HY.out]; exact SlRf.nil _, Below.refl _ _⟩
    · go_enter Try.func13, Try.ntmps13
      go_wp2_with fail
      refine (AL.out).mono ?_
      rintro e2 w2 ⟨v2, rfl, ho2, hb2⟩
      have S2 := Lib.hid (own_slrf ho2 WF.out); have B2 := Lib.hid hb2
      obtain ⟨a, c, rfl⟩ := S2.out.hd
      clear ho2 hb2
      rcases ERR.out with h0 | ⟨h0, he⟩
      · subst h0
        obtain ⟨n, hn⟩ : ∃ n, n = L.length := ⟨_, rfl⟩
        have hP2 := HP.out
        rw [← hn] at hP2
        have S3 := S2.out
        rw [← hn] at S3
        rw [← hn]
        have S4 := Lib.hid S3
        clear hn hle S3
        by_cases hnz : (n : Int) = z
        · have hy : Y = (L, 0) := by rw [hP2, if_neg (by omega), if_neg (fun x => x.2 hnz)]
          have HY := Lib.hid hy
          clear hy hP2
          subst hnz
          go_wp2_with fail
          go_ret2
          exact ⟨_, by rw [HY.out]; rfl, by rw [HY.out]; exact S4.out, B2.out⟩
        · have hy : Y = ([], 9) := by rw [hP2, if_neg (by omega), if_pos ⟨rfl, hnz⟩]
          have HY := Lib.hid hy
          clear hy hP2
          go_wp2_with fail
          go_ret2
          exact ⟨_, by rw [HY.out]; rfl, by rw [HY.out]; exact SlRf.nil _, B2.out⟩
      · have hne : ¬ e = 0 := by rcases he with h | h <;> omega
        have hy : Y = (L, e) := by rw [HP.out, if_neg (by omega), if_neg (fun x => hne x.1)]
        have HY := Lib.hid hy
        clear hy he h0 hle
        go_wp2_with fail
        go_ret2
        exact ⟨_, by rw [HY.out]; rfl, by rw [HY.out]; exact S2.out, B2.out⟩
/-- It returns a reference and a number. -/
def RNEnd (r : RefV) (n : Int) (w : World) (e : Ending) (w' : World) : Prop := e = .returned (.tuple #[.agg (refC r), .int .i64 n]) ∧ Below w.heap.size w w'
set_option maxHeartbeats 1000000 in
theorem rgetN_any (p : List (BitVec 8)) (z : Int) (v : Value) (w : World) (hv : Sl w v p) (hl : p.length ≤ 1000) : Calls Try.prog 15 #[v, .int .i64 z] w (RNEnd (getN p z).1 (getN p z).2 w) := by
  have hzb : Below w.heap.size w (w.alloc (.cells (refC zref) 37)) := (Below.refl _ _).alloc (Nat.le_refl _) _
  have al := rallN_any p v _ (hv.below hzb) hl
  have az := at_new w (refC zref) 37
  have hx := zeroRfR
  have bn := buildRf0
  have zs := refC_size zref_wf
  have zo := refC_one zref
  have hwf := allN_wf p
  have hle := allN_le p
  have herr := allN_err p
  have hP : getN p z = if (allN p).2 ≠ 0 then (zref, (allN p).2) else if z < 0 ∨ ((allN p).1.length : Int) ≤ z then (zref, 1) else ((allN p).1.getD z.toNat zref, 0) := rfl
  obtain ⟨Y, hY⟩ : ∃ Y, Y = getN p z := ⟨_, rfl⟩
  rw [← hY] at hP ⊢
  obtain ⟨L, hL⟩ : ∃ L, L = (allN p).1 := ⟨_, rfl⟩
  obtain ⟨e, he⟩ : ∃ e, e = (allN p).2 := ⟨_, rfl⟩
  have hpair : allN p = (L, e) := by rw [hL, he]
  rw [hpair] at al hwf hle herr hP
  simp only at al hwf hle herr hP
  obtain ⟨Z, hZ⟩ : ∃ Z, Z = refC zref := ⟨_, rfl⟩
  rw [← hZ] at al az hx bn zs zo hzb
  have AL := Lib.hid al; have WF := Lib.hid hwf; have HP := Lib.hid hP; have ERR := Lib.hid herr; have AZ := Lib.hid az; have BN := Lib.hid bn; have ZS := Lib.hid zs; have ZO := Lib.hid zo; have BZ := Lib.hid hzb; have HZ := Lib.hid hZ
  clear al hwf herr hP hY hL he hpair hv az bn zs zo hzb hZ
  go_enter Try.func15, Try.ntmps15
  go_upto_region 1 with fail
  clear hx
  obtain ⟨w1, hw1⟩ : ∃ w1, w1 = w.alloc (.cells Z 37) := ⟨_, rfl⟩
  rw [← hw1] at AL AZ BZ ⊢
  clear hw1
  go_wp2_with fail
  refine (AL.out).mono ?_
  rintro e2 w2 ⟨v2, rfl, ho2, hb2⟩
  have S2 := Lib.hid (own_slrf ho2 WF.out); have B2 : Hid (Below w.heap.size w w2) := Lib.hid (BZ.out.trans (hb2.mono BZ.out.size)); have A2 := Lib.hid (AZ.out.below hb2 AZ.out.lt)
  obtain ⟨a, c, rfl⟩ := S2.out.hd
  clear ho2 hb2
  obtain ⟨n, hn⟩ : ∃ n, n = L.length := ⟨_, rfl⟩
  have HN := Lib.hid hn
  rw [← hn] at S2 ⊢
  clear hn hle
  by_cases he : e = 0
  · subst he
    by_cases z0 : z < 0
    · have hy : Y = (zref, 1) := by rw [HP.out, if_neg (fun h => h rfl), if_pos (.inl z0)]
      have HY := Lib.hid hy
      clear hy
      go_wp2_with (first
        | (refine Mem.wpList_build (by rfl) 37 _ #[] (.agg Z) (by rfl) (by simp) BN.out ?_)
        | (refine wpList_store_all (by rfl) 37 _ _ (by rfl) (by rfl) w.heap.size Z (by rfl) (by rfl) (by rw [ZS.out]; exact infoRfR) Z 37 A2.out (by rfl) ZO.out ?_))
      try simp only [Exit.inBlock, Exit.then]
      refine ret_row_tmp (by rfl) w.heap.size 37 Z _ _ (by rfl) (by rfl) (A2.out.row Z) Try.underlying37 (by rfl) (by rw [ZS.out]; exact infoRfR) ?_
      exact ⟨by rw [HY.out, HZ.out]; rfl, below_row B2.out (Nat.le_refl _) Z⟩
    · by_cases zn : (n : Int) ≤ z
      · have hy : Y = (zref, 1) := by rw [HP.out, if_neg (fun h => h rfl), if_pos (.inr (by rw [← HN.out]; exact zn))]
        have HY := Lib.hid hy
        clear hy
        go_wp2_with (first
          | (refine Mem.wpList_build (by rfl) 37 _ #[] (.agg Z) (by rfl) (by simp) BN.out ?_)
          | (refine wpList_store_all (by rfl) 37 _ _ (by rfl) (by rfl) w.heap.size Z (by rfl) (by rfl) (by rw [ZS.out]; exact infoRfR) Z 37 A2.out (by rfl) ZO.out ?_))
        try simp only [Exit.inBlock, Exit.then]
        refine ret_row_tmp (by rfl) w.heap.size 37 Z _ _ (by rfl) (by rfl) (A2.out.row Z) Try.underlying37 (by rfl) (by rw [ZS.out]; exact infoRfR) ?_
        exact ⟨by rw [HY.out, HZ.out]; rfl, below_row B2.out (Nat.le_refl _) Z⟩
      · obtain ⟨i, rfl⟩ : ∃ i : Nat, z = (i : Int) := ⟨z.toNat, by omega⟩
        have hin : i < n := by omega
        have hin2 : (i : Int) < (n : Int) := by omega
        have hy : Y = (L.getD i zref, 0) := by rw [HP.out, if_neg (fun h => h rfl), if_neg (by have := HN.out; omega), Int.toNat_natCast]
        obtain ⟨b, o, ea, _, hr⟩ := slrf_at (i := i) S2.out HN.out hin
        subst ea
        have hwi := getD_wf WF.out i
        obtain ⟨r, hr0⟩ : ∃ r, r = L.getD i zref := ⟨_, rfl⟩
        rw [← hr0] at hy hr hwi
        have rs := refC_size hwi; have ro := refC_one r
        have HY := Lib.hid hy; have RG := Lib.hid hr; have WI := Lib.hid hwi; have RSZ := Lib.hid rs; have RO := Lib.hid ro
        clear hy hr hwi hr0 rs ro
        go_wp2_with (first
          | (refine wpList_load_rf (by rfl) 37 _ (by rfl) b (o + i * 34) (by rfl) r WI.out RG.out _ Try.underlying37 (by rfl) infoRfR ?_)
          | (refine wpList_store_all (by rfl) 37 _ _ (by rfl) (by rfl) w.heap.size (refC r) (by rfl) (by rfl) (by rw [RSZ.out]; exact infoRfR) Z 37 A2.out (by rw [RSZ.out, ZS.out]) RO.out ?_))
        try simp only [Exit.inBlock, Exit.then]
        refine ret_row_tmp (by rfl) w.heap.size 37 (refC r) _ _ (by rfl) (by rfl) (A2.out.row (refC r)) Try.underlying37 (by rfl) (by rw [RSZ.out]; exact infoRfR) ?_
        exact ⟨by rw [HY.out]; rfl, below_row B2.out (Nat.le_refl _) (refC r)⟩
  · have hy : Y = (zref, e) := by rw [HP.out, if_pos he]
    have he9 : e = 1 ∨ e = 9 := by
      rcases ERR.out with h | ⟨_, h⟩
      · exact absurd h he
      · exact h
    have HY := Lib.hid hy
    clear hy he9
    go_wp2_with (first
      | (refine Mem.wpList_build (by rfl) 37 _ #[] (.agg Z) (by rfl) (by simp) BN.out ?_)
      | (refine wpList_store_all (by rfl) 37 _ _ (by rfl) (by rfl) w.heap.size Z (by rfl) (by rfl) (by rw [ZS.out]; exact infoRfR) Z 37 A2.out (by rfl) ZO.out ?_))
    try simp only [Exit.inBlock, Exit.then]
    refine ret_row_tmp (by rfl) w.heap.size 37 Z _ _ (by rfl) (by rfl) (A2.out.row Z) Try.underlying37 (by rfl) (by rw [ZS.out]; exact infoRfR) ?_
    exact ⟨by rw [HY.out, HZ.out]; rfl, below_row B2.out (Nat.le_refl _) Z⟩
theorem getN_err (p : List (BitVec 8)) (z : Int) : (getN p z).2 = 0 ∨ 1 ≤ (getN p z).2 ∧ (getN p z).2 ≤ 9 := by
  unfold getN
  split
  · rcases allN_err p with h | ⟨_, h | h⟩
    · exact .inl h
    · exact .inr (by show 1 ≤ (allN p).2 ∧ (allN p).2 ≤ 9; omega)
    · exact .inr (by show 1 ≤ (allN p).2 ∧ (allN p).2 ≤ 9; omega)
  · split
    · exact .inr ⟨by decide, by decide⟩
    · exact .inl rfl
theorem getN_wf (p : List (BitVec 8)) (z : Int) : (getN p z).1.Wf := by
  unfold getN
  split
  · exact zref_wf
  · split
    · exact zref_wf
    · exact getD_wf (allN_wf p) _
theorem setN_some (p : List (BitVec 8)) (z : Int) (r : RefV) (h : (getN p z).2 = 0) : ∃ i : Nat, z = (i : Int) ∧ i < (allN p).1.length ∧ setN p z r = layN ((allN p).1.set i r) ∧ (allN p).2 = 0 := by
  have h2 := h
  unfold getN at h2
  split at h2
  · rename_i g; exact absurd h2 g
  · rename_i g
    split at h2
    · cases h2
    · rename_i g2
      obtain ⟨i, rfl⟩ : ∃ i : Nat, z = (i : Int) := ⟨z.toNat, by omega⟩
      refine ⟨i, rfl, by omega, ?_, by simpa using g⟩
      unfold setN
      rw [if_neg (fun x => x h), Int.toNat_natCast]
set_option maxHeartbeats 1000000 in
theorem rsetN_any (p : List (BitVec 8)) (z : Int) (r : RefV) (hr : r.Wf) (v : Value) (w : World) (hv : Sl w v p) (hl : p.length ≤ 1000) : Calls Try.prog 17 #[v, .int .i64 z, .agg (refC r)] w (SealEnd w (setN p z r).1 (setN p z r).2) := by
  have rb : Below w.heap.size w (w.alloc (.cells (refC r) 37)) := (Below.refl _ _).alloc (Nat.le_refl _) _
  have ra := at_new w (refC r) 37
  have gt := fun wx (h : Below w.heap.size w wx) => rgetN_any p z v wx (hv.below h) hl
  have al := fun wx (h : Below w.heap.size w wx) => rallN_any p v wx (hv.below h) hl
  have rs := refC_size hr; have ro := refC_one r
  have hwf := allN_wf p
  have hle := allN_le p
  have hsome := setN_some p z r
  have hP : setN p z r = if (getN p z).2 ≠ 0 then ([], (getN p z).2) else layN ((allN p).1.set z.toNat r) := rfl
  obtain ⟨Y, hY⟩ : ∃ Y, Y = setN p z r := ⟨_, rfl⟩
  rw [← hY] at hP hsome ⊢
  have gs := refC_size (getN_wf p z); have go := refC_one (getN p z).1
  have hgr : (getN p z).2 = 0 ∨ 1 ≤ (getN p z).2 ∧ (getN p z).2 ≤ 9 := getN_err p z
  unfold RNEnd at gt
  obtain ⟨G, hG⟩ : ∃ G, G = refC (getN p z).1 := ⟨_, rfl⟩
  obtain ⟨e, he⟩ : ∃ e, e = (getN p z).2 := ⟨_, rfl⟩
  rw [← hG, ← he] at gt
  rw [← hG] at gs go
  rw [← he] at hsome hP hgr
  obtain ⟨L, hL⟩ : ∃ L, L = (allN p).1 := ⟨_, rfl⟩
  rw [← hL] at al hwf hle hsome
  obtain ⟨ea, hea⟩ : ∃ ea, ea = (allN p).2 := ⟨_, rfl⟩
  rw [← hea] at al hsome
  obtain ⟨M, hM⟩ : ∃ M, M = refC r := ⟨_, rfl⟩
  rw [← hM] at rb ra rs ro ⊢
  have hx := zeroRfR
  obtain ⟨Z, hZ⟩ : ∃ Z, Z = refC zref := ⟨_, rfl⟩
  have zs : Z.size = 34 := by rw [hZ]; exact refC_size zref_wf
  rw [← hZ] at hx
  have RB := Lib.hid rb; have RA := Lib.hid ra; have GT := Lib.hid gt; have AL := Lib.hid al; have RS := Lib.hid rs; have RO := Lib.hid ro; have WF := Lib.hid hwf; have SOME := Lib.hid hsome; have HP := Lib.hid hP; have GS := Lib.hid gs; have GO := Lib.hid go; have HM := Lib.hid hM; have ZS := Lib.hid zs; have HX := Lib.hid hx; have HR := Lib.hid hr
  clear rb ra gt al rs ro hwf hsome hP gs go hM zs hx hY hG he hL hea hZ hv hl hr
  go_enter Try.func17, Try.ntmps17
  go_upto_region 1 with fail
  obtain ⟨w1, hw1⟩ : ∃ w1, w1 = w.alloc (.cells M 37) := ⟨_, rfl⟩
  rw [← hw1] at RA RB ⊢
  clear hw1
  have hx := HX.out
  go_upto_region 2 with (first
    | (go_at_call 15; refine (GT.out _ RB.out).mono ?_; rintro e2 w2 ⟨rfl, hb2⟩; have B2 : Hid (Below w.heap.size w w2) := Lib.hid (RB.out.trans (hb2.mono RB.out.size)); have A2 := Lib.hid (RA.out.below hb2 RA.out.lt); clear hb2)
    | (refine wpList_store_new (by rfl) 37 _ _ (by rfl) (by rfl) G _ _ (by rfl) (by rfl) (by rw [GS.out]; exact infoRfR) (by rw [GS.out, ZS.out]) GO.out ?_))
  clear hx
  have B3 : Hid (Below w.heap.size w (w2.alloc (.cells G 37))) := Lib.hid (B2.out.alloc B2.out.size _)
  have A3 := Lib.hid (A2.out.alloc (.cells G 37))
  obtain ⟨g3, hg3⟩ : ∃ g, g = w2.heap.size := ⟨_, rfl⟩
  rw [← hg3]
  clear hg3 A2 RA
  generalize (w2.alloc (.cells G 37)) = w3 at *
  by_cases he : e = 0
  · obtain ⟨i, rfl, hi, hy, rfl⟩ := SOME.out he
    subst he
    have HY := Lib.hid hy
    clear hy hgr
    go_wp2_with fail
    refine (AL.out w3 B3.out).mono ?_
    rintro e4 w4 ⟨v4, rfl, ho4, hb4⟩
    have B4 : Hid (Below w.heap.size w w4) := Lib.hid (B3.out.trans (hb4.mono B3.out.size)); have A4 := Lib.hid (A3.out.below hb4 A3.out.lt)
    obtain ⟨g, cap, cur, rfl, hg, hgl, hcur, hfit, hown⟩ := own_store ho4 WF.out HR.out hi
    have hB : ∀ W, W = w4.setRow g (Mem.splice cur (i * 34) (refL r)) → Below w.heap.size w W := fun W e => by rw [e]; exact below_row B4.out (Nat.le_trans B3.out.size hg) _
    have hws : ∀ x ∈ L.set i r, x.Wf := fun x hx => by
      rcases List.mem_or_eq_of_mem_set hx with a | a
      · exact WF.out x a
      · rw [a]; exact HR.out
    have hsl := own_slrf hown hws
    have hlay : ∀ W, W = w4.setRow g (Mem.splice cur (i * 34) (refL r)) → Calls Try.prog 10 #[.slice (some ⟨g, 0, none⟩) L.length cap] W (SealEnd W (layN (L.set i r)).1 (layN (L.set i r)).2) := by
      rintro W rfl
      exact rlayN_any (L.set i r) _ _ hsl hws (by rw [List.length_set]; omega)
    obtain ⟨n, hn⟩ : ∃ n, n = L.length := ⟨_, rfl⟩
    rw [← hn] at hi hlay ⊢
    have hi2 : (i : Int) < (n : Int) := by omega
    have hrl : (refL r) = M.toList := by rw [HM.out]; rfl
    rw [hrl] at hlay hB
    have CUR := Lib.hid hcur; have FIT := Lib.hid hfit; have LAY := Lib.hid hlay; have HB := Lib.hid hB
    clear ho4 hb4 hcur hfit hown hB hws hsl hlay hn hrl hg hgl hle
    go_upto_region 6 with (first
      | (refine wpList_load_all (by rfl) 37 _ (by rfl) w.heap.size (by rfl) _ Try.underlying37 (by rfl) M _ A4.out (by rw [RS.out]; exact infoRfR) ?_)
      | (refine wpList_store_at (by rfl) 37 _ _ (by rfl) (by rfl) g (i * 34) M (by rfl) (by rfl) (by rw [RS.out]; exact infoRfR) cur 37 CUR.out (by rw [RS.out]; exact FIT.out) RO.out ?_))
    have LAY2 := Lib.hid (LAY.out _ rfl); have B5 := Lib.hid (HB.out _ rfl)
    clear LAY HB
    generalize (w4.setRow g (Mem.splice cur (i * 34) M.toList)) = w5 at *
    go_wp2_with fail
    refine (LAY2.out).mono ?_
    rintro e6 w6 ⟨v6, rfl, hs6, hb6⟩
    have S6 := Lib.hid hs6; have B6 : Hid (Below w.heap.size w w6) := Lib.hid (B5.out.trans (hb6.mono B5.out.size))
    clear hs6 hb6
    go_wp2_with fail
    go_ret2
    exact ⟨_, by rw [HY.out]; rfl, by rw [HY.out]; exact S6.out, B6.out⟩
  · have hy : Y = ([], e) := by rw [HP.out, if_pos he]
    have HY := Lib.hid hy
    have he1 : 1 ≤ e ∧ e ≤ 9 := by omega
    clear hy hgr
    go_wp2_with fail
    go_ret2
    exact ⟨_, by rw [HY.out]; rfl, by rw [HY.out]; exact sl_none _, B3.out⟩
end Sha
end Go.Proofs.Ytfbhbdllbapnpaa
namespace Go.Proofs.Ytfbhbdllbapnpaa
namespace Sha
open Go.RowKit Mem
set_option maxRecDepth 100000
/-- It returns this value, and leaves what was. -/
def VEnd13 (v : Value) (w : World) (e : Ending) (w' : World) : Prop := e = .returned v ∧ Below w.heap.size w w'
structure NodeP where
  lay : ∀ L v w, SlRf w v L → (∀ r ∈ L, r.Wf) → L.length ≤ 1000 → Calls Try.prog 8 #[v] w (SealEnd w (layN L).1 (layN L).2)
  parse : ∀ p (z : Int) v w, Sl w v p → p.length ≤ 1000 → Calls Try.prog 12 #[v, .int .i64 z] w (RfEnd w (parseN p z).1 (parseN p z).2)
  get : ∀ p (z : Int) v w, Sl w v p → p.length ≤ 1000 → Calls Try.prog 14 #[v, .int .i64 z] w (RNEnd (getN p z).1 (getN p z).2 w)
  set : ∀ p (z : Int) r v w, r.Wf → Sl w v p → p.length ≤ 1000 → Calls Try.prog 16 #[v, .int .i64 z, .agg (refC r)] w (SealEnd w (setN p z r).1 (setN p z r).2)
/-- It returns references. -/
def RfV (w : World) (L : List RefV) (e : Ending) (w' : World) : Prop := ∃ v, e = .returned v ∧ SlRf w' v L ∧ Below w.heap.size w w'
set_option maxHeartbeats 1000000 in
theorem theirs13_any (L : List RefV) (v : Value) (w : World) (hv : SlRf w v L) (hw : ∀ r ∈ L, r.Wf) (hl : L.length ≤ 1000) : Calls Try.prog 9 #[v] w (RfV w L) := by
  obtain ⟨a, c, rfl⟩ := hv.hd
  have hts := fun n h => refCs_take L n h
  have hgw := fun i => getD_wf hw i
  have htw : ∀ n, ∀ r ∈ L.take n, r.Wf := fun n r hr => hw r (List.mem_of_mem_take hr)
  have hall : L.take L.length = L := List.take_of_length_le (Nat.le_refl _)
  obtain ⟨n, hn⟩ : ∃ n, n = L.length := ⟨_, rfl⟩
  have h0 : refCs (L.take 0) = [] := by rw [List.take_zero]; rfl
  rw [← hn] at hts hall hv hl ⊢
  have HV := Lib.hid hv; have TS := Lib.hid hts; have GW := Lib.hid hgw; have TW := Lib.hid htw; have HN := Lib.hid hn; have ALL := Lib.hid hall; have H0 := Lib.hid h0; have WFL := Lib.hid hw
  clear hv hts hgw htw hn hall h0 hw
  go_enter Try.func9, Try.ntmps9
  go_wp2_with fail
  go_loopw [3, 8] (fun vo vi wr => ∃ i : Nat, i ≤ n ∧ vi = .int .i64 (i : Int) ∧ wr.ownsRow w.heap.size 42 34 vo i (refCs (L.take i)) ∧ Below w.heap.size w wr) (fun _ vi _ => n - (intOf vi).toNat)
  case atStart => exact ⟨0, by omega, rfl, by rw [H0.out]; exact World.ownsRow_nil _ _ _ _, Below.refl _ _⟩
  case round =>
    obtain ⟨i, hi, rfl, ho, hbw⟩ := hrel
    have OW := Lib.hid ho; have BW := Lib.hid hbw; have VW := Lib.hid (HV.out.below hbw)
    clear ho hbw
    by_cases hlt : i < n
    · have hlt2 : (i : Int) < (n : Int) := by omega
      obtain ⟨b, o, ea, _, hr⟩ := slrf_at (i := i) VW.out HN.out hlt
      subst ea
      have hwi := GW.out i
      have hts := TS.out i hlt
      obtain ⟨r, hr0⟩ : ∃ r, r = L.getD i zref := ⟨_, rfl⟩
      rw [← hr0] at hr hwi hts
      have RG := Lib.hid hr; have WI := Lib.hid hwi; have HTS := Lib.hid hts
      have hx := zeroRfR
      have rb := built_rp r hwi
      have rdf := fun wx => rd_rf (w := wx) (e := 42) hwi
      have rl := refL_one r
      have zsz : (refC zref).size = (refC r).size := by rw [refC_size zref_wf, refC_size hwi]
      obtain ⟨M, hM⟩ : ∃ M, M = refC r := ⟨_, rfl⟩
      obtain ⟨Z, hZ⟩ : ∃ Z, Z = refC zref := ⟨_, rfl⟩
      have ms : M.size = 34 := by rw [hM]; exact refC_size hwi
      have mo : M.all (·.oneCell') = true := by rw [hM]; exact refC_one r
      have hrg : ∀ wx : World, wx.rangeAt b (o + i * 34) (refL r) → wx.rangeAt b (o + i * 34) M.toList := fun wx h => by rw [hM]; exact h
      rw [← hM] at zsz rb rdf
      rw [← hZ] at hx zsz
      have MS := Lib.hid ms; have MO := Lib.hid mo; have ZSZ := Lib.hid zsz; have RB := Lib.hid rb; have RDF := Lib.hid rdf; have RLO := Lib.hid rl; have RGM := Lib.hid (hrg wr RG.out)
      have B3 : Hid (Below w.heap.size w (wr.alloc (.cells M 37))) := Lib.hid (BW.out.alloc BW.out.size _)
      have A3 := Lib.hid (at_new wr M 37)
      have O3 : Hid ((wr.alloc (.cells M 37)).ownsRow w.heap.size 42 34 u3 i (refCs (L.take i))) := Lib.hid (World.ownsRow.alloc OW.out _)
      clear hr hwi hts hr0 rb rdf rl zsz hM hZ ms mo hrg
      go_upto_region 5 with (first
        | (refine wpList_load_mid (by rfl) 37 _ (by rfl) b (o + i * 34) (by rfl) M.toList _ RGM.out Try.underlying37 (by rfl) (by rw [infoRfR, Array.length_toList, MS.out]) ?_; rw [Array.toArray_toList])
        | (refine wpList_store_new (by rfl) 37 _ _ (by rfl) (by rfl) M _ _ (by rfl) (by rfl) (by rw [MS.out]; exact infoRfR) ZSZ.out.symm MO.out ?_))
      clear hx
      obtain ⟨l, hl⟩ : ∃ l, l = wr.heap.size := ⟨_, rfl⟩
      rw [← hl] at A3 ⊢
      clear hl
      generalize (wr.alloc (.cells M 37)) = w3 at *
      have B4 : Hid (Below w.heap.size w (w3.alloc (.cells M 42))) := Lib.hid (B3.out.alloc B3.out.size _)
      have O4 : Hid ((w3.alloc (.cells M 42)).ownsRow w.heap.size 42 34 u3 i (refCs (L.take i))) := Lib.hid (World.ownsRow.alloc O3.out _)
      go_wp2_with (first
        | (refine wpList_load_all (by rfl) 37 _ (by rfl) l (by rfl) _ Try.underlying37 (by rfl) M _ A3.out (by rw [MS.out]; exact infoRfR) ?_)
        | ((refine Go.Great.wpList_buildSliceTo (by rfl) 28 42 1 _ (by rfl) _ (by rfl) _ (by rfl) Try.underlying28 M (by first | (simp [Act.eval, Act.put]; exact RB.out) | (go_simp; exact RB.out) | (simp only [List.map_toArray, List.map_cons, List.map_nil]; exact RB.out)) ?_))
        | (at_builtin; go_loud (refine wpList_append_app (by rfl) _ _ 28 (by rfl) (.slice (some ⟨w3.heap.size, 0, none⟩) 1 1) i 1 34 (refL r) (.agg (refC zref)) 48 elemRP (refC_size zref_wf) (by decide) (by rfl) O4.out (by rfl) (RDF.out w3) RLO.out (by omega) (by omega) B4.out.size ?_); intro v5 w5 ho5 ha5 hb5; have O5 : Hid (w5.ownsRow w.heap.size 42 34 v5 (i + 1) (refCs (L.take (i + 1)))) := Lib.hid (by rw [HTS.out]; exact ho5); have B5 := Lib.hid (B4.out.trans hb5); clear ho5 ha5 hb5))
      go_roundw
      case rel => exact ⟨i + 1, by omega, by go_num, O5.out, B5.out⟩
      case measure => simp [intOf]; omega
    · have hin : i = n := by omega
      subst hin
      have ho := OW.out
      rw [ALL.out, HN.out] at ho
      have SV := Lib.hid (own_slrf ho WFL.out)
      clear ho OW
      go_wp2_with fail
      go_ret
      exact ⟨_, rfl, SV.out, BW.out⟩
/-- Are two lists of references the same? -/
def sameRf (L K : List RefV) : Bool := decide (L.length = K.length ∧ ∀ i, i < L.length → sameRef (L.getD i zref) (K.getD i zref) = true)
theorem sameRf_iff (L K : List RefV) : sameRf L K = true ↔ L = K := by
  unfold sameRf
  rw [decide_eq_true_iff]
  constructor
  · rintro ⟨h, h2⟩
    apply List.ext_getElem h
    intro i h1 h3
    have := (sameRef_iff _ _).1 (h2 i h1)
    simpa [List.getD_eq_getElem?_getD, h1, h3] using this
  · rintro rfl
    exact ⟨rfl, fun i _ => sameRef_self _⟩
set_option maxHeartbeats 1000000 in
theorem same13_any (L K : List RefV) (va vb : Value) (w : World) (ha : SlRf w va L) (hb : SlRf w vb K) (hL : ∀ r ∈ L, r.Wf) (hK : ∀ r ∈ K, r.Wf) (hl : L.length ≤ 1000) (_hk : K.length ≤ 1000) : Calls Try.prog 18 #[va, vb] w (VEnd13 (.bool (sameRf L K)) w) := by
  obtain ⟨aa, ca, rfl⟩ := ha.hd
  obtain ⟨ab, cb, rfl⟩ := hb.hd
  by_cases hlen : L.length = K.length
  · have hno : ∀ i, i < L.length → sameRef (L.getD i zref) (K.getD i zref) = false → sameRf L K = false := fun i hi h => by
      unfold sameRf
      refine decide_eq_false (fun hc => ?_)
      rw [hc.2 i hi] at h
      cases h
    have hyes : (∀ i, i < L.length → sameRef (L.getD i zref) (K.getD i zref) = true) → sameRf L K = true := fun h => by
      unfold sameRf
      exact decide_eq_true ⟨hlen, h⟩
    have hne := fun i => neqRR (getD_wf hL i) (getD_wf hK i)
    have hsa := fun i => refC_size (getD_wf hL i)
    have hsb := fun i => refC_size (getD_wf hK i)
    rw [← hlen] at hb ⊢
    obtain ⟨Y, hY⟩ : ∃ Y, Y = sameRf L K := ⟨_, rfl⟩
    rw [← hY] at hno hyes ⊢
    obtain ⟨n, hn⟩ : ∃ n, n = L.length := ⟨_, rfl⟩
    have hnk : n = K.length := by omega
    rw [← hn] at ha hb hno hyes hl ⊢
    have HA := Lib.hid ha; have HB := Lib.hid hb; have NO := Lib.hid hno; have YES := Lib.hid hyes; have NE := Lib.hid hne; have SA := Lib.hid hsa; have SB := Lib.hid hsb; have HN := Lib.hid hn; have HNK := Lib.hid hnk
    clear ha hb hno hyes hne hsa hsb hn hnk hY hlen _hk
    go_enter Try.func18, Try.ntmps18
    go_wp2_with fail
    go_loopw [13] (fun vi wr => ∃ i : Nat, i ≤ n ∧ vi = .int .i64 (i : Int) ∧ (∀ k, k < i → sameRef (L.getD k zref) (K.getD k zref) = true) ∧ Below w.heap.size w wr) (fun vi _ => n - (intOf vi).toNat)
    case atStart => exact ⟨0, by omega, rfl, fun k _hk => by omega, Below.refl _ _⟩
    case round =>
      obtain ⟨i, hi, rfl, hal, hbw⟩ := hrel
      have BW := Lib.hid hbw; have AL := Lib.hid hal; have VA := Lib.hid (HA.out.below hbw); have VB := Lib.hid (HB.out.below hbw)
      clear hbw hal
      by_cases hlt : i < n
      · have hlt2 : (i : Int) < (n : Int) := by omega
        obtain ⟨b1, o1, e1, l1, r1⟩ := slrf_at (i := i) VA.out HN.out hlt
        obtain ⟨b2, o2, e2, l2, r2⟩ := slrf_at (i := i) VB.out HNK.out hlt
        subst e1 e2
        have hne := NE.out i; have hsa := SA.out i; have hsb := SB.out i; have hno := NO.out i hlt
        have hal2 : sameRef (L.getD i zref) (K.getD i zref) = true → ∀ k, k < i + 1 → sameRef (L.getD k zref) (K.getD k zref) = true := fun h k _hk => by
          rcases Nat.lt_or_ge k i with x | x
          · exact AL.out k x
          · rw [show k = i by omega]; exact h
        obtain ⟨x, hx⟩ : ∃ x, x = L.getD i zref := ⟨_, rfl⟩
        obtain ⟨y, hy⟩ : ∃ y, y = K.getD i zref := ⟨_, rfl⟩
        rw [← hx, ← hy] at hne hno
        rw [← hx] at hsa r1
        rw [← hy] at hsb r2
        rw [← hx, ← hy] at hal2
        have R1 := Lib.hid r1; have R2 := Lib.hid r2; have L1 := Lib.hid l1; have L2 := Lib.hid l2; have SX := Lib.hid hsa; have SY := Lib.hid hsb; have AL2 := Lib.hid hal2; have NX := Lib.hid hno
        obtain ⟨q, hq⟩ : ∃ q, q = sameRef x y := ⟨_, rfl⟩
        rw [← hq] at hne
        have NEQ := Lib.hid hne; have HQ := Lib.hid hq
        clear r1 r2 l1 l2 hsa hsb hne hno hal2 hx hy hq
        go_upto_region 6 with fail
        have D0 : Hid (Below wr.heap.size wr wr.drew) := Lib.hid (Below.refl _ _).drew
        refine wp_region_plan_in (fun x' => Below wr.heap.size wr x') (.take 0 (.take 1 (.take 2 (.take 3 (.take 4 (.take 5 (.take 6 (.take 7 (.take 8 .done))))))))) (by kernel_rfl) (by kernel_rfl) (by kernel_rfl) D0.out ?_
        (first | (refine plan_move _ _ (by rfl) (by rfl) (.inl (by rfl)) (by first | (with_reducible exact Mem.ev_const _ _) | (with_reducible exact Mem.ev_zero _ _ _) | (with_reducible (apply Eq.trans (Mem.ev_tmp _ _ _)); simp only [List.getD_cons_succ, List.getD_cons_zero] <;> rfl)) ?_) | (refine plan_move _ _ (by rfl) (by rfl) (.inr (by rfl)) (by first | (with_reducible exact Mem.ev_const _ _) | (with_reducible exact Mem.ev_zero _ _ _) | (with_reducible (apply Eq.trans (Mem.ev_tmp _ _ _)); simp only [List.getD_cons_succ, List.getD_cons_zero] <;> rfl)) ?_) | (refine plan_pick_t _ _ _ _ (by rfl) (by rfl) (by rfl) (by first | (with_reducible exact Mem.ev_const _ _) | (with_reducible exact Mem.ev_zero _ _ _) | (with_reducible (apply Eq.trans (Mem.ev_tmp _ _ _)); simp only [List.getD_cons_succ, List.getD_cons_zero] <;> rfl)) (by first | (with_reducible exact Mem.ev_const _ _) | (with_reducible exact Mem.ev_zero _ _ _) | (with_reducible (apply Eq.trans (Mem.ev_tmp _ _ _)); simp only [List.getD_cons_succ, List.getD_cons_zero] <;> rfl)) ?_) | (refine plan_pick_f _ _ _ _ (by rfl) (by rfl) (by rfl) (by first | (with_reducible exact Mem.ev_const _ _) | (with_reducible exact Mem.ev_zero _ _ _) | (with_reducible (apply Eq.trans (Mem.ev_tmp _ _ _)); simp only [List.getD_cons_succ, List.getD_cons_zero] <;> rfl)) (by first | (with_reducible exact Mem.ev_const _ _) | (with_reducible exact Mem.ev_zero _ _ _) | (with_reducible (apply Eq.trans (Mem.ev_tmp _ _ _)); simp only [List.getD_cons_succ, List.getD_cons_zero] <;> rfl)) ?_))
        (simp only [Act.put, List.setIfInBounds_toArray, List.set_cons_zero, List.set_cons_succ])
        (first | (refine plan_move _ _ (by rfl) (by rfl) (.inl (by rfl)) (by first | (with_reducible exact Mem.ev_const _ _) | (with_reducible exact Mem.ev_zero _ _ _) | (with_reducible (apply Eq.trans (Mem.ev_tmp _ _ _)); simp only [List.getD_cons_succ, List.getD_cons_zero] <;> rfl)) ?_) | (refine plan_move _ _ (by rfl) (by rfl) (.inr (by rfl)) (by first | (with_reducible exact Mem.ev_const _ _) | (with_reducible exact Mem.ev_zero _ _ _) | (with_reducible (apply Eq.trans (Mem.ev_tmp _ _ _)); simp only [List.getD_cons_succ, List.getD_cons_zero] <;> rfl)) ?_) | (refine plan_pick_t _ _ _ _ (by rfl) (by rfl) (by rfl) (by first | (with_reducible exact Mem.ev_const _ _) | (with_reducible exact Mem.ev_zero _ _ _) | (with_reducible (apply Eq.trans (Mem.ev_tmp _ _ _)); simp only [List.getD_cons_succ, List.getD_cons_zero] <;> rfl)) (by first | (with_reducible exact Mem.ev_const _ _) | (with_reducible exact Mem.ev_zero _ _ _) | (with_reducible (apply Eq.trans (Mem.ev_tmp _ _ _)); simp only [List.getD_cons_succ, List.getD_cons_zero] <;> rfl)) ?_) | (refine plan_pick_f _ _ _ _ (by rfl) (by rfl) (by rfl) (by first | (with_reducible exact Mem.ev_const _ _) | (with_reducible exact Mem.ev_zero _ _ _) | (with_reducible (apply Eq.trans (Mem.ev_tmp _ _ _)); simp only [List.getD_cons_succ, List.getD_cons_zero] <;> rfl)) (by first | (with_reducible exact Mem.ev_const _ _) | (with_reducible exact Mem.ev_zero _ _ _) | (with_reducible (apply Eq.trans (Mem.ev_tmp _ _ _)); simp only [List.getD_cons_succ, List.getD_cons_zero] <;> rfl)) ?_))
        (simp only [Act.put, List.setIfInBounds_toArray, List.set_cons_zero, List.set_cons_succ])
        refine plan_index_z 28 42 _ _ b1 o1 n ca 34 i (by rfl) (by rfl) (by rfl) (by first | (with_reducible exact Mem.ev_const _ _) | (with_reducible exact Mem.ev_zero _ _ _) | (with_reducible (apply Eq.trans (Mem.ev_tmp _ _ _)); simp only [List.getD_cons_succ, List.getD_cons_zero] <;> rfl)) (by first | (with_reducible exact Mem.ev_const _ _) | (with_reducible exact Mem.ev_zero _ _ _) | (with_reducible (apply Eq.trans (Mem.ev_tmp _ _ _)); simp only [List.getD_cons_succ, List.getD_cons_zero] <;> rfl)) (by omega) Try.underlying28 (by kernel_rfl) ?_
        (simp only [Act.put, List.setIfInBounds_toArray, List.set_cons_zero, List.set_cons_succ])
        refine plan_load_range 42 _ b1 (o1 + i * 34) _ (refC x) (by rfl) (by rfl) (by rfl) (by first | (with_reducible exact Mem.ev_const _ _) | (with_reducible exact Mem.ev_zero _ _ _) | (with_reducible (apply Eq.trans (Mem.ev_tmp _ _ _)); simp only [List.getD_cons_succ, List.getD_cons_zero] <;> rfl)) (fun w' hw' => range_block R1.out (hw'.block b1 L1.out)) Try.underlying42 (by rfl) (by rw [SX.out]; exact infoRfP) ?_
        (simp only [Act.put, List.setIfInBounds_toArray, List.set_cons_zero, List.set_cons_succ])
        (first | (refine plan_move _ _ (by rfl) (by rfl) (.inl (by rfl)) (by first | (with_reducible exact Mem.ev_const _ _) | (with_reducible exact Mem.ev_zero _ _ _) | (with_reducible (apply Eq.trans (Mem.ev_tmp _ _ _)); simp only [List.getD_cons_succ, List.getD_cons_zero] <;> rfl)) ?_) | (refine plan_move _ _ (by rfl) (by rfl) (.inr (by rfl)) (by first | (with_reducible exact Mem.ev_const _ _) | (with_reducible exact Mem.ev_zero _ _ _) | (with_reducible (apply Eq.trans (Mem.ev_tmp _ _ _)); simp only [List.getD_cons_succ, List.getD_cons_zero] <;> rfl)) ?_) | (refine plan_pick_t _ _ _ _ (by rfl) (by rfl) (by rfl) (by first | (with_reducible exact Mem.ev_const _ _) | (with_reducible exact Mem.ev_zero _ _ _) | (with_reducible (apply Eq.trans (Mem.ev_tmp _ _ _)); simp only [List.getD_cons_succ, List.getD_cons_zero] <;> rfl)) (by first | (with_reducible exact Mem.ev_const _ _) | (with_reducible exact Mem.ev_zero _ _ _) | (with_reducible (apply Eq.trans (Mem.ev_tmp _ _ _)); simp only [List.getD_cons_succ, List.getD_cons_zero] <;> rfl)) ?_) | (refine plan_pick_f _ _ _ _ (by rfl) (by rfl) (by rfl) (by first | (with_reducible exact Mem.ev_const _ _) | (with_reducible exact Mem.ev_zero _ _ _) | (with_reducible (apply Eq.trans (Mem.ev_tmp _ _ _)); simp only [List.getD_cons_succ, List.getD_cons_zero] <;> rfl)) (by first | (with_reducible exact Mem.ev_const _ _) | (with_reducible exact Mem.ev_zero _ _ _) | (with_reducible (apply Eq.trans (Mem.ev_tmp _ _ _)); simp only [List.getD_cons_succ, List.getD_cons_zero] <;> rfl)) ?_))
        (simp only [Act.put, List.setIfInBounds_toArray, List.set_cons_zero, List.set_cons_succ])
        (first | (refine plan_move _ _ (by rfl) (by rfl) (.inl (by rfl)) (by first | (with_reducible exact Mem.ev_const _ _) | (with_reducible exact Mem.ev_zero _ _ _) | (with_reducible (apply Eq.trans (Mem.ev_tmp _ _ _)); simp only [List.getD_cons_succ, List.getD_cons_zero] <;> rfl)) ?_) | (refine plan_move _ _ (by rfl) (by rfl) (.inr (by rfl)) (by first | (with_reducible exact Mem.ev_const _ _) | (with_reducible exact Mem.ev_zero _ _ _) | (with_reducible (apply Eq.trans (Mem.ev_tmp _ _ _)); simp only [List.getD_cons_succ, List.getD_cons_zero] <;> rfl)) ?_) | (refine plan_pick_t _ _ _ _ (by rfl) (by rfl) (by rfl) (by first | (with_reducible exact Mem.ev_const _ _) | (with_reducible exact Mem.ev_zero _ _ _) | (with_reducible (apply Eq.trans (Mem.ev_tmp _ _ _)); simp only [List.getD_cons_succ, List.getD_cons_zero] <;> rfl)) (by first | (with_reducible exact Mem.ev_const _ _) | (with_reducible exact Mem.ev_zero _ _ _) | (with_reducible (apply Eq.trans (Mem.ev_tmp _ _ _)); simp only [List.getD_cons_succ, List.getD_cons_zero] <;> rfl)) ?_) | (refine plan_pick_f _ _ _ _ (by rfl) (by rfl) (by rfl) (by first | (with_reducible exact Mem.ev_const _ _) | (with_reducible exact Mem.ev_zero _ _ _) | (with_reducible (apply Eq.trans (Mem.ev_tmp _ _ _)); simp only [List.getD_cons_succ, List.getD_cons_zero] <;> rfl)) (by first | (with_reducible exact Mem.ev_const _ _) | (with_reducible exact Mem.ev_zero _ _ _) | (with_reducible (apply Eq.trans (Mem.ev_tmp _ _ _)); simp only [List.getD_cons_succ, List.getD_cons_zero] <;> rfl)) ?_))
        (simp only [Act.put, List.setIfInBounds_toArray, List.set_cons_zero, List.set_cons_succ])
        refine plan_index_z 22 37 _ _ b2 o2 n cb 34 i (by rfl) (by rfl) (by rfl) (by first | (with_reducible exact Mem.ev_const _ _) | (with_reducible exact Mem.ev_zero _ _ _) | (with_reducible (apply Eq.trans (Mem.ev_tmp _ _ _)); simp only [List.getD_cons_succ, List.getD_cons_zero] <;> rfl)) (by first | (with_reducible exact Mem.ev_const _ _) | (with_reducible exact Mem.ev_zero _ _ _) | (with_reducible (apply Eq.trans (Mem.ev_tmp _ _ _)); simp only [List.getD_cons_succ, List.getD_cons_zero] <;> rfl)) (by omega) Try.underlying22 (by kernel_rfl) ?_
        (simp only [Act.put, List.setIfInBounds_toArray, List.set_cons_zero, List.set_cons_succ])
        refine plan_load_range 37 _ b2 (o2 + i * 34) _ (refC y) (by rfl) (by rfl) (by rfl) (by first | (with_reducible exact Mem.ev_const _ _) | (with_reducible exact Mem.ev_zero _ _ _) | (with_reducible (apply Eq.trans (Mem.ev_tmp _ _ _)); simp only [List.getD_cons_succ, List.getD_cons_zero] <;> rfl)) (fun w' hw' => range_block R2.out (hw'.block b2 L2.out)) Try.underlying37 (by rfl) (by rw [SY.out]; exact infoRfR) ?_
        (simp only [Act.put, List.setIfInBounds_toArray, List.set_cons_zero, List.set_cons_succ])
        refine plan_bin _ _ _ _ _ _ _ (.bool (!q)) (by rfl) (by rfl) (by rfl) (by first | (with_reducible exact Mem.ev_const _ _) | (with_reducible exact Mem.ev_zero _ _ _) | (with_reducible (apply Eq.trans (Mem.ev_tmp _ _ _)); simp only [List.getD_cons_succ, List.getD_cons_zero] <;> rfl)) (by first | (with_reducible exact Mem.ev_const _ _) | (with_reducible exact Mem.ev_zero _ _ _) | (with_reducible (apply Eq.trans (Mem.ev_tmp _ _ _)); simp only [List.getD_cons_succ, List.getD_cons_zero] <;> rfl)) (fun wx => NEQ.out _ _ wx) ?_
        (simp only [Act.put, List.setIfInBounds_toArray, List.set_cons_zero, List.set_cons_succ])
        refine plan_nil ?_
        have BD : Hid (Below w.heap.size w wr.drew) := Lib.hid BW.out.drew
        cases hqq : q
        · have hy : Y = false := NX.out (by rw [← HQ.out]; exact hqq)
          have HY := Lib.hid hy
          clear hy hqq
          go_wp2_with fail
          go_ret
          exact ⟨by rw [HY.out]; rfl, BD.out⟩
        · have hal3 := AL2.out (by rw [← HQ.out]; exact hqq)
          have AL3 := Lib.hid hal3
          clear hal3 hqq
          go_wp2_with fail
          go_roundw
          case rel => exact ⟨i + 1, by omega, by go_num, AL3.out, BD.out⟩
          case measure => simp [intOf]; omega
      · have hin : i = n := by omega
        subst hin
        have hy : Y = true := YES.out AL.out
        have HY := Lib.hid hy
        clear hy
        go_wp2_with fail
        go_ret
        exact ⟨by rw [HY.out]; rfl, BW.out⟩
  · have hy : sameRf L K = false := by unfold sameRf; exact decide_eq_false (fun h => hlen h.1)
    rw [hy]
    obtain ⟨n, hn⟩ : ∃ n, n = L.length := ⟨_, rfl⟩
    obtain ⟨m, hm⟩ : ∃ m, m = K.length := ⟨_, rfl⟩
    rw [← hn, ← hm] at hlen ⊢
    have e1 : ((n : Int) == (m : Int)) = false := beq_eq_false_iff_ne.mpr (by omega)
    have e2 : ¬ (n : Int) = (m : Int) := by omega
    clear ha hb hy hn hm hl _hk
    go_enter Try.func18, Try.ntmps18
    go_wp2_with fail
    go_ret
    exact ⟨rfl, Below.refl _ _⟩
end Sha
end Go.Proofs.Ytfbhbdllbapnpaa
namespace Go.Proofs.Ytfbhbdllbapnpaa
namespace Sha
open Go.RowKit Mem
set_option maxRecDepth 100000
def r5 : RefV := ⟨0, 5, List.replicate 32 0⟩
def r1 : RefV := ⟨1, 0, List.replicate 32 0⟩
theorem r5_wf : r5.Wf := ⟨by decide, by decide, by decide⟩
theorem r1_wf : r1.Wf := ⟨by decide, by decide, by decide⟩
theorem two_wf : ∀ r ∈ [r5, r1], r.Wf := by
  intro r hr
  simp only [List.mem_cons, List.not_mem_nil, or_false] at hr
  rcases hr with rfl | rfl
  · exact r5_wf
  · exact r1_wf
def litD : Array Value := (refL r5 ++ refL r1).toArray
theorem buildR5 (w : World) : (Instr.build 42 #[(1, .int .u32 5)]).run Try.prog w = .ok (.agg (refC r5)) w := run_build w _ _ _ (by kernel_rfl)
theorem buildR1 (w : World) : (Instr.build 42 #[(0, .int .i64 1)]).run Try.prog w = .ok (.agg (refC r1)) w := run_build w _ _ _ (by kernel_rfl)
theorem builtD : Try.prog.builtSlice 42 2 [(0, .agg (refC r5)), (1, .agg (refC r1))] = some litD := by show Program.builtSlice _ _ _ _ = some _; kernel_rfl
theorem litD_sl (w : World) : SlRf (w.alloc (.cells litD 42)) (.slice (some ⟨w.heap.size, 0, none⟩) 2 2) [r5, r1] := by
  have h := World.ownsRow_lit (base := w.heap.size) (e := 42) (size := 34) w litD 2 (Nat.le_refl _) (by decide) (by decide)
  have e : litD.toList = refCs [r5, r1] := by unfold litD refCs; simp
  rw [e] at h
  exact own_slrf (L := [r5, r1]) h two_wf
theorem two_ok : ∃ pg, layN [r5, r1] = (pg, 0) := by
  have h : (layN [r5, r1]).2 = 0 := by
    unfold layN
    rw [if_neg (by decide)]
  exact ⟨(layN [r5, r1]).1, by rw [← h]⟩
theorem two_get {pg : List (BitVec 8)} (h : layN [r5, r1] = (pg, 0)) : getN pg 1 = (r1, 0) := by
  unfold getN
  rw [lay_all two_wf h, if_neg (fun x => x rfl), if_neg (by simp)]
  rfl
theorem zero_page : parseN (List.replicate 256 0) 1 = ([], 9) := by
  have hm : manyN (List.replicate 256 0) = 0 := by decide
  have ha : allN (List.replicate 256 0) = ([], 9) := by
    unfold allN
    rw [if_neg (by decide), hm]
    have hl : layN (refsN (List.replicate 256 0) 0) = ([], 1) := by
      unfold layN
      exact if_pos (.inl (by decide))
    rw [hl, if_neg (by intro e; injection e with _ e; cases e)]
  unfold parseN
  rw [ha, if_neg (by decide), if_neg (by decide)]
set_option maxHeartbeats 1000000 in
theorem alive13_any (S : NodeP) (w : World) : Calls Try.prog 7 #[] w fun e w' => e = .returned (.bool true) ∧ Below w.heap.size w w' := by
  obtain ⟨pg, hpg⟩ := two_ok
  have hlen := layN_length two_wf hpg
  have hget := two_get hpg
  have hmany := (lay_many hpg).2
  have lay : ∀ wx W : World, W = wx.alloc (.cells litD 42) → Below wx.heap.size wx W ∧ Calls Try.prog 8 #[.slice (some ⟨wx.heap.size, 0, none⟩) 2 2] W (SealEnd W pg 0) := by
    rintro wx W rfl
    refine ⟨(Below.refl _ _).alloc (Nat.le_refl _) _, ?_⟩
    have h := S.lay [r5, r1] _ _ (litD_sl wx) two_wf (by decide)
    rw [hpg] at h
    exact h
  have get : ∀ v wx, Sl wx v pg → Calls Try.prog 14 #[v, .int .i64 1] wx (RNEnd r1 0 wx) := fun v wx h => by
    have k := S.get pg 1 v wx h (by rw [hlen]; decide)
    rw [hget] at k
    exact k
  have prs : ∀ v wx, Sl wx v (List.replicate 256 0) → Calls Try.prog 12 #[v, .int .i64 1] wx (RfEnd wx [] 9) := fun v wx h => by
    have k := S.parse (List.replicate 256 0) 1 v wx h (by decide)
    rw [zero_page] at k
    exact k
  have h2 : (pg.getD 0 0).toNat = 2 := hmany
  have c1 : (refC r1)[0]? = some (.int .i64 1) := ref0 r1
  have m1 := refC_size r1_wf; have m1o := refC_one r1
  have hx := zeroRfP
  have zsz : (refC zref).size = 34 := refC_size zref_wf
  obtain ⟨A1, hA1⟩ : ∃ A, A = refC r1 := ⟨_, rfl⟩
  obtain ⟨Z, hZ⟩ : ∃ Z, Z = refC zref := ⟨_, rfl⟩
  unfold RNEnd at get
  rw [← hA1] at c1 m1 m1o get
  rw [← hZ] at hx zsz
  obtain ⟨i8, hi8, hz8, hs8, hb8⟩ := info_parts infoU8
  have I8 := Lib.hid hi8; have Z8 := Lib.hid hz8; have S8 := Lib.hid hs8; have B8' := Lib.hid hb8
  have LAY := Lib.hid lay; have GET := Lib.hid get; have PRS := Lib.hid prs; have H2 := Lib.hid h2; have C1 := Lib.hid c1; have M1 := Lib.hid m1; have M1O := Lib.hid m1o; have ZSZ := Lib.hid zsz; have LEN := Lib.hid hlen; have HX := Lib.hid hx
  clear hi8 hz8 hs8 hb8 lay get prs h2 c1 m1 m1o zsz hlen hx hA1 hZ hget hmany hpg
  go_enter Try.func7, Try.ntmps7
  go_wp2_with fail
  obtain ⟨W, hW⟩ : ∃ W, W = w.alloc (.cells litD 42) := ⟨_, rfl⟩
  obtain ⟨hg0, hlay⟩ := LAY.out w W hW
  have G0 := Lib.hid hg0
  refine (show Calls Try.prog 8 #[.slice (some ⟨w.heap.size, 0, none⟩) 2 2] (w.alloc (.cells litD 42)) (SealEnd W pg 0) by rw [← hW]; exact hlay).mono ?_
  clear hlay hg0 hW LAY
  rintro e w2 ⟨v2, rfl, hs2, hb2⟩
  have S2 := Lib.hid hs2; have G2 : Hid (Below w.heap.size w w2) := Lib.hid (G0.out.trans (hb2.mono G0.out.size))
  obtain ⟨b, o, c, rfl, _, hlt, hcell⟩ := sl_some hs2 (by rw [LEN.out]; decide)
  have hc0 := hcell 0 (by rw [LEN.out]; decide)
  rw [H2.out] at hc0
  rw [LEN.out] at S2 ⊢
  have C0 := Lib.hid hc0; have LT := Lib.hid hlt
  clear hs2 hb2 hcell hc0 hlt G0
  go_wp2_with fail
  refine (GET.out _ _ S2.out).mono ?_
  rintro e w3 ⟨rfl, hb3⟩
  have S3 := Lib.hid (S2.out.below hb3); have G3 : Hid (Below w.heap.size w w3) := Lib.hid (G2.out.trans (hb3.mono G2.out.size))
  have C3 : Hid (w3.cell? ⟨b, o + 0, none⟩ = some (.int .u8 ((2 : Nat) : Int))) := Lib.hid ((hb3.cell (p := ⟨b, o + 0, none⟩) LT.out).trans C0.out)
  have L3 : Hid (b < w3.heap.size) := Lib.hid (Nat.lt_of_lt_of_le LT.out hb3.size)
  clear hb3 S2 G2 C0 LT
  have hx := HX.out
  go_upto_region 3 with (refine wpList_store_new (by rfl) 42 _ _ (by rfl) (by rfl) A1 _ _ (by rfl) (by rfl) (by rw [M1.out]; exact infoRfP) (by rw [M1.out, ZSZ.out]) M1O.out ?_)
  clear hx
  have G4 : Hid (Below w.heap.size w (w3.alloc (.cells A1 42))) := Lib.hid (G3.out.alloc G3.out.size _)
  have A4 := Lib.hid (at_new w3 A1 42)
  have B4 : Hid (Below w3.heap.size w3 (w3.alloc (.cells A1 42))) := Lib.hid ((Below.refl _ _).alloc (Nat.le_refl _) _)
  have S4 := Lib.hid (S3.out.below B4.out)
  have C4 : Hid ((w3.alloc (.cells A1 42)).cell? ⟨b, o + 0, none⟩ = some (.int .u8 ((2 : Nat) : Int))) := Lib.hid ((B4.out.cell (p := ⟨b, o + 0, none⟩) L3.out).trans C3.out)
  have L4 : Hid (b < (w3.alloc (.cells A1 42)).heap.size) := Lib.hid (Nat.lt_of_lt_of_le L3.out B4.out.size)
  obtain ⟨g, hg⟩ : ∃ g, g = w3.heap.size := ⟨_, rfl⟩
  rw [← hg] at A4 ⊢
  clear hg B4 S3 C3 L3 G3
  generalize (w3.alloc (.cells A1 42)) = w4 at *
  go_wp2_with (refine wpList_make_full _ (by rfl) _ _ 24 (by rfl) w4.heap.size 5 i8 (.int .u8 0) 1 Try.underlying24 I8.out Z8.out S8.out .i64 .i64 256 256 256 (by rfl) (by rfl) (by rfl) (by rfl) (by rw [B8'.out]; decide) (by decide) (Nat.le_refl _) ?_; intro wm hom hgm; have OM : Hid (OwnB wm w4.heap.size (.slice (some ⟨w4.heap.size, 0, none⟩) 256 256) (List.replicate 256 0)) := Lib.hid (by rw [made_zeros] at hom; unfold OwnB; rw [List.length_replicate]; exact hom); have KM : Hid (Below w4.heap.size w4 wm) := Lib.hid ((Below.refl _ _).grown hgm (Nat.le_refl _) (fun _ h => by cases h)); clear hom hgm)
  refine (PRS.out _ _ OM.out.sl).mono ?_
  rintro e w5 ⟨v5, rfl, _, hb5⟩
  have KB : Hid (Below w4.heap.size w4 w5) := Lib.hid (KM.out.trans (hb5.mono KM.out.size))
  clear hb5 KM OM
  have cpl : w5.cell? ⟨g, 0, none⟩ = some (.int .i64 1) := ((A4.out.below KB.out A4.out.lt).cell 0).trans C1.out
  have cb : w5.cell? ⟨b, o + 0, none⟩ = some (.int .u8 2) := (KB.out.cell (p := ⟨b, o + 0, none⟩) L4.out).trans C4.out
  have cb2 : w5.cell? ⟨b, o, none⟩ = some (.int .u8 2) := cb
  have G5 : Hid (Below w.heap.size w w5) := Lib.hid (G4.out.trans (KB.out.mono G4.out.size))
  clear KB C4 L4 A4 S4 G4
  go_wp2_with fail
  go_ret
  exact ⟨rfl, G5.out⟩
end Sha
end Go.Proofs.Ytfbhbdllbapnpaa
