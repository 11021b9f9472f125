/- The walk of the law ShaParts: how bytes are parted plays no part. -/
import Derived.Test.YtmnhpochojplgaaDoorBytes
namespace Go.Proofs.YtmnhpochojplgaaDoor
namespace Sha
open Go.RowKit Mem

/-- What stands at each round's head: the bytes so far as one slice, and the state of them. -/
structure PaInv (w : World) (Bs : Nat) (v : Value) (l : List (BitVec 8)) (wr : World) : Prop where
  own : OwnB wr w.heap.size v l
  st : At wr Bs (stRow (feeds fed0 l).H (feeds fed0 l).T l.length) 34
  b : Below w.heap.size w wr
def PartRel (w : World) (Bs : Nat) (ps : List (List (BitVec 8))) (v i : Value) (wr : World) : Prop :=
  ∃ j : Nat, j ≤ ps.length ∧ i = .int .i64 j ∧ (ps.take j).flatten.length ≤ 1200 ∧ PaInv w Bs v (ps.take j).flatten wr
set_option maxRecDepth 100000 in
set_option maxHeartbeats 1000000 in
theorem parts_any (ps : List (List (BitVec 8))) (v : Value) (w : World) (hp : ps.length ≤ 9223372036854775807) (hpp : ∀ i, i < ps.length → (ps.getD i []).length ≤ 9223372036854775807) (hv : Sls w v ps) (hL : Tabs w) :
    Calls Tryd.prog 4 #[v] w fun e w' => e = .returned (.bool true) ∧ Below w.heap.size w w' := by
  have hv0 := hv
  obtain ⟨a, cap, rfl, hcap, hcells⟩ := hv
  obtain ⟨m, hm⟩ : ∃ m, m = ps.length := ⟨_, rfl⟩
  rw [← hm] at hcap hp ⊢
  have hal := fun (wx : World) (ht : Tabs wx) => alive_any wx ht
  by_cases h30 : 30 < m
  · have h30' : (30 : Int) < (m : Int) := by omega
    have HAL := Lib.hid hal; have HL := Lib.hid hL
    clear hal hL hv0 hcells hpp hm
    go_enter Tryd.func4, Tryd.ntmps4
    go_wp2_with fail
    refine (HAL.out _ HL.out).mono ?_
    rintro e w1 ⟨rfl, hb⟩
    go_wp2_with fail
    go_ret
    exact ⟨rfl, hb⟩
  · have h30' : ¬ (30 : Int) < (m : Int) := by omega
    have HAL := Lib.hid hal; have HL := Lib.hid hL; have HV := Lib.hid hv0; have HCE := Lib.hid hcells; have HM := Lib.hid hm; have HPP := Lib.hid hpp
    clear hal hL hv0 hcells hpp hm
    have hz := zeroSt
    obtain ⟨Z, hZ⟩ : ∃ Z, Z = Zst := ⟨_, rfl⟩
    rw [← hZ] at hz
    have hZs : Z.size = 73 := by rw [hZ]; exact Zst_size
    obtain ⟨S0, hS0⟩ : ∃ S0, S0 = stRow fed0.H fed0.T 0 := ⟨_, rfl⟩
    have hS0s : S0.size = 73 := by rw [hS0]; exact stRow_size fed0_ok.h fed0_ok.t
    have hS0o : S0.all (·.oneCell') = true := by rw [hS0]; exact stRow_one
    have hnew := fun wx => new_any wx
    rw [← hS0] at hnew
    have HNEW := Lib.hid hnew; have HZS := Lib.hid hZs; have HS0 := Lib.hid hS0; have HS0S := Lib.hid hS0s; have HS0O := Lib.hid hS0o; have HZ := Lib.hid hZ
    clear hnew hZs hS0 hS0s hS0o hZ
    go_enter Tryd.func4, Tryd.ntmps4
    go_wp2_with fail
    refine (HNEW.out _).mono ?_
    rintro e w1 ⟨rfl, hb1⟩
    have HB1 := Lib.hid hb1
    clear hb1
    go_wp2_with (refine wpList_store_new (by rfl) 34 _ _ (by rfl) (by rfl) S0 _ _ (by rfl) (by rfl) (by rw [HS0S.out]; exact infoSt) (by rw [HS0S.out, HZS.out]) HS0O.out ?_)
    have hI : PaInv w w1.heap.size (.slice none 0 0) [] (w1.alloc (.cells S0 34)) :=
      ⟨OwnB.nil _ _, by have h := at_new w1 S0 34; rw [HS0.out] at h ⊢; exact h, HB1.out.alloc HB1.out.size _⟩
    have hbs : w.heap.size ≤ w1.heap.size := HB1.out.size
    have HI0 := Lib.hid hI; have HBS := Lib.hid hbs
    clear hI HB1 hz hbs
    generalize (w1.alloc (.cells S0 34)) = w2 at *
    generalize w1.heap.size = Bs at *
    clear w1
    go_loopw [3, 15] (fun v i wr => PartRel w Bs ps v i wr) (fun _ i _ => m - (intOf i).toNat)
    case atStart => exact ⟨0, by omega, rfl, by simp, HI0.out⟩
    case round =>
      obtain ⟨j, hj, rfl, hfl, hI⟩ := hrel
      rw [← HM.out] at hj
      by_cases hlt : j < m
      · obtain ⟨pb, po, ha, hpb, hpc⟩ := HCE.out (by intro e; have := HM.out; rw [e] at this; simp at this; omega)
        subst ha
        obtain ⟨vi, hvi, hsl⟩ := hpc j (by rw [← HM.out]; exact hlt)
        have hsl' := hsl.below hI.b
        have cv : wr.cell? ⟨pb, po + j, none⟩ = some vi := by rw [hI.b.cell (p := ⟨pb, po + j, none⟩) hpb]; exact hvi
        have hsl0 := hsl
        obtain ⟨a1, cap1, rfl, hcap1, _⟩ := hsl
        obtain ⟨l, hl⟩ : ∃ l, l = (ps.take j).flatten := ⟨_, rfl⟩
        obtain ⟨p, hpp⟩ : ∃ p, p = ps.getD j [] := ⟨_, rfl⟩
        have hpl := HPP.out j (by rw [← HM.out]; exact hlt)
        rw [← hl] at hfl hI
        rw [← hpp] at hsl' hpl hcap1 cv
        obtain ⟨a3, cap3, rfl, hcap3, _⟩ := hI.own.open
        have hta := HL.out.below hI.b (Nat.le_refl _)
        have hsw : Sl w (.slice a1 p.length cap1) p := by rw [hpp]; exact hsl0
        have hlt' : (j : Int) < (m : Int) := by omega
        have HI := Lib.hid hI; have HLL := Lib.hid hl; have HPL := Lib.hid hpp; have HSL := Lib.hid hsl'; have HTA := Lib.hid hta; have HSW := Lib.hid hsw
        clear hI hl hpp hsl' hta hpc hvi hsw hsl0
        obtain ⟨n1, hn1⟩ : ∃ n1, n1 = p.length := ⟨_, rfl⟩
        obtain ⟨n3, hn3⟩ : ∃ n3, n3 = l.length := ⟨_, rfl⟩
        rw [← hn1] at cv hcap1 hpl
        rw [← hn3] at hfl hcap3
        by_cases hp6 : 600 < n1
        · have hf := fun wx => far_yes n1 a1 cap1 wx hp6 (by omega)
          have HF := Lib.hid hf; have HN1 := Lib.hid hn1; have HN3 := Lib.hid hn3
          clear hf hn1 hn3
          go_wp2_with fail
          refine (HF.out _).mono ?_
          rintro e w5 ⟨rfl, rfl⟩
          go_wp2_with fail
          refine (HAL.out _ HTA.out).mono ?_
          rintro e w5 ⟨rfl, hb5⟩
          have HB5 := Lib.hid hb5; clear hb5
          go_wp2_with fail
          go_ret
          exact ⟨rfl, HI.out.b.trans (HB5.out.mono HI.out.b.size)⟩
        · have hf := fun wx => far_no n1 a1 cap1 wx (by omega)
          have HF := Lib.hid hf; clear hf
          by_cases hl6 : 600 < n3
          · have hg := fun wx => far_yes n3 a3 cap3 wx hl6 (by omega)
            have HG := Lib.hid hg; have HN1 := Lib.hid hn1; have HN3 := Lib.hid hn3
            clear hg hn1
            rw [← HN3.out]
            clear hn3
            go_wp2_with fail
            refine (HF.out _).mono ?_
            rintro e w5 ⟨rfl, rfl⟩
            go_wp2_with fail
            refine (HG.out _).mono ?_
            rintro e w5 ⟨rfl, rfl⟩
            go_wp2_with fail
            refine (HAL.out _ HTA.out).mono ?_
            rintro e w5 ⟨rfl, hb5⟩
            have HB5 := Lib.hid hb5; clear hb5
            go_wp2_with fail
            go_ret
            exact ⟨rfl, HI.out.b.trans (HB5.out.mono HI.out.b.size)⟩
          · have hg := fun wx => far_no n3 a3 cap3 wx (by omega)
            have hok := feeds_ok l fed0_ok
            obtain ⟨F, hF⟩ : ∃ F, F = feeds fed0 l := ⟨_, rfl⟩
            obtain ⟨R, hR⟩ : ∃ R, R = stRow F.H F.T n3 := ⟨_, rfl⟩
            obtain ⟨E, hE⟩ : ∃ E, E = stRow (feeds F p).H (feeds F p).T (n3 + p.length) := ⟨_, rfl⟩
            have hst := HI.out.st
            rw [← hF, ← hn3, ← hR] at hst
            rw [← hF] at hok
            have hmd : n3 % 64 = F.at' := by
              have := feeds_mod fed0 fed0_ok l 0 rfl
              rw [Nat.zero_add, ← hn3, ← hF] at this; exact this
            have hok2 := feeds_ok p hok
            have hRs : R.size = 73 := by rw [hR]; exact stRow_size hok.h hok.t
            have hEs : E.size = 73 := by rw [hE]; exact stRow_size hok2.h hok2.t
            have hEo : E.all (·.oneCell') = true := by rw [hE]; exact stRow_one
            have how := HI.out.own
            rw [← hn3] at how
            have hw := fun (wx : World) (hx : Sl wx (.slice a1 n1 cap1) p) (ht : Tabs wx) => write_any F hok n3 hmd p (.slice a1 n1 cap1) wx (by omega) hx ht
            rw [← hE, ← hR] at hw
            have hsw := HSW.out
            rw [← hn1] at hsw
            have hlen : l.length + p.length ≤ 140737488355328 := by omega
            have HG := Lib.hid hg; have HN1 := Lib.hid hn1; have HN3 := Lib.hid hn3; have HF' := Lib.hid hF; have HR := Lib.hid hR; have HE := Lib.hid hE; have HST := Lib.hid hst; have HRS := Lib.hid hRs; have HES := Lib.hid hEs; have HEO := Lib.hid hEo; have HOW := Lib.hid how; have HW := Lib.hid hw; have HSW' := Lib.hid hsw; have HLEN := Lib.hid hlen
            clear hg hF hR hE hst hok hmd hok2 hRs hEs hEo how hw hsw hlen HSW HSL hn1
            rw [← HN3.out]
            clear hn3
            go_wp2_with fail
            refine (HF.out _).mono ?_
            rintro e w5 ⟨rfl, rfl⟩
            go_wp2_with fail
            refine (HG.out _).mono ?_
            rintro e w5 ⟨rfl, rfl⟩
            go_wp2_with (first | (at_builtin; refine wpList_append_bytes (by rfl) _ _ (by rfl) w.heap.size (.slice a3 n3 cap3) (.slice a1 n1 cap1) l p (by rfl) HOW.out (by rfl) (HSW'.out.below HI.out.b) HLEN.out HI.out.b.size ?_; intro v5 w5 ho5 hk5 hb5; have st5 : At w5 Bs R _ := (hk5 Bs HST.out.lt (HOW.out.ne_at HST.out (by decide))).trans HST.out; have b5 := HI.out.b.trans hb5; have HO5 := Lib.hid ho5; have ST5 := Lib.hid st5; have B5 := Lib.hid b5; clear ho5 hk5 hb5 st5 b5) | (refine wpList_load_all (by rfl) 34 _ (by rfl) Bs (by rfl) _ Tryd.underlying34 (by rfl) R _ ST5.out (by rw [HRS.out]; exact infoSt) ?_) | (go_at_call 17; refine (HW.out _ (HSW'.out.below B5.out) (HL.out.below B5.out (Nat.le_refl _))).mono ?_; rintro e w6 ⟨rfl, hb6⟩; have st6 := ST5.out.below hb6 ST5.out.lt; have b6 := B5.out.trans (hb6.mono B5.out.size); have ho6 := HO5.out.below hb6; have ST6 := Lib.hid st6; have B6 := Lib.hid b6; have HO6 := Lib.hid ho6; clear hb6 st6 b6 ho6) | (refine wpList_store_all (by rfl) 34 _ _ (by rfl) (by rfl) Bs E (by rfl) (by rfl) (by rw [HES.out]; exact infoSt) R _ ST6.out (by rw [HES.out, HRS.out]) HEO.out ?_))
            go_roundw
            case rel =>
              have hft := flat_take ps j (by rw [← HM.out]; exact hlt)
              rw [← HLL.out, ← HPL.out] at hft
              have hBs : w.heap.size ≤ Bs := HBS.out
              refine ⟨j + 1, by rw [← HM.out]; omega, by go_num, by rw [hft, List.length_append, ← HN1.out, ← HN3.out]; omega, ?_⟩
              rw [hft]
              refine ⟨?_, ?_, ?_⟩
              · have hne := HO6.out.ne_at ST6.out (by decide)
                exact HO6.out.keep fun g hg => setRow_other _ _ _ _ (fun e => hne (by rw [← e]; exact hg))
              · have h := ST6.out.row E
                rw [show stRow (feeds fed0 (l ++ p)).H (feeds fed0 (l ++ p)).T (l ++ p).length = E by rw [HE.out, HF'.out, ← feeds_append, HN3.out, List.length_append]]
                exact h
              · exact below_row B6.out hBs E
            case measure => simp [intOf]; omega
      · have hjm : j = m := by omega
        have hfl' : ps.take j = ps := List.take_of_length_le (by rw [hjm, HM.out]; exact Nat.le_refl _)
        rw [hfl'] at hfl hI
        have hge : ¬ (j : Int) < (m : Int) := by omega
        obtain ⟨l, hl⟩ : ∃ l, l = ps.flatten := ⟨_, rfl⟩
        rw [← hl] at hfl hI
        obtain ⟨a3, cap3, rfl, hcap3, _⟩ := hI.own.open
        obtain ⟨n3, hn3⟩ : ∃ n3, n3 = l.length := ⟨_, rfl⟩
        have hok := feeds_ok l fed0_ok
        have hst := hI.st
        have how := hI.own
        rw [← hn3] at hst how hfl hcap3 ⊢
        obtain ⟨F, hF⟩ : ∃ F, F = feeds fed0 l := ⟨_, rfl⟩
        rw [← hF] at hst hok
        obtain ⟨R, hR⟩ : ∃ R, R = stRow F.H F.T n3 := ⟨_, rfl⟩
        rw [← hR] at hst
        have hRs : R.size = 73 := by rw [hR]; exact stRow_size hok.h hok.t
        have hmd : n3 % 64 = F.at' := by
          have := feeds_mod fed0 fed0_ok l 0 rfl
          rw [Nat.zero_add, ← hn3, ← hF] at this; exact this
        have hdig : digest F n3 = digestOf l := by rw [hF, hn3]; rfl
        obtain ⟨G, hG⟩ : ∃ G, G = (u8s (digestOf l)).toArray := ⟨_, rfl⟩
        have hfin := fun (wx : World) (ht : Tabs wx) => sum_any F hok n3 hmd wx (by omega) ht
        rw [hdig, ← hG, ← hR] at hfin
        have hone := fun (wx : World) (vx : Value) (hx : Sls wx vx [l]) (ht : Tabs wx) => sumAll_any [l] vx wx (by simp; omega) (by simp) hx ht
        rw [show [l].flatten = l by simp, ← hG] at hone
        have hlen := fun (wx : World) => len_any R n3 wx (by rw [hR]; exact stRow_n hok.h hok.t)
        have heq : ∀ (x y : Operand) (wx : World), (do eqGuard .eql 25 x y (.agg G) (.agg G); binOp .eql 25 (.agg G) (.agg G) : Sem Value).run Tryd.prog wx = .ok (.bool true) wx := fun x y wx => by
          have := eql_bytes (P := Tryd.prog) wx 25 5 32 x y Tryd.underlying25 Tryd.underlying5 infoB (by kernel_rfl) _ _ (digestOf_length l) (digestOf_length l)
          rw [← hG] at this
          rw [this]; simp
        have hGs : G.size = 32 := by rw [hG]; simp [u8s, digestOf_length]
        have hGo : G.all (·.oneCell') = true := by rw [hG]; exact u8s_one _
        have hsum := fun (wx : World) (hx : Sls wx (.slice a m cap) ps) (ht : Tabs wx) => sumAll_any ps (.slice a m cap) wx (by rw [← hl]; omega) (by rw [← HM.out]; omega) hx ht
        rw [← hl, ← hG] at hsum
        have hvv := HV.out
        rw [← HM.out] at hvv
        have HI := Lib.hid hI; have HLL := Lib.hid hl; have HG := Lib.hid hG; have HGS := Lib.hid hGs; have HGO := Lib.hid hGo; have HSUM := Lib.hid hsum; have HVV := Lib.hid hvv; have HFL := Lib.hid hfl; have HN3 := Lib.hid hn3; have HST := Lib.hid hst; have HOW := Lib.hid how; have HRS := Lib.hid hRs; have HFIN := Lib.hid hfin; have HONE := Lib.hid hone; have HLEN := Lib.hid hlen; have HEQ := Lib.hid heq
        clear hI hl hG hGs hGo hsum hjm hfl' hvv hfl HV HCE HI0 hlt hj hn3 hok hst how hF hR hRs hmd hdig hfin hone hlen heq
        go_wp2_with fail
        refine (HSUM.out _ (HVV.out.below HI.out.b) (HL.out.below HI.out.b (Nat.le_refl _))).mono ?_
        rintro e w5 ⟨rfl, hb5⟩
        have HB5 := Lib.hid hb5; clear hb5
        obtain ⟨X, hX⟩ : ∃ X, X = Z32 := ⟨_, rfl⟩
        have hx := zero32
        rw [← hX] at hx
        have hXs : X.size = 32 := by rw [hX]; simp [Z32, u8s]
        have HX := Lib.hid hX; have HXS := Lib.hid hXs
        clear hX hXs
        go_wp2_with (refine wpList_store_new (by rfl) 25 _ _ (by rfl) (by rfl) G _ _ (by rfl) (by rfl) (by rw [HGS.out]; exact info32) (by rw [HGS.out, HXS.out]) HGO.out ?_)
        have hs5 : w.heap.size ≤ w5.heap.size := Nat.le_trans HI.out.b.size HB5.out.size
        have b0 : Below w.heap.size w (w5.alloc (.cells G 25)) := (HI.out.b.trans (HB5.out.mono HI.out.b.size)).alloc hs5 _
        have st0 : At (w5.alloc (.cells G 25)) Bs R 34 := (HST.out.below HB5.out HST.out.lt).alloc _
        have g0 : At (w5.alloc (.cells G 25)) w5.heap.size G 25 := at_new w5 G _
        have sl0 : Sl (w5.alloc (.cells G 25)) (.slice a3 n3 cap3) l := ((HOW.out.sl).below HB5.out).below ((Below.refl _ _).alloc (Nat.le_refl _) _)
        have SL0 := Lib.hid sl0; have B0 := Lib.hid b0; have ST0 := Lib.hid st0; have G0 := Lib.hid g0
        clear hs5 b0 st0 g0 hx sl0
        generalize w5.alloc (.cells G 25) = w6 at *
        generalize w5.heap.size = Bg at *
        refine wp_region_plan (.take 0 (.take 1 (.sole 2 (.sole 3 (.take 4 (.take 5 (.take 6 (.take 8 (.sole 7 (.take 9 (.take 10 (.take 11 (.take 12 (.take 14 (.take 15 (.take 16 (.sole 13 (.take 17 (.take 18 (.take 19 (.sole 20 (.take 21 (.take 22 .done))))))))))))))))))))))) (by kernel_rfl) (by kernel_rfl) (by kernel_rfl) ?_
        refine plan_row 25 _ Bg _ G 25 (by rfl) (by rfl) (by rfl) (by rfl) (fun w' hw' => G0.out.below hw' G0.out.lt) Tryd.underlying25 (by rfl) (by rw [HGS.out]; exact info32) ?_
        (simp only [Act.put, List.setIfInBounds_toArray, List.set_cons_zero, List.set_cons_succ])
        (first | (refine plan_move _ _ (by rfl) (by rfl) (.inl (by rfl)) (by first | (with_reducible exact Mem.ev_const _ _) | (with_reducible exact Mem.ev_zero _ _ _) | (with_reducible (apply Eq.trans (Mem.ev_tmp _ _ _)); simp only [List.getD_cons_succ, List.getD_cons_zero] <;> rfl)) ?_) | (refine plan_move _ _ (by rfl) (by rfl) (.inr (by rfl)) (by first | (with_reducible exact Mem.ev_const _ _) | (with_reducible exact Mem.ev_zero _ _ _) | (with_reducible (apply Eq.trans (Mem.ev_tmp _ _ _)); simp only [List.getD_cons_succ, List.getD_cons_zero] <;> rfl)) ?_) | (refine plan_pick_t _ _ _ _ (by rfl) (by rfl) (by rfl) (by first | (with_reducible exact Mem.ev_const _ _) | (with_reducible exact Mem.ev_zero _ _ _) | (with_reducible (apply Eq.trans (Mem.ev_tmp _ _ _)); simp only [List.getD_cons_succ, List.getD_cons_zero] <;> rfl)) (by first | (with_reducible exact Mem.ev_const _ _) | (with_reducible exact Mem.ev_zero _ _ _) | (with_reducible (apply Eq.trans (Mem.ev_tmp _ _ _)); simp only [List.getD_cons_succ, List.getD_cons_zero] <;> rfl)) ?_) | (refine plan_pick_f _ _ _ _ (by rfl) (by rfl) (by rfl) (by first | (with_reducible exact Mem.ev_const _ _) | (with_reducible exact Mem.ev_zero _ _ _) | (with_reducible (apply Eq.trans (Mem.ev_tmp _ _ _)); simp only [List.getD_cons_succ, List.getD_cons_zero] <;> rfl)) (by first | (with_reducible exact Mem.ev_const _ _) | (with_reducible exact Mem.ev_zero _ _ _) | (with_reducible (apply Eq.trans (Mem.ev_tmp _ _ _)); simp only [List.getD_cons_succ, List.getD_cons_zero] <;> rfl)) ?_))
        (simp only [Act.put, List.setIfInBounds_toArray, List.set_cons_zero, List.set_cons_succ])
        refine plan_slice 28 22 1 _ #[.slice a3 n3 cap3] (by rfl) (by rfl) (by rfl) Tryd.underlying28 (by kernel_rfl) ((Below.refl _ _).drew.alloc (Nat.le_refl _) _) ?_
        have b7 : Below w6.heap.size w6 (w6.drew.alloc (.cells #[.slice a3 n3 cap3] 22)) := (Below.refl _ _).drew.alloc (Nat.le_refl _) _
        have sl7 := sls_lit1 (SL0.out.below (Below.refl _ _).drew)
        have B7 := Lib.hid b7; have SL7 := Lib.hid sl7
        clear b7 sl7
        (simp only [Act.put, List.setIfInBounds_toArray, List.set_cons_zero, List.set_cons_succ])
        generalize w6.drew.alloc (.cells #[.slice a3 n3 cap3] 22) = w7 at *
        generalize w6.drew.heap.size = Bl at *
        refine plan_call 14 _ _ _ (by kernel_rfl) (by rfl) (by rfl) (by rfl) (by first | exact Mem.ev_none _ | (simp only [List.map_toArray, List.map_cons, List.map_nil, Mem.ev_tmp, List.getD_cons_succ, List.getD_cons_zero] <;> rfl)) ?_
        refine (HONE.out _ _ SL7.out (HL.out.below (B0.out.trans (B7.out.mono B0.out.size)) (Nat.le_refl _))).mono ?_
        rintro e w8 ⟨rfl, hb8⟩
        refine ⟨_, rfl, B7.out.trans (hb8.mono B7.out.size), ?_⟩
        have B8 := Lib.hid (B7.out.trans (hb8.mono B7.out.size))
        clear hb8
        (simp only [Act.put, List.setIfInBounds_toArray, List.set_cons_zero, List.set_cons_succ])
        refine plan_bin _ _ _ _ _ _ _ _ (by rfl) (by rfl) (by rfl) (by first | (with_reducible exact Mem.ev_const _ _) | (with_reducible exact Mem.ev_zero _ _ _) | (with_reducible (apply Eq.trans (Mem.ev_tmp _ _ _)); simp only [List.getD_cons_succ, List.getD_cons_zero] <;> rfl)) (by first | (with_reducible exact Mem.ev_const _ _) | (with_reducible exact Mem.ev_zero _ _ _) | (with_reducible (apply Eq.trans (Mem.ev_tmp _ _ _)); simp only [List.getD_cons_succ, List.getD_cons_zero] <;> rfl)) (HEQ.out _ _) ?_
        (simp only [Act.put, List.setIfInBounds_toArray, List.set_cons_zero, List.set_cons_succ])
        (first | (refine plan_move _ _ (by rfl) (by rfl) (.inl (by rfl)) (by first | (with_reducible exact Mem.ev_const _ _) | (with_reducible exact Mem.ev_zero _ _ _) | (with_reducible (apply Eq.trans (Mem.ev_tmp _ _ _)); simp only [List.getD_cons_succ, List.getD_cons_zero] <;> rfl)) ?_) | (refine plan_move _ _ (by rfl) (by rfl) (.inr (by rfl)) (by first | (with_reducible exact Mem.ev_const _ _) | (with_reducible exact Mem.ev_zero _ _ _) | (with_reducible (apply Eq.trans (Mem.ev_tmp _ _ _)); simp only [List.getD_cons_succ, List.getD_cons_zero] <;> rfl)) ?_) | (refine plan_pick_t _ _ _ _ (by rfl) (by rfl) (by rfl) (by first | (with_reducible exact Mem.ev_const _ _) | (with_reducible exact Mem.ev_zero _ _ _) | (with_reducible (apply Eq.trans (Mem.ev_tmp _ _ _)); simp only [List.getD_cons_succ, List.getD_cons_zero] <;> rfl)) (by first | (with_reducible exact Mem.ev_const _ _) | (with_reducible exact Mem.ev_zero _ _ _) | (with_reducible (apply Eq.trans (Mem.ev_tmp _ _ _)); simp only [List.getD_cons_succ, List.getD_cons_zero] <;> rfl)) ?_) | (refine plan_pick_f _ _ _ _ (by rfl) (by rfl) (by rfl) (by first | (with_reducible exact Mem.ev_const _ _) | (with_reducible exact Mem.ev_zero _ _ _) | (with_reducible (apply Eq.trans (Mem.ev_tmp _ _ _)); simp only [List.getD_cons_succ, List.getD_cons_zero] <;> rfl)) (by first | (with_reducible exact Mem.ev_const _ _) | (with_reducible exact Mem.ev_zero _ _ _) | (with_reducible (apply Eq.trans (Mem.ev_tmp _ _ _)); simp only [List.getD_cons_succ, List.getD_cons_zero] <;> rfl)) ?_))
        (simp only [Act.put, List.setIfInBounds_toArray, List.set_cons_zero, List.set_cons_succ])
        refine plan_row 34 _ Bs _ R 34 (by rfl) (by rfl) (by rfl) (by rfl) (fun w' hw' => ST0.out.below hw' ST0.out.lt) Tryd.underlying34 (by rfl) (by rw [HRS.out]; exact infoSt) ?_
        (simp only [Act.put, List.setIfInBounds_toArray, List.set_cons_zero, List.set_cons_succ])
        refine plan_row 25 _ Bg _ G 25 (by rfl) (by rfl) (by rfl) (by rfl) (fun w' hw' => G0.out.below hw' G0.out.lt) Tryd.underlying25 (by rfl) (by rw [HGS.out]; exact info32) ?_
        (simp only [Act.put, List.setIfInBounds_toArray, List.set_cons_zero, List.set_cons_succ])
        refine plan_call 18 _ _ _ (by kernel_rfl) (by rfl) (by rfl) (by rfl) (by first | exact Mem.ev_none _ | (simp only [List.map_toArray, List.map_cons, List.map_nil, Mem.ev_tmp, List.getD_cons_succ, List.getD_cons_zero] <;> rfl)) ?_
        refine (HFIN.out _ (HL.out.below (B0.out.trans (B8.out.mono B0.out.size)) (Nat.le_refl _))).mono ?_
        rintro e w9 ⟨rfl, hb9⟩
        refine ⟨_, rfl, B8.out.trans (hb9.mono B8.out.size), ?_⟩
        have B9 := Lib.hid (B8.out.trans (hb9.mono B8.out.size))
        clear hb9
        (simp only [Act.put, List.setIfInBounds_toArray, List.set_cons_zero, List.set_cons_succ])
        refine plan_bin _ _ _ _ _ _ _ _ (by rfl) (by rfl) (by rfl) (by first | (with_reducible exact Mem.ev_const _ _) | (with_reducible exact Mem.ev_zero _ _ _) | (with_reducible (apply Eq.trans (Mem.ev_tmp _ _ _)); simp only [List.getD_cons_succ, List.getD_cons_zero] <;> rfl)) (by first | (with_reducible exact Mem.ev_const _ _) | (with_reducible exact Mem.ev_zero _ _ _) | (with_reducible (apply Eq.trans (Mem.ev_tmp _ _ _)); simp only [List.getD_cons_succ, List.getD_cons_zero] <;> rfl)) (HEQ.out _ _) ?_
        (simp only [Act.put, List.setIfInBounds_toArray, List.set_cons_zero, List.set_cons_succ])
        (first | (refine plan_move _ _ (by rfl) (by rfl) (.inl (by rfl)) (by first | (with_reducible exact Mem.ev_const _ _) | (with_reducible exact Mem.ev_zero _ _ _) | (with_reducible (apply Eq.trans (Mem.ev_tmp _ _ _)); simp only [List.getD_cons_succ, List.getD_cons_zero] <;> rfl)) ?_) | (refine plan_move _ _ (by rfl) (by rfl) (.inr (by rfl)) (by first | (with_reducible exact Mem.ev_const _ _) | (with_reducible exact Mem.ev_zero _ _ _) | (with_reducible (apply Eq.trans (Mem.ev_tmp _ _ _)); simp only [List.getD_cons_succ, List.getD_cons_zero] <;> rfl)) ?_) | (refine plan_pick_t _ _ _ _ (by rfl) (by rfl) (by rfl) (by first | (with_reducible exact Mem.ev_const _ _) | (with_reducible exact Mem.ev_zero _ _ _) | (with_reducible (apply Eq.trans (Mem.ev_tmp _ _ _)); simp only [List.getD_cons_succ, List.getD_cons_zero] <;> rfl)) (by first | (with_reducible exact Mem.ev_const _ _) | (with_reducible exact Mem.ev_zero _ _ _) | (with_reducible (apply Eq.trans (Mem.ev_tmp _ _ _)); simp only [List.getD_cons_succ, List.getD_cons_zero] <;> rfl)) ?_) | (refine plan_pick_f _ _ _ _ (by rfl) (by rfl) (by rfl) (by first | (with_reducible exact Mem.ev_const _ _) | (with_reducible exact Mem.ev_zero _ _ _) | (with_reducible (apply Eq.trans (Mem.ev_tmp _ _ _)); simp only [List.getD_cons_succ, List.getD_cons_zero] <;> rfl)) (by first | (with_reducible exact Mem.ev_const _ _) | (with_reducible exact Mem.ev_zero _ _ _) | (with_reducible (apply Eq.trans (Mem.ev_tmp _ _ _)); simp only [List.getD_cons_succ, List.getD_cons_zero] <;> rfl)) ?_))
        (simp only [Act.put, List.setIfInBounds_toArray, List.set_cons_zero, List.set_cons_succ])
        (first | (refine plan_move _ _ (by rfl) (by rfl) (.inl (by rfl)) (by first | (with_reducible exact Mem.ev_const _ _) | (with_reducible exact Mem.ev_zero _ _ _) | (with_reducible (apply Eq.trans (Mem.ev_tmp _ _ _)); simp only [List.getD_cons_succ, List.getD_cons_zero] <;> rfl)) ?_) | (refine plan_move _ _ (by rfl) (by rfl) (.inr (by rfl)) (by first | (with_reducible exact Mem.ev_const _ _) | (with_reducible exact Mem.ev_zero _ _ _) | (with_reducible (apply Eq.trans (Mem.ev_tmp _ _ _)); simp only [List.getD_cons_succ, List.getD_cons_zero] <;> rfl)) ?_) | (refine plan_pick_t _ _ _ _ (by rfl) (by rfl) (by rfl) (by first | (with_reducible exact Mem.ev_const _ _) | (with_reducible exact Mem.ev_zero _ _ _) | (with_reducible (apply Eq.trans (Mem.ev_tmp _ _ _)); simp only [List.getD_cons_succ, List.getD_cons_zero] <;> rfl)) (by first | (with_reducible exact Mem.ev_const _ _) | (with_reducible exact Mem.ev_zero _ _ _) | (with_reducible (apply Eq.trans (Mem.ev_tmp _ _ _)); simp only [List.getD_cons_succ, List.getD_cons_zero] <;> rfl)) ?_) | (refine plan_pick_f _ _ _ _ (by rfl) (by rfl) (by rfl) (by first | (with_reducible exact Mem.ev_const _ _) | (with_reducible exact Mem.ev_zero _ _ _) | (with_reducible (apply Eq.trans (Mem.ev_tmp _ _ _)); simp only [List.getD_cons_succ, List.getD_cons_zero] <;> rfl)) (by first | (with_reducible exact Mem.ev_const _ _) | (with_reducible exact Mem.ev_zero _ _ _) | (with_reducible (apply Eq.trans (Mem.ev_tmp _ _ _)); simp only [List.getD_cons_succ, List.getD_cons_zero] <;> rfl)) ?_))
        (simp only [Act.put, List.setIfInBounds_toArray, List.set_cons_zero, List.set_cons_succ])
        refine plan_row 34 _ Bs _ R 34 (by rfl) (by rfl) (by rfl) (by rfl) (fun w' hw' => ST0.out.below hw' ST0.out.lt) Tryd.underlying34 (by rfl) (by rw [HRS.out]; exact infoSt) ?_
        (simp only [Act.put, List.setIfInBounds_toArray, List.set_cons_zero, List.set_cons_succ])
        (first | (refine plan_move _ _ (by rfl) (by rfl) (.inl (by rfl)) (by first | (with_reducible exact Mem.ev_const _ _) | (with_reducible exact Mem.ev_zero _ _ _) | (with_reducible (apply Eq.trans (Mem.ev_tmp _ _ _)); simp only [List.getD_cons_succ, List.getD_cons_zero] <;> rfl)) ?_) | (refine plan_move _ _ (by rfl) (by rfl) (.inr (by rfl)) (by first | (with_reducible exact Mem.ev_const _ _) | (with_reducible exact Mem.ev_zero _ _ _) | (with_reducible (apply Eq.trans (Mem.ev_tmp _ _ _)); simp only [List.getD_cons_succ, List.getD_cons_zero] <;> rfl)) ?_) | (refine plan_pick_t _ _ _ _ (by rfl) (by rfl) (by rfl) (by first | (with_reducible exact Mem.ev_const _ _) | (with_reducible exact Mem.ev_zero _ _ _) | (with_reducible (apply Eq.trans (Mem.ev_tmp _ _ _)); simp only [List.getD_cons_succ, List.getD_cons_zero] <;> rfl)) (by first | (with_reducible exact Mem.ev_const _ _) | (with_reducible exact Mem.ev_zero _ _ _) | (with_reducible (apply Eq.trans (Mem.ev_tmp _ _ _)); simp only [List.getD_cons_succ, List.getD_cons_zero] <;> rfl)) ?_) | (refine plan_pick_f _ _ _ _ (by rfl) (by rfl) (by rfl) (by first | (with_reducible exact Mem.ev_const _ _) | (with_reducible exact Mem.ev_zero _ _ _) | (with_reducible (apply Eq.trans (Mem.ev_tmp _ _ _)); simp only [List.getD_cons_succ, List.getD_cons_zero] <;> rfl)) (by first | (with_reducible exact Mem.ev_const _ _) | (with_reducible exact Mem.ev_zero _ _ _) | (with_reducible (apply Eq.trans (Mem.ev_tmp _ _ _)); simp only [List.getD_cons_succ, List.getD_cons_zero] <;> rfl)) ?_))
        (simp only [Act.put, List.setIfInBounds_toArray, List.set_cons_zero, List.set_cons_succ])
        refine plan_len _ _ _ a3 n3 cap3 (by rfl) (by rfl) (by rfl) (by rfl) (by rfl) (fun wx => by go_simp) ?_
        (simp only [Act.put, List.setIfInBounds_toArray, List.set_cons_zero, List.set_cons_succ])
        refine plan_conv _ _ _ _ (.int .u64 (n3 : Int)) (by rfl) (by rfl) (by rfl) (by first | (with_reducible exact Mem.ev_const _ _) | (with_reducible exact Mem.ev_zero _ _ _) | (with_reducible (apply Eq.trans (Mem.ev_tmp _ _ _)); simp only [List.getD_cons_succ, List.getD_cons_zero] <;> rfl)) (fun wx => by have := HFL.out; go_simp; rw [u64_in n3 (by omega)]) ?_
        (simp only [Act.put, List.setIfInBounds_toArray, List.set_cons_zero, List.set_cons_succ])
        refine plan_call 19 _ _ _ (by kernel_rfl) (by rfl) (by rfl) (by rfl) (by first | exact Mem.ev_none _ | (simp only [List.map_toArray, List.map_cons, List.map_nil, Mem.ev_tmp, List.getD_cons_succ, List.getD_cons_zero] <;> rfl)) ?_
        refine (HLEN.out _).mono ?_
        rintro e w10 ⟨rfl, hb10⟩
        refine ⟨_, rfl, B9.out.trans (hb10.mono B9.out.size), ?_⟩
        have B10 := Lib.hid (B9.out.trans (hb10.mono B9.out.size))
        clear hb10
        (simp only [Act.put, List.setIfInBounds_toArray, List.set_cons_zero, List.set_cons_succ])
        refine plan_bin _ _ _ _ _ _ _ (.bool true) (by rfl) (by rfl) (by rfl) (by first | (with_reducible exact Mem.ev_const _ _) | (with_reducible exact Mem.ev_zero _ _ _) | (with_reducible (apply Eq.trans (Mem.ev_tmp _ _ _)); simp only [List.getD_cons_succ, List.getD_cons_zero] <;> rfl)) (by first | (with_reducible exact Mem.ev_const _ _) | (with_reducible exact Mem.ev_zero _ _ _) | (with_reducible (apply Eq.trans (Mem.ev_tmp _ _ _)); simp only [List.getD_cons_succ, List.getD_cons_zero] <;> rfl)) (fun wx => by go_simp) ?_
        (simp only [Act.put, List.setIfInBounds_toArray, List.set_cons_zero, List.set_cons_succ])
        (first | (refine plan_move _ _ (by rfl) (by rfl) (.inl (by rfl)) (by first | (with_reducible exact Mem.ev_const _ _) | (with_reducible exact Mem.ev_zero _ _ _) | (with_reducible (apply Eq.trans (Mem.ev_tmp _ _ _)); simp only [List.getD_cons_succ, List.getD_cons_zero] <;> rfl)) ?_) | (refine plan_move _ _ (by rfl) (by rfl) (.inr (by rfl)) (by first | (with_reducible exact Mem.ev_const _ _) | (with_reducible exact Mem.ev_zero _ _ _) | (with_reducible (apply Eq.trans (Mem.ev_tmp _ _ _)); simp only [List.getD_cons_succ, List.getD_cons_zero] <;> rfl)) ?_) | (refine plan_pick_t _ _ _ _ (by rfl) (by rfl) (by rfl) (by first | (with_reducible exact Mem.ev_const _ _) | (with_reducible exact Mem.ev_zero _ _ _) | (with_reducible (apply Eq.trans (Mem.ev_tmp _ _ _)); simp only [List.getD_cons_succ, List.getD_cons_zero] <;> rfl)) (by first | (with_reducible exact Mem.ev_const _ _) | (with_reducible exact Mem.ev_zero _ _ _) | (with_reducible (apply Eq.trans (Mem.ev_tmp _ _ _)); simp only [List.getD_cons_succ, List.getD_cons_zero] <;> rfl)) ?_) | (refine plan_pick_f _ _ _ _ (by rfl) (by rfl) (by rfl) (by first | (with_reducible exact Mem.ev_const _ _) | (with_reducible exact Mem.ev_zero _ _ _) | (with_reducible (apply Eq.trans (Mem.ev_tmp _ _ _)); simp only [List.getD_cons_succ, List.getD_cons_zero] <;> rfl)) (by first | (with_reducible exact Mem.ev_const _ _) | (with_reducible exact Mem.ev_zero _ _ _) | (with_reducible (apply Eq.trans (Mem.ev_tmp _ _ _)); simp only [List.getD_cons_succ, List.getD_cons_zero] <;> rfl)) ?_))
        (simp only [Act.put, List.setIfInBounds_toArray, List.set_cons_zero, List.set_cons_succ])
        (first | (refine plan_move _ _ (by rfl) (by rfl) (.inl (by rfl)) (by first | (with_reducible exact Mem.ev_const _ _) | (with_reducible exact Mem.ev_zero _ _ _) | (with_reducible (apply Eq.trans (Mem.ev_tmp _ _ _)); simp only [List.getD_cons_succ, List.getD_cons_zero] <;> rfl)) ?_) | (refine plan_move _ _ (by rfl) (by rfl) (.inr (by rfl)) (by first | (with_reducible exact Mem.ev_const _ _) | (with_reducible exact Mem.ev_zero _ _ _) | (with_reducible (apply Eq.trans (Mem.ev_tmp _ _ _)); simp only [List.getD_cons_succ, List.getD_cons_zero] <;> rfl)) ?_) | (refine plan_pick_t _ _ _ _ (by rfl) (by rfl) (by rfl) (by first | (with_reducible exact Mem.ev_const _ _) | (with_reducible exact Mem.ev_zero _ _ _) | (with_reducible (apply Eq.trans (Mem.ev_tmp _ _ _)); simp only [List.getD_cons_succ, List.getD_cons_zero] <;> rfl)) (by first | (with_reducible exact Mem.ev_const _ _) | (with_reducible exact Mem.ev_zero _ _ _) | (with_reducible (apply Eq.trans (Mem.ev_tmp _ _ _)); simp only [List.getD_cons_succ, List.getD_cons_zero] <;> rfl)) ?_) | (refine plan_pick_f _ _ _ _ (by rfl) (by rfl) (by rfl) (by first | (with_reducible exact Mem.ev_const _ _) | (with_reducible exact Mem.ev_zero _ _ _) | (with_reducible (apply Eq.trans (Mem.ev_tmp _ _ _)); simp only [List.getD_cons_succ, List.getD_cons_zero] <;> rfl)) (by first | (with_reducible exact Mem.ev_const _ _) | (with_reducible exact Mem.ev_zero _ _ _) | (with_reducible (apply Eq.trans (Mem.ev_tmp _ _ _)); simp only [List.getD_cons_succ, List.getD_cons_zero] <;> rfl)) ?_))
        (simp only [Act.put, List.setIfInBounds_toArray, List.set_cons_zero, List.set_cons_succ])
        refine plan_call 13 _ _ _ (by kernel_rfl) (by rfl) (by rfl) (by rfl) (by first | exact Mem.ev_none _ | (simp only [List.map_toArray, List.map_cons, List.map_nil, Mem.ev_tmp, List.getD_cons_succ, List.getD_cons_zero] <;> rfl)) ?_
        refine (HAL.out _ (HL.out.below (B0.out.trans (B10.out.mono B0.out.size)) (Nat.le_refl _))).mono ?_
        rintro e w11 ⟨rfl, hb11⟩
        refine ⟨_, rfl, B10.out.trans (hb11.mono B10.out.size), ?_⟩
        have B11 := Lib.hid (B10.out.trans (hb11.mono B10.out.size))
        clear hb11
        (simp only [Act.put, List.setIfInBounds_toArray, List.set_cons_zero, List.set_cons_succ])
        (first | (refine plan_move _ _ (by rfl) (by rfl) (.inl (by rfl)) (by first | (with_reducible exact Mem.ev_const _ _) | (with_reducible exact Mem.ev_zero _ _ _) | (with_reducible (apply Eq.trans (Mem.ev_tmp _ _ _)); simp only [List.getD_cons_succ, List.getD_cons_zero] <;> rfl)) ?_) | (refine plan_move _ _ (by rfl) (by rfl) (.inr (by rfl)) (by first | (with_reducible exact Mem.ev_const _ _) | (with_reducible exact Mem.ev_zero _ _ _) | (with_reducible (apply Eq.trans (Mem.ev_tmp _ _ _)); simp only [List.getD_cons_succ, List.getD_cons_zero] <;> rfl)) ?_) | (refine plan_pick_t _ _ _ _ (by rfl) (by rfl) (by rfl) (by first | (with_reducible exact Mem.ev_const _ _) | (with_reducible exact Mem.ev_zero _ _ _) | (with_reducible (apply Eq.trans (Mem.ev_tmp _ _ _)); simp only [List.getD_cons_succ, List.getD_cons_zero] <;> rfl)) (by first | (with_reducible exact Mem.ev_const _ _) | (with_reducible exact Mem.ev_zero _ _ _) | (with_reducible (apply Eq.trans (Mem.ev_tmp _ _ _)); simp only [List.getD_cons_succ, List.getD_cons_zero] <;> rfl)) ?_) | (refine plan_pick_f _ _ _ _ (by rfl) (by rfl) (by rfl) (by first | (with_reducible exact Mem.ev_const _ _) | (with_reducible exact Mem.ev_zero _ _ _) | (with_reducible (apply Eq.trans (Mem.ev_tmp _ _ _)); simp only [List.getD_cons_succ, List.getD_cons_zero] <;> rfl)) (by first | (with_reducible exact Mem.ev_const _ _) | (with_reducible exact Mem.ev_zero _ _ _) | (with_reducible (apply Eq.trans (Mem.ev_tmp _ _ _)); simp only [List.getD_cons_succ, List.getD_cons_zero] <;> rfl)) ?_))
        (simp only [Act.put, List.setIfInBounds_toArray, List.set_cons_zero, List.set_cons_succ])
        (first | (refine plan_move _ _ (by rfl) (by rfl) (.inl (by rfl)) (by first | (with_reducible exact Mem.ev_const _ _) | (with_reducible exact Mem.ev_zero _ _ _) | (with_reducible (apply Eq.trans (Mem.ev_tmp _ _ _)); simp only [List.getD_cons_succ, List.getD_cons_zero] <;> rfl)) ?_) | (refine plan_move _ _ (by rfl) (by rfl) (.inr (by rfl)) (by first | (with_reducible exact Mem.ev_const _ _) | (with_reducible exact Mem.ev_zero _ _ _) | (with_reducible (apply Eq.trans (Mem.ev_tmp _ _ _)); simp only [List.getD_cons_succ, List.getD_cons_zero] <;> rfl)) ?_) | (refine plan_pick_t _ _ _ _ (by rfl) (by rfl) (by rfl) (by first | (with_reducible exact Mem.ev_const _ _) | (with_reducible exact Mem.ev_zero _ _ _) | (with_reducible (apply Eq.trans (Mem.ev_tmp _ _ _)); simp only [List.getD_cons_succ, List.getD_cons_zero] <;> rfl)) (by first | (with_reducible exact Mem.ev_const _ _) | (with_reducible exact Mem.ev_zero _ _ _) | (with_reducible (apply Eq.trans (Mem.ev_tmp _ _ _)); simp only [List.getD_cons_succ, List.getD_cons_zero] <;> rfl)) ?_) | (refine plan_pick_f _ _ _ _ (by rfl) (by rfl) (by rfl) (by first | (with_reducible exact Mem.ev_const _ _) | (with_reducible exact Mem.ev_zero _ _ _) | (with_reducible (apply Eq.trans (Mem.ev_tmp _ _ _)); simp only [List.getD_cons_succ, List.getD_cons_zero] <;> rfl)) (by first | (with_reducible exact Mem.ev_const _ _) | (with_reducible exact Mem.ev_zero _ _ _) | (with_reducible (apply Eq.trans (Mem.ev_tmp _ _ _)); simp only [List.getD_cons_succ, List.getD_cons_zero] <;> rfl)) ?_))
        (simp only [Act.put, List.setIfInBounds_toArray, List.set_cons_zero, List.set_cons_succ])
        refine plan_nil ?_
        go_wp2_with fail
        go_ret
        exact ⟨rfl, B0.out.trans (B11.out.mono B0.out.size)⟩
end Sha
end Go.Proofs.YtmnhpochojplgaaDoor
