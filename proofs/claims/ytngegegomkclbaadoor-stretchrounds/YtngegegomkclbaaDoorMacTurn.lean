/- The walk of the digest of a turned key and of parts behind it. -/
import Derived.Test.YtngegegomkclbaaDoorMacKey
import Derived.Test.YtngegegomkclbaaDoorState
import Derived.Deep.DeepCutAuto
namespace Go.Proofs.YtngegegomkclbaaDoor
namespace Sha
open Go.RowKit Mem

structure TInv (K : List (BitVec 8)) (B : Nat) (w wr : World) : Prop where
  k : At wr B (u8s K).toArray 28
  r : At wr (B + 1) Z32 25
  b : Below B w wr
/-- One variable that was made, and holds these cells. -/
def OneAt (w : World) (C : Array Value) (t : TypeId) (x : Value) (wr : World) : Prop := ∃ b, x = .pointer (some ⟨b, 0, none⟩) ∧ w.heap.size ≤ b ∧ At wr b C t ∧ Below w.heap.size w wr
structure UInv (C : Array Value) (Bs B : Nat) (w wr : World) : Prop where
  s : At wr Bs C 55
  r : At wr (B + 1) Z32 25
  b : Below B w wr
set_option maxRecDepth 100000 in
set_option maxHeartbeats 1000000 in
theorem tsum_any (K : List (BitVec 8)) (hK : K.length = 64) (y : BitVec 8) (ps : List (List (BitVec 8))) (v : Value) (w : World) (hN : ps.flatten.length ≤ 576460752303423487) (hp : ps.length ≤ 9223372036854775806) (hv : Sls w v ps) (hL : Tabs w) :
    Calls Tryd.prog 38 #[.agg (u8s K).toArray, .int .u8 (B8 y), v] w fun e w' => e = .returned (.agg (dgOf (turned K y ++ ps.flatten))) ∧ Below w.heap.size w w' := by
  have HV := Lib.hid hv
  obtain ⟨a, cap, rfl, hcap, hcells⟩ := hv
  obtain ⟨m, hm⟩ : ∃ m, m = ps.length := ⟨_, rfl⟩
  rw [← hm] at hcap hp ⊢
  obtain ⟨C, hC⟩ : ∃ C, C = (u8s K).toArray := ⟨_, rfl⟩
  obtain ⟨X, hX⟩ : ∃ X, X = Z32 := ⟨_, rfl⟩
  have hx := zero32
  rw [← hX] at hx
  have hXs : X.size = 32 := by rw [hX]; simp [Z32, u8s]
  have hI : TInv (turnTo K y 0) w.heap.size w ((w.alloc (.cells C 28)).alloc (.cells X 25)) := by
    refine ⟨by rw [turnTo_zero, ← hC]; exact (at_new w C _).alloc _, ?_, ((Below.refl _ _).alloc (Nat.le_refl _) _).alloc (by simp) _⟩
    have := at_new (w.alloc (.cells C 28)) X 25
    rw [← hX]
    simpa using this
  rw [← hC]
  have HI := Lib.hid hI; have HC := Lib.hid hC; have HX := Lib.hid hX; have XS := Lib.hid hXs; have HM := Lib.hid hm; have HK := Lib.hid hK; have HL := Lib.hid hL; have HCE := Lib.hid hcells; have HN := Lib.hid hN
  clear hI hC hX hXs hm hK hL hcells hN
  go_enter Tryd.func38, Tryd.ntmps38
  go_wp2_with fail
  generalize (w.alloc (.cells C 28)).alloc (.cells X 25) = w2 at *
  go_loopw [11] (fun i wr => ∃ j : Nat, j ≤ 64 ∧ i = .int .i64 j ∧ TInv (turnTo K y j) w.heap.size w wr) (fun i _ => 64 - (intOf i).toNat)
  case atStart => exact ⟨0, by omega, rfl, HI.out⟩
  case round =>
    obtain ⟨j, hj, rfl, hI⟩ := hrel
    by_cases hlt : j < 64
    · have hjK : j < K.length := by rw [HK.out]; exact hlt
      have hk := hI.k
      obtain ⟨D, hD⟩ : ∃ D, D = (u8s (turnTo K y j)).toArray := ⟨_, rfl⟩
      obtain ⟨x, hxx⟩ : ∃ x, x = K.getD j 0 := ⟨_, rfl⟩
      have hset : D.setIfInBounds j (.int .u8 (B8 (x ^^^ y))) = (u8s (turnTo K y (j + 1))).toArray := by
        rw [hD, ← turnTo_set K y j hjK, ← hxx]; exact u8s_set _ _ _
      have cj : wr.cell? ⟨w.heap.size, j, none⟩ = some (.int .u8 (B8 x)) := by
        rw [hk.cell, List.getElem?_toArray, u8s_get _ _ (by rw [turnTo_length]; exact hjK), turnTo_get K y j hjK, hxx]; rfl
      rw [← hD] at hk
      have hDs : j < D.size := by rw [hD]; simp [u8s, turnTo_length]; exact hjK
      have KK := Lib.hid hk; have ST := Lib.hid hset; have DS := Lib.hid hDs; have II := Lib.hid hI
      clear hk hset hDs hI hD hxx hjK
      go_wp2_with (refine Mem.wpList_store_one (by rfl) 5 _ _ (by rfl) (by rfl) w.heap.size j (.int .u8 (B8 (x ^^^ y))) (by rfl) (by exact congrArg (Value.int .u8) (B8_xor x y)) (by rfl) infoB _ _ KK.out DS.out ?_; intro w4 a4 o4 b4; have A4 := Lib.hid a4; have R4 := Lib.hid (at_keep II.out.r o4 (by omega)); have B4 := Lib.hid (b4 _ _ II.out.b (Nat.le_refl _)); clear a4 o4 b4)
      go_roundw
      case rel => exact ⟨j + 1, by omega, by go_num, by rw [← ST.out]; exact A4.out, R4.out, B4.out⟩
      case measure => simp [intOf]; omega
    · have hj64 : j = 64 := by omega
      have hall : turnTo K y j = turned K y := by rw [hj64, ← HK.out]; exact turnTo_all K y
      rw [hall] at hI
      have hge : ¬ (j : Int) < 64 := by omega
      obtain ⟨T, hT⟩ : ∃ T, T = turned K y := ⟨_, rfl⟩
      have hTl : T.length = 64 := by rw [hT, turned_length, HK.out]
      rw [← hT] at hI
      have TT := Lib.hid hT; have TL := Lib.hid hTl; have II := Lib.hid hI
      clear hT hTl hI hall hj64 hlt hj
      go_wp2_with fail
      have TSl : Hid (∀ wx, Below wr.heap.size wr wx → Sl wx (.slice (some ⟨w.heap.size, 0, none⟩) 64 64) T) := fun wx hb => at_sl (II.out.k.below hb II.out.k.lt) TL.out
      go_cut [8] (fun x wx => OneAt wr (stOf T) 55 x wx)
      case first =>
        have ALL := Lib.hid run_allocSt
        have hw := fun (wx : World) (hx : Sl wx (.slice (some ⟨w.heap.size, 0, none⟩) 64 64) T) (ht : Tabs wx) => stWrite [] T (.slice (some ⟨w.heap.size, 0, none⟩) 64 64) wx (by rw [TL.out]; simp) hx ht
        rw [List.nil_append] at hw
        have hn : ∀ wx : World, Calls Tryd.prog 30 #[] wx fun e w' => e = .returned (.agg (stOf [])) ∧ Below wx.heap.size wx w' := fun wx => new_any wx
        obtain ⟨S0, hS0⟩ : ∃ S0, S0 = stOf [] := ⟨_, rfl⟩
        obtain ⟨S1, hS1⟩ : ∃ S1, S1 = stOf T := ⟨_, rfl⟩
        obtain ⟨Z, hZ⟩ : ∃ Z, Z = Zst := ⟨_, rfl⟩
        rw [← hS0] at hn hw
        rw [← hS1] at hw
        have KS1 := Lib.hid hS1
        have S1S : Hid (S1.size = 73) := by rw [hS1]; exact stOf_size _
        have S1O : Hid (S1.all (·.oneCell') = true) := by rw [hS1]; exact stOf_one _
        have ZS : Hid (Z.size = 73) := by rw [hZ]; exact Zst_size
        rw [← hZ] at ALL
        have HW := Lib.hid hw; have HNEW := Lib.hid hn
        clear hw hn hS0 hS1 hZ hx
        refine wp_region_plan (.take 1 (.two 0 3 (.two 2 3 (.sole 3 (.sole 4 .done)) (.sole 2 (.sole 4 .done))) (.sole 0 (.sole 2 (.sole 4 .done))))) (by kernel_rfl) (by kernel_rfl) (by kernel_rfl) ?_
        refine plan_cut _ _ 64 5 w.heap.size 0 (by rfl) (by rfl) (by rfl) (by first | (with_reducible exact Mem.ev_const _ _) | (with_reducible exact Mem.ev_zero _ _ _) | (with_reducible (apply Eq.trans (Mem.ev_tmp _ _ _)); simp only [List.getD_cons_succ, List.getD_cons_zero] <;> rfl)) Tryd.underlying28 infoB ?_
        (simp only [Act.put, List.setIfInBounds_toArray, List.set_cons_zero, List.set_cons_succ])
        have B : Hid (Below wr.heap.size wr wr.drew) := (Below.refl _ _).drew
        generalize wr.drew = W at *
        repeat' (first
          | (refine plan_two ?_ ?_)
          | (refine plan_call (i := 0) 30 _ _ #[] (by kernel_rfl) (by rfl) (by rfl) (by rfl) (by first | exact Mem.ev_none _ | (simp only [List.map_toArray, List.map_cons, List.map_nil, Mem.ev_tmp, List.getD_cons_succ, List.getD_cons_zero] <;> rfl)) ?_
             refine (HNEW.out _).mono ?_
             rintro e W ⟨rfl, hbn⟩
             have B := Lib.hid (B.out.trans (hbn.mono B.out.size))
             (try (have A8 := Lib.hid (A8.out.below hbn A8.out.lt)))
             clear hbn
             refine ⟨_, rfl, B.out, ?_⟩
             (simp only [Act.put, List.setIfInBounds_toArray, List.set_cons_zero, List.set_cons_succ]))
          | (refine plan_call (i := 2) 43 _ _ #[.agg S0, .slice (some ⟨w.heap.size, 0, none⟩) 64 64] (by kernel_rfl) (by rfl) (by rfl) (by rfl) (by first | exact Mem.ev_none _ | (simp only [List.map_toArray, List.map_cons, List.map_nil, Mem.ev_tmp, List.getD_cons_succ, List.getD_cons_zero] <;> rfl)) ?_
             refine (HW.out _ (TSl.out _ B.out) (HL.out.below (II.out.b.trans (B.out.mono II.out.b.size)) (Nat.le_refl _))).mono ?_
             rintro e W ⟨rfl, hbn⟩
             have B := Lib.hid (B.out.trans (hbn.mono B.out.size))
             (try (have A8 := Lib.hid (A8.out.below hbn A8.out.lt)))
             clear hbn
             refine ⟨_, rfl, B.out, ?_⟩
             (simp only [Act.put, List.setIfInBounds_toArray, List.set_cons_zero, List.set_cons_succ]))
          | (refine plan_alloc_any (i := 3) 55 Z (by rfl) (by rfl) (by rfl) ALL.out (fun W' h => h _ _ B.out B.out.size) ?_
             intro b8 W ha hlo _ hbb
             have LO8 := Lib.hid (Nat.le_trans B.out.size hlo)
             have B := Lib.hid (hbb _ _ B.out B.out.size)
             have A8 := Lib.hid ha
             clear ha hlo hbb
             (simp only [Act.put, List.setIfInBounds_toArray, List.set_cons_zero, List.set_cons_succ]))
          | (refine plan_store_any (i := 4) 55 _ _ b8 S1 Z 55 (by rfl) (by rfl) (by rfl) (by rfl) (by rfl) (by rfl) (by rw [S1S.out]; exact infoSt) A8.out (by rw [S1S.out, ZS.out]) S1O.out (fun W' h => h _ _ B.out LO8.out) ?_
             intro W ha _ hbb
             have B := Lib.hid (hbb _ _ B.out LO8.out)
             have A8 := Lib.hid ha
             clear ha hbb))
        all_goals (refine plan_nil ?_; go_wp2_with fail; go_meet; exact ⟨b8, rfl, LO8.out, by have h := A8.out; rw [KS1.out] at h; exact h, B.out⟩)
      case rest =>
        obtain ⟨Bs, rfl, hlo, hs, hb⟩ := hcut
        have hlo' : w.heap.size + 1 < Bs := Nat.lt_of_lt_of_le II.out.r.lt hlo
        have i0 : UInv (stOf (T ++ (ps.take 0).flatten)) Bs w.heap.size w wc := by
          rw [List.take_zero, List.flatten_nil, List.append_nil]
          exact ⟨hs, II.out.r.below hb II.out.r.lt, II.out.b.trans (hb.mono II.out.b.size)⟩
        have I0 := Lib.hid i0; have LO := Lib.hid hlo'
        clear i0 hlo' hs hb hlo
        generalize wc = w5 at *
        go_wp2_with fail
        go_loopw [26] (fun i wr => ∃ j : Nat, j ≤ m ∧ i = .int .i64 j ∧ UInv (stOf (T ++ (ps.take j).flatten)) Bs w.heap.size w wr) (fun i _ => m - (intOf i).toNat)
        case atStart => exact ⟨0, by omega, rfl, I0.out⟩
        case round =>
          obtain ⟨j, hj, rfl, hI⟩ := hrel
          by_cases hlt : j < m
          · obtain ⟨pb, po, ha, hpb, hpc⟩ := HCE.out (by intro e; have := HM.out; rw [e] at this; simp at this; omega)
            subst ha
            obtain ⟨vi, hvi, hsl⟩ := hpc j (by rw [← HM.out]; exact hlt)
            have cv : wr.cell? ⟨pb, po + j, none⟩ = some vi := by rw [hI.b.cell (p := ⟨pb, po + j, none⟩) hpb]; exact hvi
            have hft := flat_take ps j (by rw [← HM.out]; exact hlt)
            have hle := flat_take_le ps (j + 1)
            rw [hft, List.length_append] at hle
            have hcall := stWrite (T ++ (ps.take j).flatten) (ps.getD j []) vi wr (by rw [List.length_append, TL.out]; have := HN.out; omega) (hsl.below hI.b) (HL.out.below hI.b (Nat.le_refl _))
            rw [List.append_assoc, ← hft] at hcall
            obtain ⟨R, hR⟩ : ∃ R, R = stOf (T ++ (ps.take j).flatten) := ⟨_, rfl⟩
            obtain ⟨E, hE⟩ : ∃ E, E = stOf (T ++ (ps.take (j + 1)).flatten) := ⟨_, rfl⟩
            have hc := hI.s
            rw [← hR] at hcall hc
            rw [← hE] at hcall
            have hRs : R.size = 73 := by rw [hR]; exact stOf_size _
            have hEs : E.size = 73 := by rw [hE]; exact stOf_size _
            have hEo : E.all (·.oneCell') = true := by rw [hE]; exact stOf_one _
            have HRC := Lib.hid hc; have RS := Lib.hid hRs; have ES := Lib.hid hEs; have EO := Lib.hid hEo; have HCALL := Lib.hid hcall; have KE := Lib.hid hE; have HI := Lib.hid hI
            clear hc hRs hEs hEo hcall hE hI hR hft hle hpc hsl hvi
            go_wp2_with (first | (refine wpList_load_all (by rfl) 55 _ (by rfl) Bs (by rfl) _ Tryd.underlying55 (by rfl) R _ HRC.out (by rw [RS.out]; exact infoSt) ?_) | (go_at_call 43; refine HCALL.out.mono ?_; rintro e w6 ⟨rfl, hb6⟩; have C6 := Lib.hid (HRC.out.below hb6 HRC.out.lt); have HB6 := Lib.hid hb6; clear hb6) | (refine wpList_store_all (by rfl) 55 _ _ (by rfl) (by rfl) Bs E (by rfl) (by rfl) (by rw [ES.out]; exact infoSt) R _ C6.out (by rw [ES.out, RS.out]) EO.out ?_))
            go_roundw
            case rel =>
              have hlo := LO.out
              have r6 := HI.out.r.below HB6.out HI.out.r.lt
              have b6 := HI.out.b.trans (HB6.out.mono HI.out.b.size)
              exact ⟨j + 1, by omega, by go_num, by rw [← KE.out]; exact C6.out.row E, r6.row_other E (by omega), below_row b6 (by omega) E⟩
            case measure => simp [intOf]; omega
          · have hjm : j = m := by omega
            have hfl : ps.take j = ps := List.take_of_length_le (by rw [hjm, HM.out]; exact Nat.le_refl _)
            rw [hfl] at hI
            have hge : ¬ (j : Int) < (m : Int) := by omega
            have hcall := stSum (T ++ ps.flatten) wr (by rw [List.length_append, TL.out]; have := HN.out; omega) (HL.out.below hI.b (Nat.le_refl _))
            obtain ⟨R, hR⟩ : ∃ R, R = stOf (T ++ ps.flatten) := ⟨_, rfl⟩
            obtain ⟨G, hG⟩ : ∃ G, G = dgOf (T ++ ps.flatten) := ⟨_, rfl⟩
            have hc := hI.s
            rw [← hR] at hcall hc
            rw [← hG] at hcall
            have hRs : R.size = 73 := by rw [hR]; exact stOf_size _
            have hGs : G.size = 32 := by rw [hG]; exact dgOf_size _
            have hGo : G.all (·.oneCell') = true := by rw [hG]; exact dgOf_one _
            have hfin : dgOf (turned K y ++ ps.flatten) = G := by rw [hG, TT.out]
            have HRC := Lib.hid hc; have RS := Lib.hid hRs; have GS := Lib.hid hGs; have GO := Lib.hid hGo; have HCALL := Lib.hid hcall; have FIN := Lib.hid hfin; have HI := Lib.hid hI
            clear hc hRs hGs hGo hcall hfin hI hR hG hfl hjm hlt hj
            go_wp2_with (first | (refine wpList_load_all (by rfl) 55 _ (by rfl) Bs (by rfl) _ Tryd.underlying55 (by rfl) R _ HRC.out (by rw [RS.out]; exact infoSt) ?_) | (go_at_call 32; refine HCALL.out.mono ?_; rintro e w6 ⟨rfl, hb6⟩; have R6 := Lib.hid (HI.out.r.below hb6 HI.out.r.lt); have B6 := Lib.hid (HI.out.b.trans (hb6.mono HI.out.b.size)); clear hb6) | (refine wpList_store_all (by rfl) 25 _ _ (by rfl) (by rfl) (w.heap.size + 1) G (by rfl) (by rfl) (by rw [GS.out]; exact info32) _ _ R6.out (by rw [GS.out]; simp [Z32, u8s]) GO.out ?_))
            try simp only [Exit.inBlock, Exit.then]
            refine ret_row (by rfl) (w.heap.size + 1) 25 G _ (by rfl) (R6.out.row G) Tryd.underlying25 (by rfl) (by rw [GS.out]; exact info32) ?_
            exact ⟨by rw [FIN.out], below_row B6.out (by omega) G⟩
end Sha
end Go.Proofs.YtngegegomkclbaaDoor
