/- The law SealClashes of layer 9: two unlike texts with one digest are told just if there are some. For every input, the tables of packages cipher and sha tied to the program's text. -/
import Derived.Test.YtmfgimkopddcgaaDoorBG
import Derived.Test.YtmfgimkopddcgaaDoorBI
import Derived.Test.YtmfgimkopddcgaaDoorCards
import Derived.Test.YtmfgimkopddcgaaDoorTie
namespace Go.Proofs.YtmfgimkopddcgaaDoor
namespace Sha
open Go.RowKit Mem
set_option maxRecDepth 100000 in
set_option maxHeartbeats 4000000 in
theorem clashes_core {T : World → Prop} (C : SealP T) (ps : List (List (BitVec 8))) (v : Value) (w : World) (hv : Sls w v ps) (hn : ps.length ≤ 9223372036854775807) (hT : T w) :
    Calls Tryd.prog 8 #[v] w fun e w' => e = .returned (.bool true) ∧ Below w.heap.size w w' := by
  have ALV := Lib.hid (fun wx h => alive9_any C wx h)
  have CC := Lib.hid C
  have hv0 := hv
  obtain ⟨a0, cap0, rfl, _, _⟩ := hv0
  obtain ⟨n, hnn⟩ : ∃ n, n = ps.length := ⟨_, rfl⟩
  rw [← hnn] at hn hv ⊢
  have HV := Lib.hid hv; have HN := Lib.hid hnn; have TT := Lib.hid hT
  clear hv hnn hT C
  by_cases g12 : 12 < n
  · have g12' : (12 : Int) < (n : Int) := by omega
    go_enter Tryd.func8, Tryd.ntmps8
    go_wp2_with fail
    refine (ALV.out w TT.out).mono ?_
    rintro e w1 ⟨rfl, hb⟩
    have B1 := Lib.hid hb
    clear hb
    go_wp2_with fail
    go_ret
    exact ⟨rfl, B1.out⟩
  · have g12' : ¬ (12 : Int) < (n : Int) := by omega
    go_enter Tryd.func8, Tryd.ntmps8
    go_wp2_with fail
    go_loopw [17] (fun i wr => ∃ j : Nat, j ≤ n ∧ i = .int .i64 j ∧ Below w.heap.size w wr ∧ ∀ q < j, (ps.getD q []).length ≤ 200) (fun i _ => n - (intOf i).toNat)
    case atStart => exact ⟨0, by omega, rfl, Below.refl _ _, fun q hq => by omega⟩
    case round =>
      obtain ⟨j, hj, rfl, hb, hq⟩ := hrel
      by_cases hlt : j < n
      · have hlt' : (j : Int) < (n : Int) := by omega
        obtain ⟨pb, po, vi, rfl, hpb, hcell, hsl⟩ := sls_at (HV.out.below hb) (i := j) (by rw [← HN.out]; exact hlt)
        obtain ⟨a1, c1, rfl⟩ := sl_inv hsl
        obtain ⟨m, hm⟩ : ∃ m, m = (ps.getD j []).length := ⟨_, rfl⟩
        rw [← hm] at hcell
        have BB := Lib.hid hb; have QQ := Lib.hid hq; have HM := Lib.hid hm
        clear hb hq hm hsl
        by_cases g2 : 200 < m
        · have g2' : (200 : Int) < (m : Int) := by omega
          go_wp2_with fail
          refine (ALV.out wr (CC.out.below TT.out BB.out)).mono ?_
          rintro e w1 ⟨rfl, hb⟩
          have B1 := Lib.hid (BB.out.trans (hb.mono BB.out.size))
          clear hb
          go_wp2_with fail
          go_ret
          exact ⟨rfl, B1.out⟩
        · have g2' : ¬ (200 : Int) < (m : Int) := by omega
          go_wp2_with fail
          go_roundw
          case rel => exact ⟨j + 1, by omega, by go_num, BB.out, fun q hq => by
            rcases Nat.lt_or_ge q j with g | g
            · exact QQ.out q g
            · have : q = j := by omega
              subst this; rw [← HM.out]; omega⟩
          case measure => simp [intOf]; omega
      · have hj2 : j = n := by omega
        have hge : ¬ (j : Int) < (n : Int) := by omega
        have hall : ∀ p ∈ ps, p.length ≤ 200 := fun p hp => by
          obtain ⟨q, hq2, rfl⟩ := List.getElem_of_mem hp
          have h := hq q (by rw [hj2, HN.out]; exact hq2)
          rw [List.getD_eq_getElem?_getD, List.getElem?_eq_getElem hq2] at h
          exact h
        have ALL := Lib.hid hall; have BB := Lib.hid hb
        have V1 := Lib.hid (HV.out.below hb); have T1 := Lib.hid (CC.out.below TT.out hb)
        clear hb hq hlt hj hall
        go_wp2_with fail
        refine (CC.out.clash ps _ wr V1.out (by rw [← HN.out]; omega) (fun p hp => Nat.le_trans (ALL.out p hp) (by decide)) T1.out).mono ?_
        rintro e w2 ⟨a, c, ok, rfl, hcl, hb2⟩
        have V2 := Lib.hid (V1.out.below hb2); have B2 := Lib.hid (BB.out.trans (hb2.mono BB.out.size)); have T2 := Lib.hid (CC.out.below T1.out hb2); have CL := Lib.hid hcl
        clear hcl hb2 V1 T1 BB
        go_wp2_with fail
        refine (rclash_any ps _ w2 V2.out (by rw [← HN.out]; omega) (fun p hp => Nat.le_trans (ALL.out p hp) (by decide))).mono ?_
        rintro e w3 ⟨a', c', ok', rfl, hcl', hb3⟩
        obtain ⟨rfl, rfl, rfl⟩ := isClash_one CL.out hcl'
        have B3 := Lib.hid (B2.out.trans (hb3.mono B2.out.size)); have T3 := Lib.hid (CC.out.below T2.out hb3)
        clear hcl' hb3 V2 T2 B2 CL
        cases ok
        · go_wp2_with fail
          refine (ALV.out w3 T3.out).mono ?_
          rintro e w4 ⟨rfl, hb4⟩
          have B4 := Lib.hid (B3.out.trans (hb4.mono B3.out.size))
          clear hb4
          go_wp2_with fail
          go_ret
          exact ⟨rfl, B4.out⟩
        · go_wp2_with fail
          refine (ALV.out w3 T3.out).mono ?_
          rintro e w4 ⟨rfl, hb4⟩
          have B4 := Lib.hid (B3.out.trans (hb4.mono B3.out.size))
          clear hb4
          go_wp2_with fail
          go_ret
          exact ⟨rfl, B4.out⟩
end Sha
end Go.Proofs.YtmfgimkopddcgaaDoor
namespace Go.Proofs.YtmfgimkopddcgaaDoor
namespace Sha
open Go.ChangeShapes Go.WideShapes Go.ChangeAt Go.WideMaps Go.WideElems Go.RowKit Mem
set_option maxRecDepth 100000

set_option maxRecDepth 100000 in
theorem sealClashes_lifted (os : Os) (started : os.Started) (H : Type) (enc : TypeId × Value → H) :
    ReturnsInHanded {} Tryd.checked os 8 .any (fun w args => (Rows.sealClashesSpec.pre enc Tryd.prog Tryd.f8 [] false w args ∧ laidMetH Tryd.prog laidL w) ∧ sizedMet enc Tryd.prog Tryd.f8 (OpenSpec.ofChange Rows.sealClashesSpec) false w args)
      (Rows.sealClashesSpec.post enc Tryd.prog Tryd.f8 false true false false) := by
  refine law_lift rfl rfl (by kernel_rfl) (fun H ds hl => ?_) (by kernel_rfl) Tryd.func8 os started H enc #[.slice none 0 0] 8 (by kernel_rfl) (by kernel_rfl) (by kernel_rfl) (World.shaped_of_RefB (by kernel_rfl) (by kernel_rfl)) (door_met os _) rfl ?_
  · have hl' : ds.length = 1 := hl
    match ds, hl' with
    | [_], _ => rfl
  · intro W base args ds p hval hA hT
    rw [Tryd.params8] at hA hval
    obtain ⟨v0, vs0, d0, ds0, p0, q0, hargs, rfl, rfl, h0, r0⟩ := trodAll_cons hA
    obtain ⟨rfl, rfl, rfl⟩ := trodAll_nil r0
    obtain rfl : args = #[v0] := by cases args; simp_all
    have k0 := hval 0 44 v0 rfl rfl
    clear hval
    obtain ⟨ps, sp, lp, _⟩ := open_sls k0 h0
    exact clashes_core sealP9 ps v0 W sp lp hT
theorem sealClashes_holds : Rows.SealClashesSaid :=
  OpenClaim.holds_of_wide 8 Tryd.f8 rfl rfl rfl rfl rfl rfl rfl ⟨rfl, rfl, rfl, rfl, rfl⟩ rfl rfl rfl rfl rfl (by kernel_rfl) Tryd.func8 (by kernel_rfl)
    (of_decide_eq_true (by kernel_rfl)) (by unfold Func.isWrapper; first | (rw [if_pos (by decide +kernel)]; kernel_rfl) | (rw [if_neg (by decide +kernel)]; exact ⟨rfl, rfl⟩))
    (fun os started H enc _ => sealClashes_lifted os started H enc)
theorem sealClashes_card : Rows.SealClashesCardSaid :=
  Claim7.holds_tied_plain_at .later [] [.data, .data, .data, .data] true (true, "7c2a96d1b893a63d5f7b31ce1bc3e010c6a1c609f653f8130d4722b647222005") false
    sealClashes_holds (fun _ h => by cases h) (by kernel_rfl) (fun _ h => by cases h) sealClashes_row_tie rfl ⟨rfl, rfl⟩ (by kernel_rfl) rfl
    (fun f fn hf hfn => by
      obtain rfl : f = 8 := Option.some.inj ((show Tryd.prog.funcNamed "carling/carlinglaw09.SealClashes" = some 8 by kernel_rfl).symm.trans hf) |>.symm
      obtain rfl : fn = Tryd.f8 := (Option.some.inj (Tryd.func8.symm.trans hfn)).symm
      exact ⟨by kernel_rfl, fun j t ht => by
        rw [Tryd.params8] at ht
        have hm : t ∈ [44] := by simpa using Array.mem_of_getElem? ht
        have hall : ([44].all fun u => !Tryd.prog.wantsStandIn u) = true := by kernel_rfl
        exact (show Tryd.prog.wantsStandIn t = false by simpa using List.all_eq_true.1 hall t hm)⟩)
    (by kernel_rfl)
#print axioms sealClashes_card
end Sha
end Go.Proofs.YtmfgimkopddcgaaDoor
