/- The law ShaConsts of layer 1: any round constant is the document's, the first bits of the fraction of a cube root; for every input, the two tables of package sha tied to the program's text. -/
import Derived.Test.YtdopaiabbcdoiaaDoorShaDoor
import Derived.Test.YtdopaiabbcdoiaaDoorShaPrimeWalk
import Derived.Test.YtdopaiabbcdoiaaDoorCards
import Derived.Test.YtdopaiabbcdoiaaDoorTie
import Derived.SevenTiedAt
namespace Go.Proofs.YtdopaiabbcdoiaaDoor
namespace Sha
open Go.ChangeShapes Go.WideShapes Go.ChangeAt Go.WideMaps Go.WideElems Go.RowKit Mem

set_option maxHeartbeats 400000 in
theorem refConst_none (n : Int) (w : World) (h : n < 0 ∨ 63 < n) :
    Calls Tryd.prog 19 #[.int .i64 n] w fun e w' => e = .returned (.int .u32 0) ∧ w = w' := by
  rcases h with h | h
  · go_enter Tryd.func19, Tryd.ntmps19
    go_wp2
    go_ret
    exact ⟨rfl, rfl⟩
  · have h' : ¬ n < 0 := by omega
    go_enter Tryd.func19, Tryd.ntmps19
    go_wp2
    go_ret
    exact ⟨rfl, rfl⟩
set_option maxRecDepth 100000 in
set_option maxHeartbeats 400000 in
theorem refConst_at (n : Nat) (w : World) (hn : n < 64) :
    Calls Tryd.prog 19 #[.int .i64 (n : Int)] w fun e w' => e = .returned (.int .u32 (V (Kl.getD n 0))) ∧ Below w.heap.size w w' := by
  have h1 : ¬ (n : Int) < 0 := by omega
  have h2 : ¬ (63 : Int) < (n : Int) := by omega
  have hp : Calls Tryd.prog 29 #[.int .i64 ((n : Int) + 1)] w (PEnd (n + 1) w) := by
    have h := primes_any (n + 1) (by omega) w
    rwa [Int.natCast_add] at h
  have HP := Lib.hid hp; clear hp
  go_enter Tryd.func19, Tryd.ntmps19
  go_wp2_with fail
  refine HP.out.mono ?_
  rintro e w1 ⟨v, q, rfl, hq, hlen, hown, hb⟩
  obtain ⟨a, cap, rfl, hc⟩ := own_open hown
  obtain ⟨g, rfl, hcell⟩ := hc n (by omega)
  rw [pr_at q n hq (by omega)] at hcell
  obtain ⟨L, hL⟩ : ∃ L, L = (pr q).length := ⟨_, rfl⟩
  rw [← hL] at hlen ⊢
  obtain ⟨p, hpp⟩ : ∃ p : Int, p = (((pr 312).getD n 0 : Nat) : Int) := ⟨_, rfl⟩
  rw [← hpp] at hcell
  have hp0 : 0 ≤ p := by rw [hpp]; exact Int.natCast_nonneg _
  have hcube := cube_any p w1 hp0
  have ev : cubeGo p 35 0 % (4294967296 : Int) = V (Kl.getD n 0) := by rw [hpp]; exact cube_at n hn
  rw [ev] at hcube
  have HC := Lib.hid hcube; have HB := Lib.hid hb
  have hlt : (n : Int) < (L : Int) := by omega
  clear hcube hb hown hc hL hpp ev hlen hq
  go_wp2_with fail
  refine HC.out.mono ?_
  rintro e w2 ⟨rfl, rfl⟩
  go_wp2_with fail
  go_ret
  exact ⟨rfl, HB.out⟩
set_option maxRecDepth 100000 in
set_option maxHeartbeats 400000 in
theorem consts_any (n : Int) (w : World) (h0 : -9223372036854775808 ≤ n) (h1 : n ≤ 9223372036854775807) (hL : Tabs w) :
    Calls Tryd.prog 7 #[.int .i64 n] w fun e w' => e = .returned (.bool true) ∧ Below w.heap.size w w' := by
  by_cases hin : 0 ≤ n ∧ n < 64
  · obtain ⟨m, rfl⟩ := Int.eq_ofNat_of_zero_le hin.1
    have hm : m < 64 := by omega
    have C1 := Lib.hid (const_at m w (Kl.getD m 0) hm (hL.k.2 m hm))
    have C2 := Lib.hid (refConst_at m w hm)
    have HL := Lib.hid hL; clear hL hin
    go_enter Tryd.func7, Tryd.ntmps7
    go_wp2_with fail
    refine C1.out.mono ?_
    rintro e w1 ⟨rfl, rfl⟩
    go_wp2_with fail
    refine C2.out.mono ?_
    rintro e w1 ⟨rfl, hb1⟩
    have ha := alive_any w1 (HL.out.below hb1 (Nat.le_refl _))
    have HA := Lib.hid ha; have HB := Lib.hid hb1; clear ha hb1
    go_wp2_with fail
    refine HA.out.mono ?_
    rintro e w2 ⟨rfl, hb2⟩
    have HB2 := Lib.hid hb2; clear hb2
    go_wp2_with fail
    go_ret
    exact ⟨rfl, HB.out.trans (HB2.out.mono HB.out.size)⟩
  · have C1 := Lib.hid (const_none n w h0 h1 (by omega))
    have C2 := Lib.hid (refConst_none n w (by omega))
    have C3 := Lib.hid (alive_any w hL)
    clear hL hin
    go_enter Tryd.func7, Tryd.ntmps7
    go_wp2_with fail
    refine C1.out.mono ?_
    rintro e w1 ⟨rfl, rfl⟩
    go_wp2_with fail
    refine C2.out.mono ?_
    rintro e w1 ⟨rfl, rfl⟩
    go_wp2_with fail
    refine C3.out.mono ?_
    rintro e w2 ⟨rfl, hb2⟩
    go_wp2_with fail
    go_ret
    exact ⟨rfl, hb2⟩

set_option maxRecDepth 100000 in
theorem consts_lifted (os : Os) (started : os.Started) (H : Type) (enc : TypeId × Value → H) :
    ReturnsInHanded {} Tryd.checked os 7 .any (fun w args => (Rows.shaConstsSpec.pre enc Tryd.prog Tryd.f7 [] false w args ∧ laidMetH Tryd.prog laidL w) ∧ sizedMet enc Tryd.prog Tryd.f7 (OpenSpec.ofChange Rows.shaConstsSpec) false w args)
      (Rows.shaConstsSpec.post enc Tryd.prog Tryd.f7 false true false false) := by
  refine returnsInHanded_of_change_and (C := Tryd.checked) (X := fun w _ => laidMetH Tryd.prog laidL w) (fun _ _ _ hh h => h.of_heap hh) own started (by kernel_rfl) Tryd.func7
    (ChangeSpec.witness_shaped (enc := enc) (C := Tryd.checked) (os := os) (X := fun w _ => laidMetH Tryd.prog laidL w) false (World.doorLaid Tryd.prog 4000 os) #[.int .i64 0] 8 rfl (World.shaped_of_RefB (by kernel_rfl) (by kernel_rfl)) (by kernel_rfl) (by kernel_rfl) (by kernel_rfl) (door_met os _)) ?_
  intro W base args ds gs before hval0 hW _ _ hL _
  have hval : ∀ (j : Nat) t v, Tryd.f7.params[j]? = some t → args[j]? = some v → Value.okWide Tryd.prog W .any base t v := hval0
  have hW' := hW
  obtain ⟨p, q, hA0, hV, rfl, hfz, hnd⟩ := hW
  have hA : DataW.TrodAll enc Tryd.prog W 0 (fun _ => true) true Tryd.f7.params.toList args.toList ds p := hA0
  rw [Tryd.params7] at hA hval
  obtain ⟨v0, vs0, d0, ds0, p0, q0, hargs, rfl, rfl, h0, r0⟩ := trodAll_cons hA
  obtain ⟨rfl, rfl, rfl⟩ := trodAll_nil r0
  obtain rfl : args = #[v0] := by cases args; simp_all
  obtain ⟨rfl, rfl⟩ := trodVars_none hV
  obtain ⟨a0, rfl, rfl, rfl, w0⟩ := open_int Tryd.underlying3 (hval 0 3 v0 rfl rfl) h0
  clear hA0 hval0
  simp only [List.append_nil] at hW'
  have hT := tabs_of hL
  have b0 := w0
  simp [Lit.wf, IntKind.min, IntKind.max, IntKind.signed, IntKind.bits] at b0
  have hcall := consts_any a0 W (by omega) (by omega) hT
  refine hcall.mono fun e W' ⟨he, hb⟩ => ?_
  subst he
  exact ⟨_, rfl, _, _, _, [], [], [], hW', (trodAll_cons_mk (shut_bool Tryd.underlying4 _) trodAll_mk0), (trodAll_cons_mk (shut_int Tryd.underlying3 w0) trodAll_mk0), rfl, hb.frame _, fun h => by cases h⟩

theorem consts_holds : Rows.ShaConstsSaid :=
  OpenClaim.holds_of_wide 7 Tryd.f7 rfl rfl rfl rfl rfl rfl rfl ⟨rfl, rfl, rfl, rfl, rfl⟩ rfl rfl rfl rfl rfl (by kernel_rfl) Tryd.func7 (by kernel_rfl)
    (of_decide_eq_true (by kernel_rfl)) (by unfold Func.isWrapper; first | (rw [if_pos (by decide +kernel)]; kernel_rfl) | (rw [if_neg (by decide +kernel)]; exact ⟨rfl, rfl⟩))
    (fun os started H enc _ => consts_lifted os started H enc)
theorem consts_card : Rows.ShaConstsCardSaid :=
  Claim7.holds_tied_plain_at .later [] [.data, .data] true (true, "7a6a2f2faaa2f7e9909515df31a50a3c01cf26e9012c20d0691fdf500220d4fa") false
    consts_holds (fun _ h => by cases h) (by kernel_rfl) (fun _ h => by cases h) shaConsts_row_tie rfl ⟨rfl, rfl⟩ (by kernel_rfl) rfl
    (fun f fn hf hfn => by
      obtain rfl : f = 7 := Option.some.inj ((show Tryd.prog.funcNamed "carling/carlinglaw01.ShaConsts" = some 7 by kernel_rfl).symm.trans hf) |>.symm
      obtain rfl : fn = Tryd.f7 := (Option.some.inj (Tryd.func7.symm.trans hfn)).symm
      exact ⟨by kernel_rfl, fun j t ht => by
        rw [Tryd.params7] at ht
        have hm : t ∈ [3] := by simpa using Array.mem_of_getElem? ht
        have hall : ([3].all fun u => !Tryd.prog.wantsStandIn u) = true := by kernel_rfl
        exact (show Tryd.prog.wantsStandIn t = false by simpa using List.all_eq_true.1 hall t hm)⟩)
    (by kernel_rfl)
#print axioms consts_card
end Sha
end Go.Proofs.YtdopaiabbcdoiaaDoor
