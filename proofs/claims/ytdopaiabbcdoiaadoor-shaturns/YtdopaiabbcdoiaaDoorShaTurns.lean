/- The law ShaTurns of layer 1: any word turned by any number is the document's, turned by two it is turned by their sum; for every input, the two tables of package sha tied to the program's text. -/
import Derived.Test.YtdopaiabbcdoiaaDoorShaDoor
import Derived.Test.YtdopaiabbcdoiaaDoorCards
import Derived.Test.YtdopaiabbcdoiaaDoorTie
import Derived.SevenTiedAt
namespace Go.Proofs.YtdopaiabbcdoiaaDoor
namespace Sha
open Go.ChangeShapes Go.WideShapes Go.ChangeAt Go.WideMaps Go.WideElems Go.RowKit Mem

set_option maxRecDepth 100000 in
set_option maxHeartbeats 400000 in
theorem turns_any (x : BitVec 32) (n m : Int) (w : World) (h0 : -9223372036854775808 ≤ n) (h1 : n ≤ 9223372036854775807) (m0 : 0 ≤ m) (m1 : m ≤ 255) (hL : Tabs w) :
    Calls Tryd.prog 6 #[.int .u32 (V x), .int .i64 n, .int .u8 m] w fun e w' => e = .returned (.bool true) ∧ Below w.heap.size w w' := by
  have ht : n.tmod 32 = n % 32 ∨ (n.tmod 32 = n % 32 - 32 ∧ n % 32 ≠ 0) := by
    rw [Int.tmod_eq_emod]
    split
    · left; omega
    · rename_i h
      right
      refine ⟨by simp, fun e => h (Or.inr (Int.dvd_of_emod_eq_zero e))⟩
  obtain ⟨c, hc⟩ : ∃ c, c = n.tmod 32 := ⟨_, rfl⟩
  have hcc : n.tmod 32 = c := hc.symm
  have hcl : -32 < c := by omega
  have hch : c < 32 := by omega
  obtain ⟨r, hr⟩ : ∃ r, r = (n % 32).toNat := ⟨_, rfl⟩
  have e1 : (c % 32).toNat = r := by omega
  have e2 : (m % 32).toNat < 32 := by omega
  have e3 : ((c + m) % 32).toNat = (r + (m % 32).toNat) % 32 := by omega
  have T1 := Lib.hid (fun w => turn_any x c r w e1 (by omega) (by omega))
  have T2 : Hid (∀ w, Calls Tryd.prog 16 #[.int .u32 (V (x.rotateRight r)), .int .i64 m] w fun e w' => e = .returned (.int .u32 (V (x.rotateRight ((r + (m % 32).toNat) % 32)))) ∧ w = w') := fun w => by
    rw [← rotr_rotr x r _ (by omega) e2]
    exact turn_any (x.rotateRight r) m _ w rfl (by omega) (by omega)
  have T3 := Lib.hid (fun w => turn_any x n r w hr.symm h0 h1)
  have T4 := Lib.hid (fun w => rturn_any x n r w hr.symm h0 h1)
  have T5 := Lib.hid (fun w => turn_any x (c + m) _ w e3 (by omega) (by omega))
  have T6 := Lib.hid (alive_any w hL)
  clear ht hc hr e1 e2 e3
  go_enter Tryd.func6, Tryd.ntmps6
  go_wp2_with fail
  refine (T1.out _).mono ?_
  rintro e w1 ⟨rfl, rfl⟩
  go_wp2_with fail
  refine (T2.out _).mono ?_
  rintro e w1 ⟨rfl, rfl⟩
  go_wp2_with fail
  refine (T3.out _).mono ?_
  rintro e w1 ⟨rfl, rfl⟩
  go_wp2_with fail
  refine (T4.out _).mono ?_
  rintro e w1 ⟨rfl, rfl⟩
  go_wp2_with fail
  refine (T5.out _).mono ?_
  rintro e w1 ⟨rfl, rfl⟩
  go_wp2_with fail
  refine T6.out.mono ?_
  rintro e w1 ⟨rfl, hb⟩
  go_wp2_with fail
  go_ret
  exact ⟨rfl, hb⟩

theorem word_of {a : Int} (h : (Lit.int .u32 a).wf = true) : ∃ x : BitVec 32, a = V x := by
  have h2 := h
  simp [Lit.wf, IntKind.min, IntKind.max, IntKind.signed, IntKind.bits] at h2
  refine ⟨BitVec.ofNat 32 a.toNat, ?_⟩
  unfold V
  rw [BitVec.toNat_ofNat]
  omega
set_option maxRecDepth 100000 in
theorem turns_lifted (os : Os) (started : os.Started) (H : Type) (enc : TypeId × Value → H) :
    ReturnsInHanded {} Tryd.checked os 6 .any (fun w args => (Rows.shaTurnsSpec.pre enc Tryd.prog Tryd.f6 [] false w args ∧ laidMetH Tryd.prog laidL w) ∧ sizedMet enc Tryd.prog Tryd.f6 (OpenSpec.ofChange Rows.shaTurnsSpec) false w args)
      (Rows.shaTurnsSpec.post enc Tryd.prog Tryd.f6 false true false false) := by
  refine returnsInHanded_of_change_and (C := Tryd.checked) (X := fun w _ => laidMetH Tryd.prog laidL w) (fun _ _ _ hh h => h.of_heap hh) own started (by kernel_rfl) Tryd.func6
    (ChangeSpec.witness_shaped (enc := enc) (C := Tryd.checked) (os := os) (X := fun w _ => laidMetH Tryd.prog laidL w) false (World.doorLaid Tryd.prog 4000 os) #[.int .u32 0, .int .i64 0, .int .u8 0] 8 rfl (World.shaped_of_RefB (by kernel_rfl) (by kernel_rfl)) (by kernel_rfl) (by kernel_rfl) (by kernel_rfl) (door_met os _)) ?_
  intro W base args ds gs before hval0 hW _ _ hL _
  have hval : ∀ (j : Nat) t v, Tryd.f6.params[j]? = some t → args[j]? = some v → Value.okWide Tryd.prog W .any base t v := hval0
  have hW' := hW
  obtain ⟨p, q, hA0, hV, rfl, hfz, hnd⟩ := hW
  have hA : DataW.TrodAll enc Tryd.prog W 0 (fun _ => true) true Tryd.f6.params.toList args.toList ds p := hA0
  rw [Tryd.params6] at hA hval
  obtain ⟨v0, vs0, d0, ds0, p0, q0, hargs, rfl, rfl, h0, r0⟩ := trodAll_cons hA
  obtain ⟨v1, vs1, d1, ds1, p1, q1, rfl, rfl, rfl, h1, r1⟩ := trodAll_cons r0
  obtain ⟨v2, vs2, d2, ds2, p2, q2, rfl, rfl, rfl, h2, r2⟩ := trodAll_cons r1
  obtain ⟨rfl, rfl, rfl⟩ := trodAll_nil r2
  obtain rfl : args = #[v0, v1, v2] := by cases args; simp_all
  obtain ⟨rfl, rfl⟩ := trodVars_none hV
  obtain ⟨a0, rfl, rfl, rfl, w0⟩ := open_int Tryd.underlying29 (hval 0 29 v0 rfl rfl) h0
  obtain ⟨a1, rfl, rfl, rfl, w1⟩ := open_int Tryd.underlying3 (hval 1 3 v1 rfl rfl) h1
  obtain ⟨a2, rfl, rfl, rfl, w2⟩ := open_int Tryd.underlying5 (hval 2 5 v2 rfl rfl) h2
  clear hA0 hval0
  simp only [List.append_nil] at hW'
  have hT := tabs_of hL
  have b1 := w1
  have b2 := w2
  simp [Lit.wf, IntKind.min, IntKind.max, IntKind.signed, IntKind.bits] at b1 b2
  have hcall : Calls Tryd.prog 6 #[.int .u32 a0, .int .i64 a1, .int .u8 a2] W fun e w' => e = .returned (.bool true) ∧ Below W.heap.size W w' := by
    obtain ⟨x, hx⟩ := word_of w0
    rw [hx]
    exact turns_any x a1 a2 W (by omega) (by omega) (by omega) (by omega) hT
  refine hcall.mono fun e W' ⟨he, hb⟩ => ?_
  subst he
  exact ⟨_, rfl, _, _, _, [], [], [], hW', (trodAll_cons_mk (shut_bool Tryd.underlying4 _) trodAll_mk0), (trodAll_cons_mk (shut_int Tryd.underlying29 w0) (trodAll_cons_mk (shut_int Tryd.underlying3 w1) (trodAll_cons_mk (shut_int Tryd.underlying5 w2) trodAll_mk0))), rfl, hb.frame _, fun h => by cases h⟩

theorem turns_holds : Rows.ShaTurnsSaid :=
  OpenClaim.holds_of_wide 6 Tryd.f6 rfl rfl rfl rfl rfl rfl rfl ⟨rfl, rfl, rfl, rfl, rfl⟩ rfl rfl rfl rfl rfl (by kernel_rfl) Tryd.func6 (by kernel_rfl)
    (of_decide_eq_true (by kernel_rfl)) (by unfold Func.isWrapper; first | (rw [if_pos (by decide +kernel)]; kernel_rfl) | (rw [if_neg (by decide +kernel)]; exact ⟨rfl, rfl⟩))
    (fun os started H enc _ => turns_lifted os started H enc)
theorem turns_card : Rows.ShaTurnsCardSaid :=
  Claim7.holds_tied_plain_at .later [] [.data, .data] true (true, "7a6a2f2faaa2f7e9909515df31a50a3c01cf26e9012c20d0691fdf500220d4fa") false
    turns_holds (fun _ h => by cases h) (by kernel_rfl) (fun _ h => by cases h) shaTurns_row_tie rfl ⟨rfl, rfl⟩ (by kernel_rfl) rfl
    (fun f fn hf hfn => by
      obtain rfl : f = 6 := Option.some.inj ((show Tryd.prog.funcNamed "carling/carlinglaw01.ShaTurns" = some 6 by kernel_rfl).symm.trans hf) |>.symm
      obtain rfl : fn = Tryd.f6 := (Option.some.inj (Tryd.func6.symm.trans hfn)).symm
      exact ⟨by kernel_rfl, fun j t ht => by
        rw [Tryd.params6] at ht
        have hm : t ∈ [29, 3, 5] := by simpa using Array.mem_of_getElem? ht
        have hall : ([29, 3, 5].all fun u => !Tryd.prog.wantsStandIn u) = true := by kernel_rfl
        exact (show Tryd.prog.wantsStandIn t = false by simpa using List.all_eq_true.1 hall t hm)⟩)
    (by kernel_rfl)
#print axioms turns_card
end Sha
end Go.Proofs.YtdopaiabbcdoiaaDoor
