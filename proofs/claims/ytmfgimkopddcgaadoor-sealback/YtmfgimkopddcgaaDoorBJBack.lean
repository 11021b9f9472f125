/- The law SealBack of layer 9: what is hidden is opened to the same page, and to nothing under another digest. For every input, the tables of packages cipher and sha tied to the program's text. -/
import Derived.Test.YtmfgimkopddcgaaDoorBG
import Derived.Deep.DeepCutAuto
import Derived.Test.YtmfgimkopddcgaaDoorBI
import Derived.Test.YtmfgimkopddcgaaDoorCards
import Derived.Test.YtmfgimkopddcgaaDoorTie
namespace Go.Proofs.YtmfgimkopddcgaaDoor
namespace Sha
open Go.RowKit Mem
theorem bits_and1 (z : Int) (h0 : 0 ≤ z) (h1 : z ≤ 9223372036854775807) : bits BinOp.and IntKind.i64 z 1 = z % 2 := by
  obtain ⟨n, rfl⟩ : ∃ n : Nat, z = (n : Int) := ⟨z.toNat, by omega⟩
  show IntKind.i64.wrap (((BitVec.ofInt 64 (n : Int)) &&& (BitVec.ofInt 64 1)).toNat : Int) = _
  have e2 : (BitVec.ofInt 64 1) = BitVec.ofNat 64 1 := by decide
  rw [BitVec.ofInt_natCast, e2, BitVec.toNat_and, BitVec.toNat_ofNat, BitVec.toNat_ofNat]
  have e3 : n % 2 ^ 64 = n := Nat.mod_eq_of_lt (by omega)
  have e4 : 1 % 2 ^ 64 = 2 ^ 1 - 1 := by decide
  rw [e3, e4, Nat.and_two_pow_sub_one_eq_mod]
  simp [IntKind.wrap, IntKind.bits, IntKind.signed]
  omega
theorem o_and1 {P : Program} (z : Int) (h0 : 0 ≤ z) (h1 : z ≤ 9223372036854775807) (t : TypeId) (x y : Operand) (w : World) : (do eqGuard .and t x y (.int .i64 z) (.int .i64 1); binOp .and t (.int .i64 z) (.int .i64 1) : Sem Value).run P w = .ok (.int .i64 (z % 2)) w := by
  have h := bits_and1 z h0 h1
  go_simp
theorem sl_off {w w' : World} {g : Nat} {v : Value} {l : List (BitVec 8)} {Z : Array Value} {t : TypeId} (h : Sl w v l) (hg : At w g Z t) (hs : Z.size < l.length) (ho : ∀ k, k ≠ g → w'.heap[k]? = w.heap[k]?) (hz : w.heap.size ≤ w'.heap.size) : Sl w' v l := by
  obtain ⟨a, cap, e, hc, hr⟩ := h
  refine ⟨a, cap, e, hc, fun hne => ?_⟩
  obtain ⟨bb, oo, ea, hlt, hcell⟩ := hr hne
  have hb : bb ≠ g := by
    rintro rfl
    have h1 := hcell (l.length - 1) (by omega)
    rw [hg.cell, Array.getElem?_eq_none (by omega)] at h1
    cases h1
  refine ⟨bb, oo, ea, Nat.lt_of_lt_of_le hlt hz, fun i hi => ?_⟩
  rw [World.cell?_of_block (w := w) (w' := w') (a := ⟨bb, oo + i, none⟩) (ho bb hb)]
  exact hcell i hi
theorem dg_other (d : List (BitVec 8)) (i : Nat) (hi : i < d.length) : d.set i (d.getD i 0 ^^^ 1) ≠ d := by
  intro e
  have h := congrArg (fun l : List (BitVec 8) => l.getD i 0) e
  simp only [List.getD_eq_getElem?_getD, List.getElem?_set_self hi, Option.getD_some, List.getElem?_eq_getElem hi] at h
  have k : ∀ x : BitVec 8, x ^^^ 1 ≠ x := by decide
  exact k _ h
set_option maxRecDepth 100000 in
set_option maxHeartbeats 8000000 in
theorem back9_core {T : World → Prop} (C : SealP T) (a : AskV) (ha : a.Wf) (b : List (BitVec 8)) (v : Value) (q : Nat) (hq : q < 65536) (w : World) (hv : Sl w v b) (hn : b.length ≤ 9223372036854775807) (hT : T w) :
    Calls Tryd.prog 6 #[.agg (askC a), v, .int .u16 (q : Int)] w fun e w' => e = .returned (.bool true) ∧ Below w.heap.size w w' := by
  have ALV := Lib.hid (fun wx h => alive9_any C wx h)
  have CC := Lib.hid C
  obtain ⟨a0, c0, rfl⟩ := sl_inv hv
  obtain ⟨n, hnn⟩ : ∃ n, n = b.length := ⟨_, rfl⟩
  rw [← hnn] at hn
  have an := at_new w (askC a) 25
  have bn : Below w.heap.size w (w.alloc (.cells (askC a) 25)) := (Below.refl _ _).alloc (Nat.le_refl _) _
  have k32 := ask32 ha
  have k34 := ask34 ha
  have kk := ask_key ha
  have asz := askC_size ha
  obtain ⟨Z, hZ⟩ : ∃ Z, Z = refC zref := ⟨_, rfl⟩
  have zs : Z.size = 34 := by rw [hZ]; exact refC_size zref_wf
  have al : ∀ w : World, (Instr.alloc 35 true (.tuple #[])).run Tryd.prog w = .ok (.pointer (some ⟨w.heap.size, 0, none⟩)) (w.alloc (.cells Z 35)) := by rw [hZ]; exact fun w => by kernel_rfl
  obtain ⟨bl, hbl⟩ : ∃ bl, bl = a.bl := ⟨_, rfl⟩
  have k34' := k34
  rw [← hbl] at k34
  by_cases gfar : 256 < n ∨ bl < 0
  · have BN := Lib.hid bn; have TT := Lib.hid (C.below hT bn)
    obtain ⟨AA, hA⟩ : ∃ M, M = askC a := ⟨_, rfl⟩
    rw [← hA] at BN TT an k34 ⊢
    have c34 : (w.alloc (.cells AA 25)).cell? ⟨w.heap.size, 34, none⟩ = some (.int .i64 bl) := (an.cell 34).trans k34
    rw [← hnn]
    clear hv hnn hT C an bn k32 k34 k34' kk asz hA zs al hZ hbl
    by_cases g1 : 256 < n
    · have g1' : (256 : Int) < (n : Int) := by omega
      clear gfar
      go_enter Tryd.func6, Tryd.ntmps6
      go_wp2_with fail
      refine (ALV.out _ TT.out).mono ?_
      rintro e w1 ⟨rfl, hb⟩
      have B1 := Lib.hid (BN.out.trans (hb.mono BN.out.size))
      clear hb
      go_wp2_with fail
      go_ret
      exact ⟨rfl, B1.out⟩
    · have g2 : bl < 0 := gfar.resolve_left g1
      have g1' : ¬ (256 : Int) < (n : Int) := by omega
      clear gfar
      go_enter Tryd.func6, Tryd.ntmps6
      go_wp2_with fail
      refine (ALV.out _ TT.out).mono ?_
      rintro e w1 ⟨rfl, hb⟩
      have B1 := Lib.hid (BN.out.trans (hb.mono BN.out.size))
      clear hb
      go_wp2_with fail
      go_ret
      exact ⟨rfl, B1.out⟩
  · have g1 : ¬ 256 < n := fun h => gfar (.inl h)
    have g2 : ¬ bl < 0 := fun h => gfar (.inr h)
    have g1' : ¬ (256 : Int) < (n : Int) := by omega
    have pg := fun wx (h : Sl wx (.slice a0 b.length c0) b) => page_any b _ wx h
    obtain ⟨P, hP⟩ : ∃ P, P = pageL b := ⟨_, rfl⟩
    have pll : P.length = 256 := by rw [hP]; exact pageL_length b
    rw [← hP] at pg
    obtain ⟨pb, hpb⟩ : ∃ pb, pb = bl % 2 := ⟨_, rfl⟩
    have hb1 := ha.b1
    have hband := fun (t : TypeId) (x y : Operand) (wx : World) => o_and1 (P := Tryd.prog) bl (by omega) (by omega) t x y wx
    rw [← hpb] at hband
    obtain ⟨L, hL⟩ : ∃ L, L = sealL a.key a.ep bl P := ⟨_, rfl⟩
    have ll : L.length = 256 := by rw [hL, sealL_length, pll]
    have lb : sealL a.key a.ep bl L = P := by rw [hL, sealL_back]
    obtain ⟨D, hD, hDl⟩ : ∃ D, D = digestOf L ∧ D.length = 32 := ⟨_, rfl, digestOf_length L⟩
    have hrw : RefV.Wf ⟨pb, a.ep, D⟩ := ⟨by show _ ≤ pb; omega, by show pb ≤ _; omega, hDl⟩
    have eh : hideR a.key a.ep pb bl P = (L, ⟨pb, a.ep, D⟩, 0) := by rw [hideR_good a.key a.ep pb bl P pll (by omega) (by omega) (by omega), ← hL, ← hD]
    have eo : openR a.key ⟨pb, a.ep, D⟩ bl L = (P, 0) := by rw [openR_good a.key ⟨pb, a.ep, D⟩ bl L ll (by omega) hD.symm, lb]
    obtain ⟨i, hi⟩ : ∃ i, i = q % 32 := ⟨_, rfl⟩
    have hi32 : i < 32 := by omega
    obtain ⟨y, hy⟩ : ∃ y, y = D.getD i 0 := ⟨_, rfl⟩
    have hrw2 : RefV.Wf ⟨pb, a.ep, D.set i (y ^^^ 1)⟩ := ⟨by show _ ≤ pb; omega, by show pb ≤ _; omega, by show (D.set i (y ^^^ 1)).length = 32; rw [List.length_set, hDl]⟩
    have ec : openR a.key ⟨pb, a.ep, D.set i (y ^^^ 1)⟩ bl L = ([], 9) := openR_corrupt a.key _ bl L ll (by omega) (fun e => by
      have k := dg_other D i (by omega)
      rw [← hy] at k
      rw [← hD] at e
      exact k e.symm)
    have hide : ∀ (v : Value) (wx : World), Sl wx v P → T wx → Calls Tryd.prog 13 #[.pointer none, .agg (u8s a.key).toArray, .int .u32 (V a.ep), .int .i64 pb, .int .i64 bl, v] wx fun e w' => ∃ v', e = .returned (.tuple #[v', .agg (refC ⟨pb, a.ep, D⟩), .int .i64 0]) ∧ Sl w' v' L ∧ Below wx.heap.size wx w' := fun v wx h1 h2 => by
      have k := C.hideN a.key a.ep pb bl P v wx ha.key (by omega) (by omega) (by omega) (by omega) h1 (by rw [pll]; decide) h2
      rw [eh] at k
      exact k
    have op : ∀ (v : Value) (wx : World), Sl wx v L → T wx → Calls Tryd.prog 17 #[.pointer none, .agg (u8s a.key).toArray, .agg (refC ⟨pb, a.ep, D⟩), .int .i64 bl, v] wx (SealEnd wx P 0) := fun v wx h1 h2 => by
      have k := C.openN a.key ⟨pb, a.ep, D⟩ bl L v wx ha.key hrw (by omega) (by omega) h1 (by rw [ll]; decide) h2
      rw [eo] at k
      exact k
    have op2 : ∀ (v : Value) (wx : World), Sl wx v L → T wx → Calls Tryd.prog 17 #[.pointer none, .agg (u8s a.key).toArray, .agg (refC ⟨pb, a.ep, D.set i (y ^^^ 1)⟩), .int .i64 bl, v] wx (SealEnd wx [] 9) := fun v wx h1 h2 => by
      have k := C.openN a.key ⟨pb, a.ep, D.set i (y ^^^ 1)⟩ bl L v wx ha.key hrw2 (by omega) (by omega) h1 (by rw [ll]; decide) h2
      rw [ec] at k
      exact k
    have hset := ref_setDg ⟨pb, a.ep, D⟩ i (y ^^^ 1) (by show i < D.length; omega)
    have hdc := ref_dg hrw i hi32
    have hdc : (refC ⟨pb, a.ep, D⟩)[2 + i]? = some (.int .u8 (y.toNat : Int)) := by rw [hy]; exact hdc
    have xs := refC_size hrw
    have xo := refC_one ⟨pb, a.ep, D⟩
    have x2s := refC_size hrw2
    obtain ⟨X, hX⟩ : ∃ X, X = refC ⟨pb, a.ep, D⟩ := ⟨_, rfl⟩
    obtain ⟨X2, hX2⟩ : ∃ X2, X2 = refC ⟨pb, a.ep, D.set i (y ^^^ 1)⟩ := ⟨_, rfl⟩
    have hset : X.setIfInBounds (2 + i) (.int .u8 ((y ^^^ 1).toNat : Int)) = X2 := by rw [hX, hX2]; exact hset
    rw [← hX] at hide op hdc xs xo
    rw [← hX2] at op2 x2s
    obtain ⟨AA, hA⟩ : ∃ M, M = askC a := ⟨_, rfl⟩
    rw [← hA] at an bn k32 k34 kk asz ⊢
    obtain ⟨K, hK⟩ : ∃ K, K = (u8s a.key).toArray := ⟨_, rfl⟩
    rw [← hK] at kk hide op op2
    obtain ⟨ep, hep⟩ : ∃ ep, ep = a.ep := ⟨_, rfl⟩
    rw [← hep] at k32 hide
    rw [← hnn] at hv pg ⊢
    have c34 : (w.alloc (.cells AA 25)).cell? ⟨w.heap.size, 34, none⟩ = some (.int .i64 bl) := (an.cell 34).trans k34
    have S0 := Lib.hid (hv.below bn); have T0 := Lib.hid (C.below hT bn); have AX0 := Lib.hid an; have BX0 := Lib.hid bn; have PG := Lib.hid pg; have K32 := Lib.hid k32; have K34 := Lib.hid k34; have KK := Lib.hid kk; have MS := Lib.hid asz; have ZS := Lib.hid zs; have PLL := Lib.hid pll; have LL := Lib.hid ll; have HI := Lib.hid hide; have OP := Lib.hid op; have OP2 := Lib.hid op2; have SET := Lib.hid hset; have DC := Lib.hid hdc; have XS := Lib.hid xs; have XO := Lib.hid xo; have X2S := Lib.hid x2s; have AL := Lib.hid al; have AND := Lib.hid hband; have QI := Lib.hid hi
    clear hv hT C an bn k32 k34 k34' kk asz zs pg hA hK hep hZ hP pll hpb hb1 hband hL ll lb hD hDl hrw eh eo hy hrw2 ec hide op op2 hset hdc xs xo x2s hX hX2 al hbl gfar ha hnn hi
    go_enter Tryd.func6, Tryd.ntmps6
    go_upto_region 1 with fail
    obtain ⟨bx, hbx⟩ : ∃ bx, bx = w.heap.size := ⟨_, rfl⟩
    rw [← hbx] at AX0 c34 ⊢
    clear hbx
    generalize w.alloc (.cells AA 25) = w1 at *
    go_upto_region 3 with fail
    clear c34
    go_cut [7, 8, 9] (fun s t u wx => ∃ g v', .pointer (some ⟨g, 0, none⟩) = t ∧ v' = s ∧ u = .int .i64 0 ∧ w1.heap.size ≤ g ∧ At wx g X 35 ∧ Sl wx v' L ∧ Below w1.heap.size w1 wx)
    case first =>
      have D0 : Hid (Below w1.heap.size w1 w1.drew) := Lib.hid (Below.refl _ _).drew
      refine wp_region_plan_in (fun x' => Below w1.heap.size w1 x') (.take 0 (.take 1 (.take 2 (.take 3 (.take 4 (.take 5 (.take 6 (.take 7 (.take 8 (.take 9 (.two 10 16 (.two 11 16 (.take 12 (.take 13 (.take 14 (.take 15 (.sole 16 (.take 17 (.sole 18 (.take 19 .done)))))))) (.sole 11 (.take 12 (.take 13 (.take 14 (.take 15 (.take 17 (.sole 18 (.take 19 .done))))))))) (.sole 10 (.sole 11 (.take 12 (.take 13 (.take 14 (.take 15 (.take 17 (.sole 18 (.take 19 .done)))))))))))))))))))) (by kernel_rfl) (by kernel_rfl) (by kernel_rfl) D0.out ?_
      refine plan_field 25 _ 0 bx 0 ⟨bx, 0, none⟩ (by rfl) (by rfl) (by rfl) (by first | (with_reducible exact Mem.ev_const _ _) | (with_reducible exact Mem.ev_zero _ _ _) | (with_reducible (apply Eq.trans (Mem.ev_tmp _ _ _)); simp only [List.getD_cons_succ, List.getD_cons_zero] <;> rfl)) (fun wx => by go_simp) ?_
      (simp only [Act.put, List.setIfInBounds_toArray, List.set_cons_zero, List.set_cons_succ])
      refine plan_row_at 22 _ bx 0 32 _ AA K 25 (by rfl) (by rfl) (by rfl) (by first | (with_reducible exact Mem.ev_const _ _) | (with_reducible exact Mem.ev_zero _ _ _) | (with_reducible (apply Eq.trans (Mem.ev_tmp _ _ _)); simp only [List.getD_cons_succ, List.getD_cons_zero] <;> rfl)) (fun w' hw' => AX0.out.below hw' AX0.out.lt) Tryd.underlying22 (by rfl) infoDg (by rw [MS.out]; decide) KK.out ?_
      (simp only [Act.put, List.setIfInBounds_toArray, List.set_cons_zero, List.set_cons_succ])
      refine plan_field 25 _ 1 bx 0 ⟨bx, 32, none⟩ (by rfl) (by rfl) (by rfl) (by first | (with_reducible exact Mem.ev_const _ _) | (with_reducible exact Mem.ev_zero _ _ _) | (with_reducible (apply Eq.trans (Mem.ev_tmp _ _ _)); simp only [List.getD_cons_succ, List.getD_cons_zero] <;> rfl)) (fun wx => by go_simp) ?_
      (simp only [Act.put, List.setIfInBounds_toArray, List.set_cons_zero, List.set_cons_succ])
      refine plan_cell 23 _ _ (.int .u32 (V ep)) _ (by rfl) (by rfl) (by rfl) (by first | (with_reducible exact Mem.ev_const _ _) | (with_reducible exact Mem.ev_zero _ _ _) | (with_reducible (apply Eq.trans (Mem.ev_tmp _ _ _)); simp only [List.getD_cons_succ, List.getD_cons_zero] <;> rfl)) (fun w' hw' => by rw [(AX0.out.below hw' AX0.out.lt).cell]; exact K32.out) Tryd.underlying23 (by rfl) ?_
      (simp only [Act.put, List.setIfInBounds_toArray, List.set_cons_zero, List.set_cons_succ])
      refine plan_field 25 _ 3 bx 0 ⟨bx, 34, none⟩ (by rfl) (by rfl) (by rfl) (by first | (with_reducible exact Mem.ev_const _ _) | (with_reducible exact Mem.ev_zero _ _ _) | (with_reducible (apply Eq.trans (Mem.ev_tmp _ _ _)); simp only [List.getD_cons_succ, List.getD_cons_zero] <;> rfl)) (fun wx => by go_simp) ?_
      (simp only [Act.put, List.setIfInBounds_toArray, List.set_cons_zero, List.set_cons_succ])
      refine plan_cell 3 _ _ (.int .i64 bl) _ (by rfl) (by rfl) (by rfl) (by first | (with_reducible exact Mem.ev_const _ _) | (with_reducible exact Mem.ev_zero _ _ _) | (with_reducible (apply Eq.trans (Mem.ev_tmp _ _ _)); simp only [List.getD_cons_succ, List.getD_cons_zero] <;> rfl)) (fun w' hw' => by rw [(AX0.out.below hw' AX0.out.lt).cell]; exact K34.out) Tryd.underlying3 (by rfl) ?_
      (simp only [Act.put, List.setIfInBounds_toArray, List.set_cons_zero, List.set_cons_succ])
      refine plan_bin _ _ _ _ _ _ _ (.int .i64 pb) (by rfl) (by rfl) (by rfl) (by first | (with_reducible exact Mem.ev_const _ _) | (with_reducible exact Mem.ev_zero _ _ _) | (with_reducible (apply Eq.trans (Mem.ev_tmp _ _ _)); simp only [List.getD_cons_succ, List.getD_cons_zero] <;> rfl)) (by rfl) (fun wx => AND.out _ _ _ wx) ?_
      (simp only [Act.put, List.setIfInBounds_toArray, List.set_cons_zero, List.set_cons_succ])
      refine plan_field 25 _ 3 bx 0 ⟨bx, 34, none⟩ (by rfl) (by rfl) (by rfl) (by first | (with_reducible exact Mem.ev_const _ _) | (with_reducible exact Mem.ev_zero _ _ _) | (with_reducible (apply Eq.trans (Mem.ev_tmp _ _ _)); simp only [List.getD_cons_succ, List.getD_cons_zero] <;> rfl)) (fun wx => by go_simp) ?_
      (simp only [Act.put, List.setIfInBounds_toArray, List.set_cons_zero, List.set_cons_succ])
      refine plan_cell 3 _ _ (.int .i64 bl) _ (by rfl) (by rfl) (by rfl) (by first | (with_reducible exact Mem.ev_const _ _) | (with_reducible exact Mem.ev_zero _ _ _) | (with_reducible (apply Eq.trans (Mem.ev_tmp _ _ _)); simp only [List.getD_cons_succ, List.getD_cons_zero] <;> rfl)) (fun w' hw' => by rw [(AX0.out.below hw' AX0.out.lt).cell]; exact K34.out) Tryd.underlying3 (by rfl) ?_
      (simp only [Act.put, List.setIfInBounds_toArray, List.set_cons_zero, List.set_cons_succ])
      (first | (refine plan_move _ _ (by rfl) (by rfl) (.inl (by rfl)) (by first | (with_reducible exact Mem.ev_const _ _) | (with_reducible exact Mem.ev_zero _ _ _) | (with_reducible (apply Eq.trans (Mem.ev_tmp _ _ _)); simp only [List.getD_cons_succ, List.getD_cons_zero] <;> rfl)) ?_) | (refine plan_move _ _ (by rfl) (by rfl) (.inr (by rfl)) (by first | (with_reducible exact Mem.ev_const _ _) | (with_reducible exact Mem.ev_zero _ _ _) | (with_reducible (apply Eq.trans (Mem.ev_tmp _ _ _)); simp only [List.getD_cons_succ, List.getD_cons_zero] <;> rfl)) ?_) | (refine plan_pick_t _ _ _ _ (by rfl) (by rfl) (by rfl) (by first | (with_reducible exact Mem.ev_const _ _) | (with_reducible exact Mem.ev_zero _ _ _) | (with_reducible (apply Eq.trans (Mem.ev_tmp _ _ _)); simp only [List.getD_cons_succ, List.getD_cons_zero] <;> rfl)) (by first | (with_reducible exact Mem.ev_const _ _) | (with_reducible exact Mem.ev_zero _ _ _) | (with_reducible (apply Eq.trans (Mem.ev_tmp _ _ _)); simp only [List.getD_cons_succ, List.getD_cons_zero] <;> rfl)) ?_) | (refine plan_pick_f _ _ _ _ (by rfl) (by rfl) (by rfl) (by first | (with_reducible exact Mem.ev_const _ _) | (with_reducible exact Mem.ev_zero _ _ _) | (with_reducible (apply Eq.trans (Mem.ev_tmp _ _ _)); simp only [List.getD_cons_succ, List.getD_cons_zero] <;> rfl)) (by first | (with_reducible exact Mem.ev_const _ _) | (with_reducible exact Mem.ev_zero _ _ _) | (with_reducible (apply Eq.trans (Mem.ev_tmp _ _ _)); simp only [List.getD_cons_succ, List.getD_cons_zero] <;> rfl)) ?_))
      (simp only [Act.put, List.setIfInBounds_toArray, List.set_cons_zero, List.set_cons_succ])
      refine plan_two ?_ ?_
      · refine plan_call 10 _ _ _ (by kernel_rfl) (by rfl) (by rfl) (by rfl) (by first | exact Mem.ev_none _ | (simp only [List.map_toArray, List.map_cons, List.map_nil, Mem.ev_tmp, List.getD_cons_succ, List.getD_cons_zero] <;> rfl)) ?_
        refine (PG.out _ (S0.out.below D0.out)).mono ?_
        rintro o' z1 ⟨gp, rfl, hga, hgl, hb⟩
        have PS1 := Lib.hid (at_sl hga rfl)
        rw [PLL.out] at PS1 ⊢
        have D1 : Hid (Below w1.heap.size w1 z1) := Lib.hid (D0.out.trans (hb.mono D0.out.size))
        clear hga hgl hb
        refine ⟨_, rfl, D1.out, ?_⟩
        (simp only [Act.put, List.setIfInBounds_toArray, List.set_cons_zero, List.set_cons_succ])
        refine plan_two ?_ ?_
        · refine plan_call 13 _ _ _ (by kernel_rfl) (by rfl) (by rfl) (by rfl) (by first | exact Mem.ev_none _ | (simp only [List.map_toArray, List.map_cons, List.map_nil, Mem.ev_tmp, List.getD_cons_succ, List.getD_cons_zero] <;> rfl)) ?_
          refine (HI.out _ _ PS1.out (CC.out.below T0.out D1.out)).mono ?_
          rintro o' z2 ⟨v7, rfl, hs, hb⟩
          have HS2 := Lib.hid hs
          have D2 : Hid (Below w1.heap.size w1 z2) := Lib.hid (D1.out.trans (hb.mono D1.out.size))
          have PS2 := Lib.hid (PS1.out.below hb)
          clear hs hb
          refine ⟨_, rfl, D2.out, ?_⟩
          (simp only [Act.put, List.setIfInBounds_toArray, List.set_cons_zero, List.set_cons_succ])
          (first | (refine plan_move _ _ (by rfl) (by rfl) (.inl (by rfl)) (by first | (with_reducible exact Mem.ev_const _ _) | (with_reducible exact Mem.ev_zero _ _ _) | (with_reducible (apply Eq.trans (Mem.ev_tmp _ _ _)); simp only [List.getD_cons_succ, List.getD_cons_zero] <;> rfl)) ?_) | (refine plan_move _ _ (by rfl) (by rfl) (.inr (by rfl)) (by first | (with_reducible exact Mem.ev_const _ _) | (with_reducible exact Mem.ev_zero _ _ _) | (with_reducible (apply Eq.trans (Mem.ev_tmp _ _ _)); simp only [List.getD_cons_succ, List.getD_cons_zero] <;> rfl)) ?_) | (refine plan_pick_t _ _ _ _ (by rfl) (by rfl) (by rfl) (by first | (with_reducible exact Mem.ev_const _ _) | (with_reducible exact Mem.ev_zero _ _ _) | (with_reducible (apply Eq.trans (Mem.ev_tmp _ _ _)); simp only [List.getD_cons_succ, List.getD_cons_zero] <;> rfl)) (by first | (with_reducible exact Mem.ev_const _ _) | (with_reducible exact Mem.ev_zero _ _ _) | (with_reducible (apply Eq.trans (Mem.ev_tmp _ _ _)); simp only [List.getD_cons_succ, List.getD_cons_zero] <;> rfl)) ?_) | (refine plan_pick_f _ _ _ _ (by rfl) (by rfl) (by rfl) (by first | (with_reducible exact Mem.ev_const _ _) | (with_reducible exact Mem.ev_zero _ _ _) | (with_reducible (apply Eq.trans (Mem.ev_tmp _ _ _)); simp only [List.getD_cons_succ, List.getD_cons_zero] <;> rfl)) (by first | (with_reducible exact Mem.ev_const _ _) | (with_reducible exact Mem.ev_zero _ _ _) | (with_reducible (apply Eq.trans (Mem.ev_tmp _ _ _)); simp only [List.getD_cons_succ, List.getD_cons_zero] <;> rfl)) ?_))
          (simp only [Act.put, List.setIfInBounds_toArray, List.set_cons_zero, List.set_cons_succ])
          refine plan_extract _ _ #[v7, (.agg X), (.int .i64 0)] v7 (by rfl) (by rfl) (by rfl) (by first | (with_reducible exact Mem.ev_const _ _) | (with_reducible exact Mem.ev_zero _ _ _) | (with_reducible (apply Eq.trans (Mem.ev_tmp _ _ _)); simp only [List.getD_cons_succ, List.getD_cons_zero] <;> rfl)) (by rfl) ?_
          (simp only [Act.put, List.setIfInBounds_toArray, List.set_cons_zero, List.set_cons_succ])
          refine plan_extract _ _ #[v7, (.agg X), (.int .i64 0)] (.agg X) (by rfl) (by rfl) (by rfl) (by first | (with_reducible exact Mem.ev_const _ _) | (with_reducible exact Mem.ev_zero _ _ _) | (with_reducible (apply Eq.trans (Mem.ev_tmp _ _ _)); simp only [List.getD_cons_succ, List.getD_cons_zero] <;> rfl)) (by rfl) ?_
          (simp only [Act.put, List.setIfInBounds_toArray, List.set_cons_zero, List.set_cons_succ])
          refine plan_extract _ _ #[v7, (.agg X), (.int .i64 0)] (.int .i64 0) (by rfl) (by rfl) (by rfl) (by first | (with_reducible exact Mem.ev_const _ _) | (with_reducible exact Mem.ev_zero _ _ _) | (with_reducible (apply Eq.trans (Mem.ev_tmp _ _ _)); simp only [List.getD_cons_succ, List.getD_cons_zero] <;> rfl)) (by rfl) ?_
          (simp only [Act.put, List.setIfInBounds_toArray, List.set_cons_zero, List.set_cons_succ])
          refine plan_alloc _ Z (by rfl) (by rfl) (by rfl) AL.out (D2.out.alloc D2.out.size _) ?_
          have D3 : Hid (Below w1.heap.size w1 (z2.alloc (.cells Z 35))) := Lib.hid (D2.out.alloc D2.out.size _)
          have hal : Below z2.heap.size z2 (z2.alloc (.cells Z 35)) := (Below.refl _ _).alloc (Nat.le_refl _) _
          have AG3 := Lib.hid (at_new z2 Z 35)
          have GG3 : Hid (w1.heap.size ≤ z2.heap.size) := Lib.hid D2.out.size
          have PS3 := Lib.hid (PS2.out.below hal)
          have HS3 := Lib.hid (HS2.out.below hal)
          clear hal
          (simp only [Act.put, List.setIfInBounds_toArray, List.set_cons_zero, List.set_cons_succ])
          (first | (refine plan_move _ _ (by rfl) (by rfl) (.inl (by rfl)) (by first | (with_reducible exact Mem.ev_const _ _) | (with_reducible exact Mem.ev_zero _ _ _) | (with_reducible (apply Eq.trans (Mem.ev_tmp _ _ _)); simp only [List.getD_cons_succ, List.getD_cons_zero] <;> rfl)) ?_) | (refine plan_move _ _ (by rfl) (by rfl) (.inr (by rfl)) (by first | (with_reducible exact Mem.ev_const _ _) | (with_reducible exact Mem.ev_zero _ _ _) | (with_reducible (apply Eq.trans (Mem.ev_tmp _ _ _)); simp only [List.getD_cons_succ, List.getD_cons_zero] <;> rfl)) ?_) | (refine plan_pick_t _ _ _ _ (by rfl) (by rfl) (by rfl) (by first | (with_reducible exact Mem.ev_const _ _) | (with_reducible exact Mem.ev_zero _ _ _) | (with_reducible (apply Eq.trans (Mem.ev_tmp _ _ _)); simp only [List.getD_cons_succ, List.getD_cons_zero] <;> rfl)) (by first | (with_reducible exact Mem.ev_const _ _) | (with_reducible exact Mem.ev_zero _ _ _) | (with_reducible (apply Eq.trans (Mem.ev_tmp _ _ _)); simp only [List.getD_cons_succ, List.getD_cons_zero] <;> rfl)) ?_) | (refine plan_pick_f _ _ _ _ (by rfl) (by rfl) (by rfl) (by first | (with_reducible exact Mem.ev_const _ _) | (with_reducible exact Mem.ev_zero _ _ _) | (with_reducible (apply Eq.trans (Mem.ev_tmp _ _ _)); simp only [List.getD_cons_succ, List.getD_cons_zero] <;> rfl)) (by first | (with_reducible exact Mem.ev_const _ _) | (with_reducible exact Mem.ev_zero _ _ _) | (with_reducible (apply Eq.trans (Mem.ev_tmp _ _ _)); simp only [List.getD_cons_succ, List.getD_cons_zero] <;> rfl)) ?_))
          (simp only [Act.put, List.setIfInBounds_toArray, List.set_cons_zero, List.set_cons_succ])
          refine plan_store 35 _ _ (z2.heap.size) X Z 35 (by rfl) (by rfl) (by rfl) (by rfl) (by first | (with_reducible exact Mem.ev_const _ _) | (with_reducible exact Mem.ev_zero _ _ _) | (with_reducible (apply Eq.trans (Mem.ev_tmp _ _ _)); simp only [List.getD_cons_succ, List.getD_cons_zero] <;> rfl)) (by first | (with_reducible exact Mem.ev_const _ _) | (with_reducible exact Mem.ev_zero _ _ _) | (with_reducible (apply Eq.trans (Mem.ev_tmp _ _ _)); simp only [List.getD_cons_succ, List.getD_cons_zero] <;> rfl)) (by rw [XS.out]; exact infoRfP) AG3.out (by rw [XS.out, ZS.out]) XO.out (below_row D3.out GG3.out X) ?_
          (first | (refine plan_move _ _ (by rfl) (by rfl) (.inl (by rfl)) (by first | (with_reducible exact Mem.ev_const _ _) | (with_reducible exact Mem.ev_zero _ _ _) | (with_reducible (apply Eq.trans (Mem.ev_tmp _ _ _)); simp only [List.getD_cons_succ, List.getD_cons_zero] <;> rfl)) ?_) | (refine plan_move _ _ (by rfl) (by rfl) (.inr (by rfl)) (by first | (with_reducible exact Mem.ev_const _ _) | (with_reducible exact Mem.ev_zero _ _ _) | (with_reducible (apply Eq.trans (Mem.ev_tmp _ _ _)); simp only [List.getD_cons_succ, List.getD_cons_zero] <;> rfl)) ?_) | (refine plan_pick_t _ _ _ _ (by rfl) (by rfl) (by rfl) (by first | (with_reducible exact Mem.ev_const _ _) | (with_reducible exact Mem.ev_zero _ _ _) | (with_reducible (apply Eq.trans (Mem.ev_tmp _ _ _)); simp only [List.getD_cons_succ, List.getD_cons_zero] <;> rfl)) (by first | (with_reducible exact Mem.ev_const _ _) | (with_reducible exact Mem.ev_zero _ _ _) | (with_reducible (apply Eq.trans (Mem.ev_tmp _ _ _)); simp only [List.getD_cons_succ, List.getD_cons_zero] <;> rfl)) ?_) | (refine plan_pick_f _ _ _ _ (by rfl) (by rfl) (by rfl) (by first | (with_reducible exact Mem.ev_const _ _) | (with_reducible exact Mem.ev_zero _ _ _) | (with_reducible (apply Eq.trans (Mem.ev_tmp _ _ _)); simp only [List.getD_cons_succ, List.getD_cons_zero] <;> rfl)) (by first | (with_reducible exact Mem.ev_const _ _) | (with_reducible exact Mem.ev_zero _ _ _) | (with_reducible (apply Eq.trans (Mem.ev_tmp _ _ _)); simp only [List.getD_cons_succ, List.getD_cons_zero] <;> rfl)) ?_))
          (simp only [Act.put, List.setIfInBounds_toArray, List.set_cons_zero, List.set_cons_succ])
          refine plan_nil ?_
          go_wp2_with fail
          go_meet
          exact ⟨_, _, rfl, rfl, rfl, GG3.out, At.row (C := Z) AG3.out X, sl_row HS3.out AG3.out (by rw [ZS.out, LL.out]; decide) X, below_row D3.out GG3.out X⟩
        · refine plan_alloc _ Z (by rfl) (by rfl) (by rfl) AL.out (D1.out.alloc D1.out.size _) ?_
          have D2 : Hid (Below w1.heap.size w1 (z1.alloc (.cells Z 35))) := Lib.hid (D1.out.alloc D1.out.size _)
          have hal : Below z1.heap.size z1 (z1.alloc (.cells Z 35)) := (Below.refl _ _).alloc (Nat.le_refl _) _
          have AG2 := Lib.hid (at_new z1 Z 35)
          have GG2 : Hid (w1.heap.size ≤ z1.heap.size) := Lib.hid D1.out.size
          have PS2 := Lib.hid (PS1.out.below hal)
          clear hal
          (simp only [Act.put, List.setIfInBounds_toArray, List.set_cons_zero, List.set_cons_succ])
          refine plan_call 13 _ _ _ (by kernel_rfl) (by rfl) (by rfl) (by rfl) (by first | exact Mem.ev_none _ | (simp only [List.map_toArray, List.map_cons, List.map_nil, Mem.ev_tmp, List.getD_cons_succ, List.getD_cons_zero] <;> rfl)) ?_
          refine (HI.out _ _ PS2.out (CC.out.below T0.out D2.out)).mono ?_
          rintro o' z3 ⟨v7, rfl, hs, hb⟩
          have HS3 := Lib.hid hs
          have D3 : Hid (Below w1.heap.size w1 z3) := Lib.hid (D2.out.trans (hb.mono D2.out.size))
          have AG3 := Lib.hid (AG2.out.below hb AG2.out.lt)
          have PS3 := Lib.hid (PS2.out.below hb)
          clear hs hb
          refine ⟨_, rfl, D3.out, ?_⟩
          (simp only [Act.put, List.setIfInBounds_toArray, List.set_cons_zero, List.set_cons_succ])
          (first | (refine plan_move _ _ (by rfl) (by rfl) (.inl (by rfl)) (by first | (with_reducible exact Mem.ev_const _ _) | (with_reducible exact Mem.ev_zero _ _ _) | (with_reducible (apply Eq.trans (Mem.ev_tmp _ _ _)); simp only [List.getD_cons_succ, List.getD_cons_zero] <;> rfl)) ?_) | (refine plan_move _ _ (by rfl) (by rfl) (.inr (by rfl)) (by first | (with_reducible exact Mem.ev_const _ _) | (with_reducible exact Mem.ev_zero _ _ _) | (with_reducible (apply Eq.trans (Mem.ev_tmp _ _ _)); simp only [List.getD_cons_succ, List.getD_cons_zero] <;> rfl)) ?_) | (refine plan_pick_t _ _ _ _ (by rfl) (by rfl) (by rfl) (by first | (with_reducible exact Mem.ev_const _ _) | (with_reducible exact Mem.ev_zero _ _ _) | (with_reducible (apply Eq.trans (Mem.ev_tmp _ _ _)); simp only [List.getD_cons_succ, List.getD_cons_zero] <;> rfl)) (by first | (with_reducible exact Mem.ev_const _ _) | (with_reducible exact Mem.ev_zero _ _ _) | (with_reducible (apply Eq.trans (Mem.ev_tmp _ _ _)); simp only [List.getD_cons_succ, List.getD_cons_zero] <;> rfl)) ?_) | (refine plan_pick_f _ _ _ _ (by rfl) (by rfl) (by rfl) (by first | (with_reducible exact Mem.ev_const _ _) | (with_reducible exact Mem.ev_zero _ _ _) | (with_reducible (apply Eq.trans (Mem.ev_tmp _ _ _)); simp only [List.getD_cons_succ, List.getD_cons_zero] <;> rfl)) (by first | (with_reducible exact Mem.ev_const _ _) | (with_reducible exact Mem.ev_zero _ _ _) | (with_reducible (apply Eq.trans (Mem.ev_tmp _ _ _)); simp only [List.getD_cons_succ, List.getD_cons_zero] <;> rfl)) ?_))
          (simp only [Act.put, List.setIfInBounds_toArray, List.set_cons_zero, List.set_cons_succ])
          refine plan_extract _ _ #[v7, (.agg X), (.int .i64 0)] v7 (by rfl) (by rfl) (by rfl) (by first | (with_reducible exact Mem.ev_const _ _) | (with_reducible exact Mem.ev_zero _ _ _) | (with_reducible (apply Eq.trans (Mem.ev_tmp _ _ _)); simp only [List.getD_cons_succ, List.getD_cons_zero] <;> rfl)) (by rfl) ?_
          (simp only [Act.put, List.setIfInBounds_toArray, List.set_cons_zero, List.set_cons_succ])
          refine plan_extract _ _ #[v7, (.agg X), (.int .i64 0)] (.agg X) (by rfl) (by rfl) (by rfl) (by first | (with_reducible exact Mem.ev_const _ _) | (with_reducible exact Mem.ev_zero _ _ _) | (with_reducible (apply Eq.trans (Mem.ev_tmp _ _ _)); simp only [List.getD_cons_succ, List.getD_cons_zero] <;> rfl)) (by rfl) ?_
          (simp only [Act.put, List.setIfInBounds_toArray, List.set_cons_zero, List.set_cons_succ])
          refine plan_extract _ _ #[v7, (.agg X), (.int .i64 0)] (.int .i64 0) (by rfl) (by rfl) (by rfl) (by first | (with_reducible exact Mem.ev_const _ _) | (with_reducible exact Mem.ev_zero _ _ _) | (with_reducible (apply Eq.trans (Mem.ev_tmp _ _ _)); simp only [List.getD_cons_succ, List.getD_cons_zero] <;> rfl)) (by rfl) ?_
          (simp only [Act.put, List.setIfInBounds_toArray, List.set_cons_zero, List.set_cons_succ])
          (first | (refine plan_move _ _ (by rfl) (by rfl) (.inl (by rfl)) (by first | (with_reducible exact Mem.ev_const _ _) | (with_reducible exact Mem.ev_zero _ _ _) | (with_reducible (apply Eq.trans (Mem.ev_tmp _ _ _)); simp only [List.getD_cons_succ, List.getD_cons_zero] <;> rfl)) ?_) | (refine plan_move _ _ (by rfl) (by rfl) (.inr (by rfl)) (by first | (with_reducible exact Mem.ev_const _ _) | (with_reducible exact Mem.ev_zero _ _ _) | (with_reducible (apply Eq.trans (Mem.ev_tmp _ _ _)); simp only [List.getD_cons_succ, List.getD_cons_zero] <;> rfl)) ?_) | (refine plan_pick_t _ _ _ _ (by rfl) (by rfl) (by rfl) (by first | (with_reducible exact Mem.ev_const _ _) | (with_reducible exact Mem.ev_zero _ _ _) | (with_reducible (apply Eq.trans (Mem.ev_tmp _ _ _)); simp only [List.getD_cons_succ, List.getD_cons_zero] <;> rfl)) (by first | (with_reducible exact Mem.ev_const _ _) | (with_reducible exact Mem.ev_zero _ _ _) | (with_reducible (apply Eq.trans (Mem.ev_tmp _ _ _)); simp only [List.getD_cons_succ, List.getD_cons_zero] <;> rfl)) ?_) | (refine plan_pick_f _ _ _ _ (by rfl) (by rfl) (by rfl) (by first | (with_reducible exact Mem.ev_const _ _) | (with_reducible exact Mem.ev_zero _ _ _) | (with_reducible (apply Eq.trans (Mem.ev_tmp _ _ _)); simp only [List.getD_cons_succ, List.getD_cons_zero] <;> rfl)) (by first | (with_reducible exact Mem.ev_const _ _) | (with_reducible exact Mem.ev_zero _ _ _) | (with_reducible (apply Eq.trans (Mem.ev_tmp _ _ _)); simp only [List.getD_cons_succ, List.getD_cons_zero] <;> rfl)) ?_))
          (simp only [Act.put, List.setIfInBounds_toArray, List.set_cons_zero, List.set_cons_succ])
          refine plan_store 35 _ _ (z1.heap.size) X Z 35 (by rfl) (by rfl) (by rfl) (by rfl) (by first | (with_reducible exact Mem.ev_const _ _) | (with_reducible exact Mem.ev_zero _ _ _) | (with_reducible (apply Eq.trans (Mem.ev_tmp _ _ _)); simp only [List.getD_cons_succ, List.getD_cons_zero] <;> rfl)) (by first | (with_reducible exact Mem.ev_const _ _) | (with_reducible exact Mem.ev_zero _ _ _) | (with_reducible (apply Eq.trans (Mem.ev_tmp _ _ _)); simp only [List.getD_cons_succ, List.getD_cons_zero] <;> rfl)) (by rw [XS.out]; exact infoRfP) AG3.out (by rw [XS.out, ZS.out]) XO.out (below_row D3.out GG2.out X) ?_
          (first | (refine plan_move _ _ (by rfl) (by rfl) (.inl (by rfl)) (by first | (with_reducible exact Mem.ev_const _ _) | (with_reducible exact Mem.ev_zero _ _ _) | (with_reducible (apply Eq.trans (Mem.ev_tmp _ _ _)); simp only [List.getD_cons_succ, List.getD_cons_zero] <;> rfl)) ?_) | (refine plan_move _ _ (by rfl) (by rfl) (.inr (by rfl)) (by first | (with_reducible exact Mem.ev_const _ _) | (with_reducible exact Mem.ev_zero _ _ _) | (with_reducible (apply Eq.trans (Mem.ev_tmp _ _ _)); simp only [List.getD_cons_succ, List.getD_cons_zero] <;> rfl)) ?_) | (refine plan_pick_t _ _ _ _ (by rfl) (by rfl) (by rfl) (by first | (with_reducible exact Mem.ev_const _ _) | (with_reducible exact Mem.ev_zero _ _ _) | (with_reducible (apply Eq.trans (Mem.ev_tmp _ _ _)); simp only [List.getD_cons_succ, List.getD_cons_zero] <;> rfl)) (by first | (with_reducible exact Mem.ev_const _ _) | (with_reducible exact Mem.ev_zero _ _ _) | (with_reducible (apply Eq.trans (Mem.ev_tmp _ _ _)); simp only [List.getD_cons_succ, List.getD_cons_zero] <;> rfl)) ?_) | (refine plan_pick_f _ _ _ _ (by rfl) (by rfl) (by rfl) (by first | (with_reducible exact Mem.ev_const _ _) | (with_reducible exact Mem.ev_zero _ _ _) | (with_reducible (apply Eq.trans (Mem.ev_tmp _ _ _)); simp only [List.getD_cons_succ, List.getD_cons_zero] <;> rfl)) (by first | (with_reducible exact Mem.ev_const _ _) | (with_reducible exact Mem.ev_zero _ _ _) | (with_reducible (apply Eq.trans (Mem.ev_tmp _ _ _)); simp only [List.getD_cons_succ, List.getD_cons_zero] <;> rfl)) ?_))
          (simp only [Act.put, List.setIfInBounds_toArray, List.set_cons_zero, List.set_cons_succ])
          refine plan_nil ?_
          go_wp2_with fail
          go_meet
          exact ⟨_, _, rfl, rfl, rfl, GG2.out, At.row (C := Z) AG3.out X, sl_row HS3.out AG3.out (by rw [ZS.out, LL.out]; decide) X, below_row D3.out GG2.out X⟩
      · refine plan_alloc _ Z (by rfl) (by rfl) (by rfl) AL.out (D0.out.alloc D0.out.size _) ?_
        have D1 : Hid (Below w1.heap.size w1 (w1.drew.alloc (.cells Z 35))) := Lib.hid (D0.out.alloc D0.out.size _)
        have hal : Below w1.drew.heap.size w1.drew (w1.drew.alloc (.cells Z 35)) := (Below.refl _ _).alloc (Nat.le_refl _) _
        have AG1 := Lib.hid (at_new w1.drew Z 35)
        have GG1 : Hid (w1.heap.size ≤ w1.drew.heap.size) := Lib.hid D0.out.size
        clear hal
        (simp only [Act.put, List.setIfInBounds_toArray, List.set_cons_zero, List.set_cons_succ])
        refine plan_call 10 _ _ _ (by kernel_rfl) (by rfl) (by rfl) (by rfl) (by first | exact Mem.ev_none _ | (simp only [List.map_toArray, List.map_cons, List.map_nil, Mem.ev_tmp, List.getD_cons_succ, List.getD_cons_zero] <;> rfl)) ?_
        refine (PG.out _ (S0.out.below D1.out)).mono ?_
        rintro o' z2 ⟨gp, rfl, hga, hgl, hb⟩
        have PS2 := Lib.hid (at_sl hga rfl)
        rw [PLL.out] at PS2 ⊢
        have D2 : Hid (Below w1.heap.size w1 z2) := Lib.hid (D1.out.trans (hb.mono D1.out.size))
        have AG2 := Lib.hid (AG1.out.below hb AG1.out.lt)
        clear hga hgl hb
        refine ⟨_, rfl, D2.out, ?_⟩
        (simp only [Act.put, List.setIfInBounds_toArray, List.set_cons_zero, List.set_cons_succ])
        refine plan_call 13 _ _ _ (by kernel_rfl) (by rfl) (by rfl) (by rfl) (by first | exact Mem.ev_none _ | (simp only [List.map_toArray, List.map_cons, List.map_nil, Mem.ev_tmp, List.getD_cons_succ, List.getD_cons_zero] <;> rfl)) ?_
        refine (HI.out _ _ PS2.out (CC.out.below T0.out D2.out)).mono ?_
        rintro o' z3 ⟨v7, rfl, hs, hb⟩
        have HS3 := Lib.hid hs
        have D3 : Hid (Below w1.heap.size w1 z3) := Lib.hid (D2.out.trans (hb.mono D2.out.size))
        have AG3 := Lib.hid (AG2.out.below hb AG2.out.lt)
        have PS3 := Lib.hid (PS2.out.below hb)
        clear hs hb
        refine ⟨_, rfl, D3.out, ?_⟩
        (simp only [Act.put, List.setIfInBounds_toArray, List.set_cons_zero, List.set_cons_succ])
        (first | (refine plan_move _ _ (by rfl) (by rfl) (.inl (by rfl)) (by first | (with_reducible exact Mem.ev_const _ _) | (with_reducible exact Mem.ev_zero _ _ _) | (with_reducible (apply Eq.trans (Mem.ev_tmp _ _ _)); simp only [List.getD_cons_succ, List.getD_cons_zero] <;> rfl)) ?_) | (refine plan_move _ _ (by rfl) (by rfl) (.inr (by rfl)) (by first | (with_reducible exact Mem.ev_const _ _) | (with_reducible exact Mem.ev_zero _ _ _) | (with_reducible (apply Eq.trans (Mem.ev_tmp _ _ _)); simp only [List.getD_cons_succ, List.getD_cons_zero] <;> rfl)) ?_) | (refine plan_pick_t _ _ _ _ (by rfl) (by rfl) (by rfl) (by first | (with_reducible exact Mem.ev_const _ _) | (with_reducible exact Mem.ev_zero _ _ _) | (with_reducible (apply Eq.trans (Mem.ev_tmp _ _ _)); simp only [List.getD_cons_succ, List.getD_cons_zero] <;> rfl)) (by first | (with_reducible exact Mem.ev_const _ _) | (with_reducible exact Mem.ev_zero _ _ _) | (with_reducible (apply Eq.trans (Mem.ev_tmp _ _ _)); simp only [List.getD_cons_succ, List.getD_cons_zero] <;> rfl)) ?_) | (refine plan_pick_f _ _ _ _ (by rfl) (by rfl) (by rfl) (by first | (with_reducible exact Mem.ev_const _ _) | (with_reducible exact Mem.ev_zero _ _ _) | (with_reducible (apply Eq.trans (Mem.ev_tmp _ _ _)); simp only [List.getD_cons_succ, List.getD_cons_zero] <;> rfl)) (by first | (with_reducible exact Mem.ev_const _ _) | (with_reducible exact Mem.ev_zero _ _ _) | (with_reducible (apply Eq.trans (Mem.ev_tmp _ _ _)); simp only [List.getD_cons_succ, List.getD_cons_zero] <;> rfl)) ?_))
        (simp only [Act.put, List.setIfInBounds_toArray, List.set_cons_zero, List.set_cons_succ])
        refine plan_extract _ _ #[v7, (.agg X), (.int .i64 0)] v7 (by rfl) (by rfl) (by rfl) (by first | (with_reducible exact Mem.ev_const _ _) | (with_reducible exact Mem.ev_zero _ _ _) | (with_reducible (apply Eq.trans (Mem.ev_tmp _ _ _)); simp only [List.getD_cons_succ, List.getD_cons_zero] <;> rfl)) (by rfl) ?_
        (simp only [Act.put, List.setIfInBounds_toArray, List.set_cons_zero, List.set_cons_succ])
        refine plan_extract _ _ #[v7, (.agg X), (.int .i64 0)] (.agg X) (by rfl) (by rfl) (by rfl) (by first | (with_reducible exact Mem.ev_const _ _) | (with_reducible exact Mem.ev_zero _ _ _) | (with_reducible (apply Eq.trans (Mem.ev_tmp _ _ _)); simp only [List.getD_cons_succ, List.getD_cons_zero] <;> rfl)) (by rfl) ?_
        (simp only [Act.put, List.setIfInBounds_toArray, List.set_cons_zero, List.set_cons_succ])
        refine plan_extract _ _ #[v7, (.agg X), (.int .i64 0)] (.int .i64 0) (by rfl) (by rfl) (by rfl) (by first | (with_reducible exact Mem.ev_const _ _) | (with_reducible exact Mem.ev_zero _ _ _) | (with_reducible (apply Eq.trans (Mem.ev_tmp _ _ _)); simp only [List.getD_cons_succ, List.getD_cons_zero] <;> rfl)) (by rfl) ?_
        (simp only [Act.put, List.setIfInBounds_toArray, List.set_cons_zero, List.set_cons_succ])
        (first | (refine plan_move _ _ (by rfl) (by rfl) (.inl (by rfl)) (by first | (with_reducible exact Mem.ev_const _ _) | (with_reducible exact Mem.ev_zero _ _ _) | (with_reducible (apply Eq.trans (Mem.ev_tmp _ _ _)); simp only [List.getD_cons_succ, List.getD_cons_zero] <;> rfl)) ?_) | (refine plan_move _ _ (by rfl) (by rfl) (.inr (by rfl)) (by first | (with_reducible exact Mem.ev_const _ _) | (with_reducible exact Mem.ev_zero _ _ _) | (with_reducible (apply Eq.trans (Mem.ev_tmp _ _ _)); simp only [List.getD_cons_succ, List.getD_cons_zero] <;> rfl)) ?_) | (refine plan_pick_t _ _ _ _ (by rfl) (by rfl) (by rfl) (by first | (with_reducible exact Mem.ev_const _ _) | (with_reducible exact Mem.ev_zero _ _ _) | (with_reducible (apply Eq.trans (Mem.ev_tmp _ _ _)); simp only [List.getD_cons_succ, List.getD_cons_zero] <;> rfl)) (by first | (with_reducible exact Mem.ev_const _ _) | (with_reducible exact Mem.ev_zero _ _ _) | (with_reducible (apply Eq.trans (Mem.ev_tmp _ _ _)); simp only [List.getD_cons_succ, List.getD_cons_zero] <;> rfl)) ?_) | (refine plan_pick_f _ _ _ _ (by rfl) (by rfl) (by rfl) (by first | (with_reducible exact Mem.ev_const _ _) | (with_reducible exact Mem.ev_zero _ _ _) | (with_reducible (apply Eq.trans (Mem.ev_tmp _ _ _)); simp only [List.getD_cons_succ, List.getD_cons_zero] <;> rfl)) (by first | (with_reducible exact Mem.ev_const _ _) | (with_reducible exact Mem.ev_zero _ _ _) | (with_reducible (apply Eq.trans (Mem.ev_tmp _ _ _)); simp only [List.getD_cons_succ, List.getD_cons_zero] <;> rfl)) ?_))
        (simp only [Act.put, List.setIfInBounds_toArray, List.set_cons_zero, List.set_cons_succ])
        refine plan_store 35 _ _ (w1.drew.heap.size) X Z 35 (by rfl) (by rfl) (by rfl) (by rfl) (by first | (with_reducible exact Mem.ev_const _ _) | (with_reducible exact Mem.ev_zero _ _ _) | (with_reducible (apply Eq.trans (Mem.ev_tmp _ _ _)); simp only [List.getD_cons_succ, List.getD_cons_zero] <;> rfl)) (by first | (with_reducible exact Mem.ev_const _ _) | (with_reducible exact Mem.ev_zero _ _ _) | (with_reducible (apply Eq.trans (Mem.ev_tmp _ _ _)); simp only [List.getD_cons_succ, List.getD_cons_zero] <;> rfl)) (by rw [XS.out]; exact infoRfP) AG3.out (by rw [XS.out, ZS.out]) XO.out (below_row D3.out GG1.out X) ?_
        (first | (refine plan_move _ _ (by rfl) (by rfl) (.inl (by rfl)) (by first | (with_reducible exact Mem.ev_const _ _) | (with_reducible exact Mem.ev_zero _ _ _) | (with_reducible (apply Eq.trans (Mem.ev_tmp _ _ _)); simp only [List.getD_cons_succ, List.getD_cons_zero] <;> rfl)) ?_) | (refine plan_move _ _ (by rfl) (by rfl) (.inr (by rfl)) (by first | (with_reducible exact Mem.ev_const _ _) | (with_reducible exact Mem.ev_zero _ _ _) | (with_reducible (apply Eq.trans (Mem.ev_tmp _ _ _)); simp only [List.getD_cons_succ, List.getD_cons_zero] <;> rfl)) ?_) | (refine plan_pick_t _ _ _ _ (by rfl) (by rfl) (by rfl) (by first | (with_reducible exact Mem.ev_const _ _) | (with_reducible exact Mem.ev_zero _ _ _) | (with_reducible (apply Eq.trans (Mem.ev_tmp _ _ _)); simp only [List.getD_cons_succ, List.getD_cons_zero] <;> rfl)) (by first | (with_reducible exact Mem.ev_const _ _) | (with_reducible exact Mem.ev_zero _ _ _) | (with_reducible (apply Eq.trans (Mem.ev_tmp _ _ _)); simp only [List.getD_cons_succ, List.getD_cons_zero] <;> rfl)) ?_) | (refine plan_pick_f _ _ _ _ (by rfl) (by rfl) (by rfl) (by first | (with_reducible exact Mem.ev_const _ _) | (with_reducible exact Mem.ev_zero _ _ _) | (with_reducible (apply Eq.trans (Mem.ev_tmp _ _ _)); simp only [List.getD_cons_succ, List.getD_cons_zero] <;> rfl)) (by first | (with_reducible exact Mem.ev_const _ _) | (with_reducible exact Mem.ev_zero _ _ _) | (with_reducible (apply Eq.trans (Mem.ev_tmp _ _ _)); simp only [List.getD_cons_succ, List.getD_cons_zero] <;> rfl)) ?_))
        (simp only [Act.put, List.setIfInBounds_toArray, List.set_cons_zero, List.set_cons_succ])
        refine plan_nil ?_
        go_wp2_with fail
        go_meet
        exact ⟨_, _, rfl, rfl, rfl, GG1.out, At.row (C := Z) AG3.out X, sl_row HS3.out AG3.out (by rw [ZS.out, LL.out]; decide) X, below_row D3.out GG1.out X⟩
    case rest =>
      obtain ⟨g, v', rfl, rfl, rfl, hgl, hga, hgs, hgb⟩ := hcut
      obtain ⟨a7, c7, rfl⟩ := sl_inv hgs
      rw [LL.out] at hgs ⊢
      have GL := Lib.hid hgl; have GA := Lib.hid hga; have GS := Lib.hid hgs; have S2 := Lib.hid (S0.out.below hgb); have T2 := Lib.hid (CC.out.below T0.out hgb); have AX2 := Lib.hid (AX0.out.below hgb AX0.out.lt); have BX2 := Lib.hid (BX0.out.trans (hgb.mono BX0.out.size)); have BXL : Hid (bx < w1.heap.size) := Lib.hid AX0.out.lt; have BW2 := Lib.hid hgb; have BXX := Lib.hid BX0.out
      have j34 : wc.cell? ⟨bx, 34, none⟩ = some (.int .i64 bl) := ((AX0.out.below hgb AX0.out.lt).cell 34).trans K34.out
      clear hgl hga hgs hgb S0 AX0 BX0
      go_wp2_with (first
        | (refine wpList_load_is (by rfl) 22 _ (by rfl) bx 0 32 (by rfl) _ Tryd.underlying22 (by rfl) (by kernel_rfl) AA _ AX2.out (by rw [MS.out]; decide) K KK.out ?_)
        | (refine wpList_load_all (by rfl) 35 _ (by rfl) g (by rfl) _ Tryd.underlying35 (by rfl) X _ GA.out (by rw [XS.out]; exact infoRfP) ?_))
      refine (OP.out _ wc GS.out T2.out).mono ?_
      rintro e w3 ⟨v3, rfl, hs, hb⟩
      have V3 := Lib.hid hs; have GA3 := Lib.hid (GA.out.below hb GA.out.lt); have GS3 := Lib.hid (GS.out.below hb); have S3 := Lib.hid (S2.out.below hb); have T3 := Lib.hid (CC.out.below T2.out hb); have AX3 := Lib.hid (AX2.out.below hb AX2.out.lt); have BX3 := Lib.hid (BX2.out.trans (hb.mono BX2.out.size)); have BW3 := Lib.hid (BW2.out.trans (hb.mono BW2.out.size))
      clear hs hb GA GS S2 T2 AX2 BX2 j34
      go_wp2_with fail
      refine (PG.out w3 S3.out).mono ?_
      rintro e w4 ⟨gp, rfl, hga, hgl, hb⟩
      have P4 := Lib.hid (at_sl hga rfl)
      rw [PLL.out] at P4 ⊢
      have V4 := Lib.hid (V3.out.below hb); have GA4 := Lib.hid (GA3.out.below hb GA3.out.lt); have GS4 := Lib.hid (GS3.out.below hb); have T4 := Lib.hid (CC.out.below T3.out hb); have AX4 := Lib.hid (AX3.out.below hb AX3.out.lt); have BX4 := Lib.hid (BX3.out.trans (hb.mono BX3.out.size)); have BW4 := Lib.hid (BW3.out.trans (hb.mono BW3.out.size))
      clear hga hgl hb V3 GA3 GS3 S3 T3 AX3 BX3
      go_wp2_with fail
      refine (same_any P P _ _ w4 V4.out P4.out (by rw [PLL.out]; decide) (by rw [PLL.out]; decide)).mono ?_
      rw [sameB_self]
      rintro e w5 ⟨rfl, hb⟩
      have GA5 := Lib.hid (GA4.out.below hb GA4.out.lt); have GS5 := Lib.hid (GS4.out.below hb); have T5 := Lib.hid (CC.out.below T4.out hb); have AX5 := Lib.hid (AX4.out.below hb AX4.out.lt); have BX5 := Lib.hid (BX4.out.trans (hb.mono BX4.out.size)); have BW5 := Lib.hid (BW4.out.trans (hb.mono BW4.out.size))
      have dc : w5.cell? ⟨g, 2 + i, none⟩ = some (.int .u8 (y.toNat : Int)) := (GA5.out.cell _).trans DC.out
      clear hb V4 P4 GA4 GS4 T4 AX4 BX4
      have hqi : (q : Int) % 32 = (i : Int) := by have := QI.out; omega
      have hx1 : bits .xor .u8 (y.toNat : Int) 1 = ((y ^^^ 1).toNat : Int) := B8_xor y 1
      have HX1 := Lib.hid hx1
      clear hx1
      go_wp2_with (first
        | (refine Mem.wpList_store_one (by rfl) 5 _ _ (by rfl) (by rfl) g (2 + i) (.int .u8 ((y ^^^ 1).toNat : Int)) (by rfl) (by exact congrArg (Value.int .u8) HX1.out) (by rfl) infoB _ 35 GA5.out (by rw [XS.out]; omega) ?_; intro w6 hat ho hbb; have GA6 : Hid (At w6 g X2 35) := Lib.hid (by rw [← SET.out]; exact hat); have BW6 := Lib.hid (hbb _ _ BW5.out GL.out); have GS6 := Lib.hid (sl_off GS5.out GA5.out (by rw [XS.out, LL.out]; decide) ho (hbb _ _ (Below.refl 0 w5) (Nat.zero_le _)).size); have AX6 := Lib.hid (at_keep AX5.out ho (by have := BXL.out; have := GL.out; omega)); have j34 : w6.cell? ⟨bx, 34, none⟩ = some (.int .i64 bl) := (AX6.out.cell 34).trans K34.out; clear hat ho hbb dc)
        | (refine wpList_load_is (by rfl) 22 _ (by rfl) bx 0 32 (by rfl) _ Tryd.underlying22 (by rfl) (by kernel_rfl) AA _ AX6.out (by rw [MS.out]; decide) K KK.out ?_)
        | (refine wpList_load_all (by rfl) 35 _ (by rfl) g (by rfl) _ Tryd.underlying35 (by rfl) X2 _ GA6.out (by rw [X2S.out]; exact infoRfP) ?_))
      refine (OP2.out _ w6 GS6.out (CC.out.below T0.out BW6.out)).mono ?_
      rintro e w7 ⟨v7, rfl, _, hb⟩
      have BW7 := Lib.hid (BW6.out.trans (hb.mono BW6.out.size))
      clear hb BW6 GA6 GS6 AX6 j34
      go_wp2_with fail
      refine (ALV.out w7 (CC.out.below T0.out BW7.out)).mono ?_
      rintro e w8 ⟨rfl, hb⟩
      have BW8 := Lib.hid (BW7.out.trans (hb.mono BW7.out.size))
      clear hb
      go_wp2_with fail
      go_ret
      exact ⟨rfl, BXX.out.trans (BW8.out.mono BXX.out.size)⟩
end Sha
end Go.Proofs.YtmfgimkopddcgaaDoor
namespace Go.Proofs.YtmfgimkopddcgaaDoor
namespace Sha
open Go.ChangeShapes Go.WideShapes Go.ChangeAt Go.WideMaps Go.WideElems Go.RowKit Mem
set_option maxRecDepth 100000

set_option maxRecDepth 100000 in
theorem sealBack_lifted (os : Os) (started : os.Started) (H : Type) (enc : TypeId × Value → H) :
    ReturnsInHanded {} Tryd.checked os 6 .any (fun w args => (Rows.sealBackSpec.pre enc Tryd.prog Tryd.f6 [] false w args ∧ laidMetH Tryd.prog laidL w) ∧ sizedMet enc Tryd.prog Tryd.f6 (OpenSpec.ofChange Rows.sealBackSpec) false w args)
      (Rows.sealBackSpec.post enc Tryd.prog Tryd.f6 false true false false) := by
  refine law_lift rfl rfl (by kernel_rfl) (fun H ds hl => ?_) (by kernel_rfl) Tryd.func6 os started H enc #[.agg (askC ⟨List.replicate 32 0, 0, 0, 0⟩), .slice none 0 0, .int .u16 0] 8 (by kernel_rfl) (by kernel_rfl) (by kernel_rfl) (World.shaped_of_RefB (by kernel_rfl) (by kernel_rfl)) (door_met os _) rfl ?_
  · have hl' : ds.length = 3 := hl
    match ds, hl' with
    | [_, _, _], _ => rfl
  · intro W base args ds p hval hA hT
    rw [Tryd.params6] at hA hval
    obtain ⟨v0, vs0, d0, ds0, p0, q0, hargs, rfl, rfl, h0, r0⟩ := trodAll_cons hA
    obtain ⟨v1, vs1, d1, ds1, p1, q1, rfl, rfl, rfl, h1, r1⟩ := trodAll_cons r0
    obtain ⟨v2, vs2, d2, ds2, p2, q2, rfl, rfl, rfl, h2, r2⟩ := trodAll_cons r1
    obtain ⟨rfl, rfl, rfl⟩ := trodAll_nil r2
    obtain rfl : args = #[v0, v1, v2] := by cases args; simp_all
    have k0 := hval 0 25 v0 rfl rfl
    have k1 := hval 1 26 v1 rfl rfl
    have k2 := hval 2 56 v2 rfl rfl
    clear hval
    obtain ⟨a, rfl, ha⟩ := open_ask9 k0 h0
    obtain ⟨b, sb, lb⟩ := open_sl k1 h1
    obtain ⟨q, rfl, hq⟩ := open_u16 k2 h2
    exact back9_core sealP9 a ha b v1 q hq W sb lb hT
theorem sealBack_holds : Rows.SealBackSaid :=
  OpenClaim.holds_of_wide 6 Tryd.f6 rfl rfl rfl rfl rfl rfl rfl ⟨rfl, rfl, rfl, rfl, rfl⟩ rfl rfl rfl rfl rfl (by kernel_rfl) Tryd.func6 (by kernel_rfl)
    (of_decide_eq_true (by kernel_rfl)) (by unfold Func.isWrapper; first | (rw [if_pos (by decide +kernel)]; kernel_rfl) | (rw [if_neg (by decide +kernel)]; exact ⟨rfl, rfl⟩))
    (fun os started H enc _ => sealBack_lifted os started H enc)
theorem sealBack_card : Rows.SealBackCardSaid :=
  Claim7.holds_tied_plain_at .later [] [.data, .data, .data, .data] true (true, "7c2a96d1b893a63d5f7b31ce1bc3e010c6a1c609f653f8130d4722b647222005") false
    sealBack_holds (fun _ h => by cases h) (by kernel_rfl) (fun _ h => by cases h) sealBack_row_tie rfl ⟨rfl, rfl⟩ (by kernel_rfl) rfl
    (fun f fn hf hfn => by
      obtain rfl : f = 6 := Option.some.inj ((show Tryd.prog.funcNamed "carling/carlinglaw09.SealBack" = some 6 by kernel_rfl).symm.trans hf) |>.symm
      obtain rfl : fn = Tryd.f6 := (Option.some.inj (Tryd.func6.symm.trans hfn)).symm
      exact ⟨by kernel_rfl, fun j t ht => by
        rw [Tryd.params6] at ht
        have hm : t ∈ [25, 26, 56] := by simpa using Array.mem_of_getElem? ht
        have hall : ([25, 26, 56].all fun u => !Tryd.prog.wantsStandIn u) = true := by kernel_rfl
        exact (show Tryd.prog.wantsStandIn t = false by simpa using List.all_eq_true.1 hall t hm)⟩)
    (by kernel_rfl)
#print axioms sealBack_card
end Sha
end Go.Proofs.YtmfgimkopddcgaaDoor
