/- The law SealKept of layer 9: what is opened under a reference is what was hidden under it, whatever block is laid before it, or two unlike texts of those that were noted have one digest. For every input, the tables of packages cipher and sha tied to the program's text. -/
import Derived.Test.YtmfgimkopddcgaaDoorBI
import Derived.Test.YtmfgimkopddcgaaDoorBH
import Derived.Test.YtmfgimkopddcgaaDoorBG
import Derived.Deep.DeepCutAuto
import Derived.Test.YtmfgimkopddcgaaDoorCards
import Derived.Test.YtmfgimkopddcgaaDoorTie
namespace Go.Proofs.YtmfgimkopddcgaaDoor
namespace Sha
open Go.RowKit Mem
theorem k_neqI {P : Program} (k : IntKind) (q : Int) (t : TypeId) (x y : Operand) (w : World) : (do eqGuard .neq t x y (.int k q) (.int k q); binOp .neq t (.int k q) (.int k q) : Sem Value).run P w = .ok (.bool false) w := by go_simp
theorem BkO.bk {F : Foot} {b : Nat} {w : World} {ts : List (List (BitVec 8))} (h : BkO F (bkp b) w ts) : Bk F b w ts := by
  rcases h with ⟨e, _⟩ | ⟨bk, e, h⟩
  · cases e
  · have : b = bk := by simpa [bkp] using e
    subst this
    exact h
/-- Behind the store of the reference. -/
theorem kept4 {F1 : Foot} {bp v : Value} {W w1 : World} {g : Nat} {Z : Array Value} {L : List (BitVec 8)} {ts : List (List (BitVec 8))} {t : TypeId} (ag : At W g Z t) (hs : SlB (fun k => ¬ F1 k ∧ k ≠ g) W v L) (bk : BkO F1 bp W ts) (ng : ¬ F1 g) (b : Below w1.heap.size w1 W) (gg : w1.heap.size ≤ g) (X : Array Value) :
    At (W.setRow g X) g X t ∧ SlB (fun k => ¬ F1 k) (W.setRow g X) v L ∧ BkO F1 bp (W.setRow g X) ts ∧ Below w1.heap.size w1 (W.setRow g X) :=
  ⟨At.row ag X, (hs.keep (w' := W.setRow g X) (by simp) fun k hk _ => setRow_other W g k X hk.2).mono fun _ hk _ => hk.1, bk.keep (by simp) fun k hk _ => setRow_other W g k X fun e => ng (e ▸ hk), below_row b gg X⟩
/-- What Open tells of a page laid before a reference. -/
theorem kept_cases (key : List (BitVec 8)) (ep : BitVec 32) (bl : Int) (P PO : List (BitVec 8)) (_hP : P.length = 256) (hPO : PO.length = 256) (hb : 0 ≤ bl) (L D : List (BitVec 8)) (hL : L = sealL key ep bl P) (hD : D = digestOf L) :
    openR key ⟨0, ep, D⟩ bl PO = ([], 9) ∨ (openR key ⟨0, ep, D⟩ bl PO = (P, 0)) ∨ ∃ Q, openR key ⟨0, ep, D⟩ bl PO = (Q, 0) ∧ Q.length = 256 ∧ sameB Q P = false ∧ digestOf L = digestOf PO ∧ L ≠ PO := by
  by_cases h : digestOf PO = D
  · by_cases hpo : PO = L
    · refine .inr (.inl ?_)
      rw [openR_good key ⟨0, ep, D⟩ bl PO hPO hb h, hpo, hL, sealL_back]
    · refine .inr (.inr ⟨sealL key ep bl PO, openR_good key ⟨0, ep, D⟩ bl PO hPO hb h, by rw [sealL_length, hPO], ?_, by rw [← hD, h], fun e => hpo e.symm⟩)
      rw [Bool.eq_false_iff]
      intro hs
      have e : sealL key ep bl PO = P := by simpa [sameB] using hs
      apply hpo
      rw [hL, ← e, sealL_back]
  · exact .inl (openR_corrupt key ⟨0, ep, D⟩ bl PO hPO hb h)
theorem clash_two {L PO : List (BitVec 8)} (hd : digestOf L = digestOf PO) (hne : L ≠ PO) {a c : Int} {ok : Bool} (h : IsClash [L, PO] a c ok) : ok = true := by
  rcases h with ⟨h, _⟩ | ⟨_, _, _, h⟩
  · exact h
  · exact absurd ⟨hd, hne⟩ (h 1 (by simp) 0 (by decide))
set_option maxRecDepth 100000 in
set_option maxHeartbeats 8000000 in
theorem kept_core (C : SealP T9) (a : AskV) (ha : a.Wf) (b o : List (BitVec 8)) (v v' : Value) (w : World) (hv : Sl w v b) (ho : Sl w v' o) (hn : b.length ≤ 9223372036854775807) (hm : o.length ≤ 9223372036854775807) (hT : T9 w) :
    Calls Tryd.prog 7 #[.agg (askC a), v, v'] w fun e w' => e = .returned (.bool true) ∧ Below w.heap.size w w' := by
  have ALV := Lib.hid (fun wx h => alive9_any C wx h)
  obtain ⟨a0, c0, rfl⟩ := sl_inv hv
  obtain ⟨a1, c1, rfl⟩ := sl_inv ho
  obtain ⟨n, hnn⟩ : ∃ n, n = b.length := ⟨_, rfl⟩
  obtain ⟨m, hmm⟩ : ∃ m, m = o.length := ⟨_, rfl⟩
  rw [← hnn] at hn
  rw [← hmm] at hm
  have an := at_new w (askC a) 25
  have bn : Below w.heap.size w (w.alloc (.cells (askC a) 25)) := (Below.refl _ _).alloc (Nat.le_refl _) _
  have k32 := ask32 ha
  have k34 := ask34 ha
  have kk := ask_key ha
  have asz := askC_size ha
  obtain ⟨bl, hbl⟩ : ∃ bl, bl = a.bl := ⟨_, rfl⟩
  rw [← hbl] at k34
  by_cases gfar : 256 < n ∨ 256 < m ∨ bl < 0
  · have BN := Lib.hid bn; have TT := Lib.hid (hT.below bn)
    obtain ⟨AA, hA⟩ : ∃ M, M = askC a := ⟨_, rfl⟩
    rw [← hA] at BN TT an k34 ⊢
    have c34 : (w.alloc (.cells AA 25)).cell? ⟨w.heap.size, 34, none⟩ = some (.int .i64 bl) := (an.cell 34).trans k34
    rw [← hnn, ← hmm]
    clear hv ho hnn hmm hT C an bn k32 k34 kk asz hA hbl ha
    by_cases g1 : 256 < n
    · have g1' : (256 : Int) < (n : Int) := by omega
      clear gfar
      go_enter Tryd.func7, Tryd.ntmps7
      go_wp2_with fail
      refine (ALV.out _ TT.out).mono ?_
      rintro e w1 ⟨rfl, hb⟩
      have B1 := Lib.hid (BN.out.trans (hb.mono BN.out.size))
      clear hb
      go_wp2_with fail
      go_ret
      exact ⟨rfl, B1.out⟩
    · have g1' : ¬ (256 : Int) < (n : Int) := by omega
      by_cases g2 : 256 < m
      · have g2' : (256 : Int) < (m : Int) := by omega
        clear gfar
        go_enter Tryd.func7, Tryd.ntmps7
        go_wp2_with fail
        refine (ALV.out _ TT.out).mono ?_
        rintro e w1 ⟨rfl, hb⟩
        have B1 := Lib.hid (BN.out.trans (hb.mono BN.out.size))
        clear hb
        go_wp2_with fail
        go_ret
        exact ⟨rfl, B1.out⟩
      · have g2' : ¬ (256 : Int) < (m : Int) := by omega
        have g3 : bl < 0 := by omega
        clear gfar
        go_enter Tryd.func7, Tryd.ntmps7
        go_wp2_with fail
        refine (ALV.out _ TT.out).mono ?_
        rintro e w1 ⟨rfl, hb⟩
        have B1 := Lib.hid (BN.out.trans (hb.mono BN.out.size))
        clear hb
        go_wp2_with fail
        go_ret
        exact ⟨rfl, B1.out⟩
  · have g1 : ¬ 256 < n := fun h => gfar (.inl h)
    have g2 : ¬ 256 < m := fun h => gfar (.inr (.inl h))
    have g3 : ¬ bl < 0 := fun h => gfar (.inr (.inr h))
    have g1' : ¬ (256 : Int) < (n : Int) := by omega
    have g2' : ¬ (256 : Int) < (m : Int) := by omega
    have hb1 : bl ≤ 9223372036854775807 := by rw [hbl]; exact ha.b1
    have pg := fun wx (h : Sl wx (.slice a0 b.length c0) b) => page_any b _ wx h
    obtain ⟨P, hP⟩ : ∃ P, P = pageL b := ⟨_, rfl⟩
    have pll : P.length = 256 := by rw [hP]; exact pageL_length b
    rw [← hP, ← hnn] at pg
    have pgo := fun wx (h : Sl wx (.slice a1 o.length c1) o) => page_any o _ wx h
    obtain ⟨PO, hPO⟩ : ∃ P, P = pageL o := ⟨_, rfl⟩
    have pol : PO.length = 256 := by rw [hPO]; exact pageL_length o
    rw [← hPO, ← hmm] at pgo
    obtain ⟨L, hL⟩ : ∃ L, L = sealL a.key a.ep bl P := ⟨_, rfl⟩
    have ll : L.length = 256 := by rw [hL, sealL_length, pll]
    obtain ⟨D, hD, hDl⟩ : ∃ D, D = digestOf L ∧ D.length = 32 := ⟨_, rfl, digestOf_length L⟩
    have hrw : RefV.Wf ⟨0, a.ep, D⟩ := ⟨by show (-9223372036854775808 : Int) ≤ 0; decide, by show (0 : Int) ≤ 9223372036854775807; decide, hDl⟩
    have eh : hideR a.key a.ep 0 bl P = (L, ⟨0, a.ep, D⟩, 0) := by rw [hideR_good a.key a.ep 0 bl P pll (by omega) (by decide) (by decide), ← hL, ← hD]
    have ecase := kept_cases a.key a.ep bl P PO pll pol (by omega) L D hL hD
    have sb : sealBad bl PO = false := notBad bl PO pol (by omega)
    obtain ⟨X, hX⟩ : ∃ X, X = refC ⟨0, a.ep, D⟩ := ⟨_, rfl⟩
    obtain ⟨w1, hw1⟩ : ∃ w1, w1 = w.alloc (.cells (askC a) 25) := ⟨_, rfl⟩
    rw [← hw1] at an bn
    have hT1 : T9 w1 := hT.below bn
    have hide : ∀ (F : Foot) (bk : Nat) (v : Value) (wx : World), BkO F (bkp bk) wx [] → Sl wx v P → Below w1.heap.size w1 wx → (∀ k, F k → w1.heap.size ≤ k) → Calls Tryd.prog 13 #[.pointer (some ⟨bk, 0, none⟩), .agg (u8s a.key).toArray, .int .u32 (V a.ep), .int .i64 0, .int .i64 bl, v] wx fun e w' => ∃ v' F', e = .returned (.tuple #[v', .agg X, .int .i64 0]) ∧ SlB (fun k => wx.heap.size ≤ k ∧ ¬ F' k) w' v' L ∧ BkO F' (bkp bk) w' [L] ∧ (∀ k, F' k → F k ∨ wx.heap.size ≤ k) ∧ Chg F wx w' := fun F bk v wx h1 h2 h3 h4 => by
      have k := phide_any a.key ha.key a.ep 0 bl hb1 P v wx w1 h1 (by decide) h2 (by rw [pll]; decide) hT1.1 hT1.2 h3 h4
      rw [eh] at k
      refine k.mono fun e w' h => ?_
      obtain ⟨v', F', rfl, h5, h6, h7, h8⟩ := h
      exact ⟨v', F', by rw [hX], h5, h6, h7, h8⟩
    have op : ∀ (F G : Foot) (bk : Nat) (v : Value) (wx : World), BkO F (bkp bk) wx [L] → SlB G wx v PO → (∀ k, G k → ¬ F k) → Below w1.heap.size w1 wx → (∀ k, F k → w1.heap.size ≤ k) → Calls Tryd.prog 17 #[.pointer (some ⟨bk, 0, none⟩), .agg (u8s a.key).toArray, .agg X, .int .i64 bl, v] wx (OpenEnd F (bkp bk) wx (openR a.key ⟨0, a.ep, D⟩ bl PO).1 (openR a.key ⟨0, a.ep, D⟩ bl PO).2 [L, PO]) := fun F G bk v wx h1 h2 h3 h4 h5 => by
      have k := popen_any a.key ha.key ⟨0, a.ep, D⟩ hrw bl hb1 PO v wx w1 h1 (by simp) h2 h3 (by rw [pol]; decide) hT1.1 hT1.2 h4 h5
      rw [sb, if_neg (by decide), ← hX] at k
      exact k
    have xs := refC_size hrw
    have xo := refC_one ⟨0, a.ep, D⟩
    rw [← hX] at xs xo
    obtain ⟨Z, hZ⟩ : ∃ Z, Z = refC zref := ⟨_, rfl⟩
    have zs : Z.size = 34 := by rw [hZ]; exact refC_size zref_wf
    have al : ∀ w : World, (Instr.alloc 35 true (.tuple #[])).run Tryd.prog w = .ok (.pointer (some ⟨w.heap.size, 0, none⟩)) (w.alloc (.cells Z 35)) := by rw [hZ]; exact fun w => by kernel_rfl
    obtain ⟨ol, on, hopen⟩ : ∃ ol on, openR a.key ⟨0, a.ep, D⟩ bl PO = (ol, on) := ⟨_, _, rfl⟩
    rw [hopen] at op ecase
    have ecase : (on = 9) ∨ (on = 0 ∧ ol = P) ∨ (on = 0 ∧ ol.length = 256 ∧ sameB ol P = false ∧ digestOf L = digestOf PO ∧ L ≠ PO) := by
      rcases ecase with e | e | ⟨Q, e, h1, h2, h3, h4⟩
      · exact .inl (congrArg Prod.snd e)
      · exact .inr (.inl ⟨congrArg Prod.snd e, congrArg Prod.fst e⟩)
      · have e1 : ol = Q := congrArg Prod.fst e
        rw [e1]
        exact .inr (.inr ⟨congrArg Prod.snd e, h1, h2, h3, h4⟩)
    obtain ⟨AA, hA⟩ : ∃ M, M = askC a := ⟨_, rfl⟩
    rw [← hA] at hw1 an k32 k34 kk asz ⊢
    obtain ⟨K, hK⟩ : ∃ K, K = (u8s a.key).toArray := ⟨_, rfl⟩
    rw [← hK] at kk hide op
    obtain ⟨ep, hep⟩ : ∃ ep, ep = a.ep := ⟨_, rfl⟩
    rw [← hep] at k32 hide
    rw [← hnn] at hv ⊢
    rw [← hmm] at ho ⊢
    have c34 : w1.cell? ⟨w.heap.size, 34, none⟩ = some (.int .i64 bl) := (an.cell 34).trans k34
    have bk0 := bk_new w1
    have S0 := Lib.hid (hv.below bn); have O0 := Lib.hid (ho.below bn); have T0 := Lib.hid hT1; have AX0 := Lib.hid an; have BX0 := Lib.hid bn; have PG := Lib.hid pg; have PGO := Lib.hid pgo; have K32 := Lib.hid k32; have K34 := Lib.hid k34; have KK := Lib.hid kk; have MS := Lib.hid asz; have ZS := Lib.hid zs; have PLL := Lib.hid pll; have POL := Lib.hid pol; have LL := Lib.hid ll; have HI := Lib.hid hide; have OP := Lib.hid op; have XS := Lib.hid xs; have XO := Lib.hid xo; have AL := Lib.hid al; have EC := Lib.hid ecase; have BK0 : Hid (BkO (fun k => k = w1.heap.size) (bkp w1.heap.size) (w1.alloc (.cells #[.slice none 0 0] 59)) []) := Lib.hid (.inr ⟨_, rfl, bk0⟩); have HW1 := Lib.hid hw1
    have B20 : Hid (Below w1.heap.size w1 (w1.alloc (.cells #[.slice none 0 0] 59))) := Lib.hid ((Below.refl _ _).alloc (Nat.le_refl _) _)
    clear hv ho hT hT1 C an bn k32 k34 kk asz zs pg pgo hA hK hep hZ hP hPO pll pol hb1 hL ll hD hDl hrw eh ecase sb hide op xs xo hX al hopen hbl gfar ha hnn hmm bk0
    go_enter Tryd.func7, Tryd.ntmps7
    go_upto_region 1 with fail
    rw [← HW1.out]
    clear hw1
    obtain ⟨bx, hbx⟩ : ∃ bx, bx = w.heap.size := ⟨_, rfl⟩
    rw [← hbx] at AX0 c34 ⊢
    clear hbx
    go_upto_region 4 with fail
    clear c34
    obtain ⟨bk, hbk⟩ : ∃ bk, bk = w1.heap.size := ⟨_, rfl⟩
    go_cut [8, 9, 10] (fun s t u wx => ∃ g v' F1, .pointer (some ⟨g, 0, none⟩) = t ∧ v' = s ∧ u = .int .i64 0 ∧ At wx g X 35 ∧ ¬ F1 g ∧ w1.heap.size ≤ g ∧ SlB (fun k => ¬ F1 k) wx v' L ∧ BkO F1 (bkp w1.heap.size) wx [L] ∧ (∀ k, F1 k → w1.heap.size ≤ k) ∧ Below w1.heap.size w1 wx)
    case first =>
      have D0 : Hid (Below w1.heap.size w1 (w1.alloc (.cells #[.slice none 0 0] 59)).drew) := Lib.hid B20.out.drew
      have BD : Hid (BkO (fun k => k = w1.heap.size) (bkp w1.heap.size) (w1.alloc (.cells #[.slice none 0 0] 59)).drew []) := Lib.hid (BK0.out.below (Below.refl _ _).drew)
      generalize (w1.alloc (.cells #[.slice none 0 0] 59)) = w2 at *
      refine wp_region_plan_in (fun x' => Below w1.heap.size w1 x') (.take 0 (.take 1 (.take 2 (.take 3 (.take 4 (.take 5 (.take 6 (.two 7 13 (.two 8 13 (.take 9 (.take 10 (.take 11 (.take 12 (.sole 13 (.take 14 (.sole 15 (.take 16 .done)))))))) (.sole 8 (.take 9 (.take 10 (.take 11 (.take 12 (.take 14 (.sole 15 (.take 16 .done))))))))) (.sole 7 (.sole 8 (.take 9 (.take 10 (.take 11 (.take 12 (.take 14 (.sole 15 (.take 16 .done))))))))))))))))) (by kernel_rfl) (by kernel_rfl) (by kernel_rfl) D0.out ?_
      refine plan_field 25 _ 0 bx 0 ⟨bx, 0, none⟩ (by rfl) (by rfl) (by rfl) (by first | (with_reducible exact Mem.ev_const _ _) | (with_reducible exact Mem.ev_zero _ _ _) | (with_reducible (apply Eq.trans (Mem.ev_tmp _ _ _)); simp only [List.getD_cons_succ, List.getD_cons_zero] <;> rfl)) (fun wx => by go_simp) ?_
      (simp only [Act.put, List.setIfInBounds_toArray, List.set_cons_zero, List.set_cons_succ])
      refine plan_row_at 22 _ bx 0 32 _ AA K 25 (by rfl) (by rfl) (by rfl) (by first | (with_reducible exact Mem.ev_const _ _) | (with_reducible exact Mem.ev_zero _ _ _) | (with_reducible (apply Eq.trans (Mem.ev_tmp _ _ _)); simp only [List.getD_cons_succ, List.getD_cons_zero] <;> rfl)) (fun w' hw' => AX0.out.below hw' AX0.out.lt) Tryd.underlying22 (by rfl) infoDg (by rw [MS.out]; decide) KK.out ?_
      (simp only [Act.put, List.setIfInBounds_toArray, List.set_cons_zero, List.set_cons_succ])
      refine plan_field 25 _ 1 bx 0 ⟨bx, 32, none⟩ (by rfl) (by rfl) (by rfl) (by first | (with_reducible exact Mem.ev_const _ _) | (with_reducible exact Mem.ev_zero _ _ _) | (with_reducible (apply Eq.trans (Mem.ev_tmp _ _ _)); simp only [List.getD_cons_succ, List.getD_cons_zero] <;> rfl)) (fun wx => by go_simp) ?_
      (simp only [Act.put, List.setIfInBounds_toArray, List.set_cons_zero, List.set_cons_succ])
      refine plan_cell 23 _ _ (.int .u32 (V ep)) _ (by rfl) (by rfl) (by rfl) (by first | (with_reducible exact Mem.ev_const _ _) | (with_reducible exact Mem.ev_zero _ _ _) | (with_reducible (apply Eq.trans (Mem.ev_tmp _ _ _)); simp only [List.getD_cons_succ, List.getD_cons_zero] <;> rfl)) (fun w' hw' => by rw [(AX0.out.below hw' AX0.out.lt).cell]; exact K32.out) Tryd.underlying23 (by rfl) ?_
      (simp only [Act.put, List.setIfInBounds_toArray, List.set_cons_zero, List.set_cons_succ])
      refine plan_field 25 _ 3 bx 0 ⟨bx, 34, none⟩ (by rfl) (by rfl) (by rfl) (by first | (with_reducible exact Mem.ev_const _ _) | (with_reducible exact Mem.ev_zero _ _ _) | (with_reducible (apply Eq.trans (Mem.ev_tmp _ _ _)); simp only [List.getD_cons_succ, List.getD_cons_zero] <;> rfl)) (fun wx => by go_simp) ?_
      (simp only [Act.put, List.setIfInBounds_toArray, List.set_cons_zero, List.set_cons_succ])
      refine plan_cell 3 _ _ (.int .i64 bl) _ (by rfl) (by rfl) (by rfl) (by first | (with_reducible exact Mem.ev_const _ _) | (with_reducible exact Mem.ev_zero _ _ _) | (with_reducible (apply Eq.trans (Mem.ev_tmp _ _ _)); simp only [List.getD_cons_succ, List.getD_cons_zero] <;> rfl)) (fun w' hw' => by rw [(AX0.out.below hw' AX0.out.lt).cell]; exact K34.out) Tryd.underlying3 (by rfl) ?_
      (simp only [Act.put, List.setIfInBounds_toArray, List.set_cons_zero, List.set_cons_succ])
      (first | (refine plan_move _ _ (by rfl) (by rfl) (.inl (by rfl)) (by first | (with_reducible exact Mem.ev_const _ _) | (with_reducible exact Mem.ev_zero _ _ _) | (with_reducible (apply Eq.trans (Mem.ev_tmp _ _ _)); simp only [List.getD_cons_succ, List.getD_cons_zero] <;> rfl)) ?_) | (refine plan_move _ _ (by rfl) (by rfl) (.inr (by rfl)) (by first | (with_reducible exact Mem.ev_const _ _) | (with_reducible exact Mem.ev_zero _ _ _) | (with_reducible (apply Eq.trans (Mem.ev_tmp _ _ _)); simp only [List.getD_cons_succ, List.getD_cons_zero] <;> rfl)) ?_) | (refine plan_pick_t _ _ _ _ (by rfl) (by rfl) (by rfl) (by first | (with_reducible exact Mem.ev_const _ _) | (with_reducible exact Mem.ev_zero _ _ _) | (with_reducible (apply Eq.trans (Mem.ev_tmp _ _ _)); simp only [List.getD_cons_succ, List.getD_cons_zero] <;> rfl)) (by first | (with_reducible exact Mem.ev_const _ _) | (with_reducible exact Mem.ev_zero _ _ _) | (with_reducible (apply Eq.trans (Mem.ev_tmp _ _ _)); simp only [List.getD_cons_succ, List.getD_cons_zero] <;> rfl)) ?_) | (refine plan_pick_f _ _ _ _ (by rfl) (by rfl) (by rfl) (by first | (with_reducible exact Mem.ev_const _ _) | (with_reducible exact Mem.ev_zero _ _ _) | (with_reducible (apply Eq.trans (Mem.ev_tmp _ _ _)); simp only [List.getD_cons_succ, List.getD_cons_zero] <;> rfl)) (by first | (with_reducible exact Mem.ev_const _ _) | (with_reducible exact Mem.ev_zero _ _ _) | (with_reducible (apply Eq.trans (Mem.ev_tmp _ _ _)); simp only [List.getD_cons_succ, List.getD_cons_zero] <;> rfl)) ?_))
      (simp only [Act.put, List.setIfInBounds_toArray, List.set_cons_zero, List.set_cons_succ])
      refine plan_two ?_ ?_
      · refine plan_call 10 _ _ _ (by kernel_rfl) (by rfl) (by rfl) (by rfl) (by first | exact Mem.ev_none _ | (simp only [List.map_toArray, List.map_cons, List.map_nil, Mem.ev_tmp, List.getD_cons_succ, List.getD_cons_zero] <;> rfl)) ?_
        refine (PG.out _ (S0.out.below D0.out)).mono ?_
        rintro o' z1 ⟨gp, rfl, hga, hgl, hb⟩
        have PS1 := Lib.hid (at_sl hga rfl)
        rw [PLL.out] at PS1 ⊢
        have D1 : Hid (Below w1.heap.size w1 z1) := Lib.hid (D0.out.trans (hb.mono D0.out.size))
        have BK1' := Lib.hid (BD.out.below hb)
        clear hga hgl hb
        refine ⟨_, rfl, D1.out, ?_⟩
        (simp only [Act.put, List.setIfInBounds_toArray, List.set_cons_zero, List.set_cons_succ])
        refine plan_two ?_ ?_
        · refine plan_call 13 _ _ _ (by kernel_rfl) (by rfl) (by rfl) (by rfl) (by first | exact Mem.ev_none _ | (simp only [List.map_toArray, List.map_cons, List.map_nil, Mem.ev_tmp, List.getD_cons_succ, List.getD_cons_zero] <;> rfl)) ?_
          refine (HI.out _ _ _ _ BK1'.out PS1.out D1.out (fun k hk => Nat.le_of_eq hk.symm)).mono ?_
          rintro o' z2 ⟨v7, F1, rfl, hs, hbk, hex, hc⟩
          have hlk : w1.heap.size < z1.heap.size := BK1'.out.lt _ rfl
          have D2 : Hid (Below w1.heap.size w1 z2) := Lib.hid (hc.below D1.out (fun k hk => Nat.le_of_eq hk.symm) D1.out.size)
          have EX2 : Hid (∀ k, F1 k → w1.heap.size ≤ k) := Lib.hid (fun k hk => (hex k hk).elim (fun e => Nat.le_of_eq e.symm) (fun e => Nat.le_trans (Nat.le_of_lt hlk) e))
          have BK2' := Lib.hid hbk
          have HS2 : Hid (SlB (fun k => ¬ F1 k) z2 v7 L) := Lib.hid (hs.mono fun k hk _ => hk.2)
          clear hs hbk hex hc hlk
          refine ⟨_, rfl, D2.out, ?_⟩
          (simp only [Act.put, List.setIfInBounds_toArray, List.set_cons_zero, List.set_cons_succ])
          (first | (refine plan_move _ _ (by rfl) (by rfl) (.inl (by rfl)) (by first | (with_reducible exact Mem.ev_const _ _) | (with_reducible exact Mem.ev_zero _ _ _) | (with_reducible (apply Eq.trans (Mem.ev_tmp _ _ _)); simp only [List.getD_cons_succ, List.getD_cons_zero] <;> rfl)) ?_) | (refine plan_move _ _ (by rfl) (by rfl) (.inr (by rfl)) (by first | (with_reducible exact Mem.ev_const _ _) | (with_reducible exact Mem.ev_zero _ _ _) | (with_reducible (apply Eq.trans (Mem.ev_tmp _ _ _)); simp only [List.getD_cons_succ, List.getD_cons_zero] <;> rfl)) ?_) | (refine plan_pick_t _ _ _ _ (by rfl) (by rfl) (by rfl) (by first | (with_reducible exact Mem.ev_const _ _) | (with_reducible exact Mem.ev_zero _ _ _) | (with_reducible (apply Eq.trans (Mem.ev_tmp _ _ _)); simp only [List.getD_cons_succ, List.getD_cons_zero] <;> rfl)) (by first | (with_reducible exact Mem.ev_const _ _) | (with_reducible exact Mem.ev_zero _ _ _) | (with_reducible (apply Eq.trans (Mem.ev_tmp _ _ _)); simp only [List.getD_cons_succ, List.getD_cons_zero] <;> rfl)) ?_) | (refine plan_pick_f _ _ _ _ (by rfl) (by rfl) (by rfl) (by first | (with_reducible exact Mem.ev_const _ _) | (with_reducible exact Mem.ev_zero _ _ _) | (with_reducible (apply Eq.trans (Mem.ev_tmp _ _ _)); simp only [List.getD_cons_succ, List.getD_cons_zero] <;> rfl)) (by first | (with_reducible exact Mem.ev_const _ _) | (with_reducible exact Mem.ev_zero _ _ _) | (with_reducible (apply Eq.trans (Mem.ev_tmp _ _ _)); simp only [List.getD_cons_succ, List.getD_cons_zero] <;> rfl)) ?_))
          (simp only [Act.put, List.setIfInBounds_toArray, List.set_cons_zero, List.set_cons_succ])
          refine plan_extract _ _ #[v7, (.agg X), (.int .i64 0)] v7 (by rfl) (by rfl) (by rfl) (by first | (with_reducible exact Mem.ev_const _ _) | (with_reducible exact Mem.ev_zero _ _ _) | (with_reducible (apply Eq.trans (Mem.ev_tmp _ _ _)); simp only [List.getD_cons_succ, List.getD_cons_zero] <;> rfl)) (by rfl) ?_
          (simp only [Act.put, List.setIfInBounds_toArray, List.set_cons_zero, List.set_cons_succ])
          refine plan_extract _ _ #[v7, (.agg X), (.int .i64 0)] (.agg X) (by rfl) (by rfl) (by rfl) (by first | (with_reducible exact Mem.ev_const _ _) | (with_reducible exact Mem.ev_zero _ _ _) | (with_reducible (apply Eq.trans (Mem.ev_tmp _ _ _)); simp only [List.getD_cons_succ, List.getD_cons_zero] <;> rfl)) (by rfl) ?_
          (simp only [Act.put, List.setIfInBounds_toArray, List.set_cons_zero, List.set_cons_succ])
          refine plan_extract _ _ #[v7, (.agg X), (.int .i64 0)] (.int .i64 0) (by rfl) (by rfl) (by rfl) (by first | (with_reducible exact Mem.ev_const _ _) | (with_reducible exact Mem.ev_zero _ _ _) | (with_reducible (apply Eq.trans (Mem.ev_tmp _ _ _)); simp only [List.getD_cons_succ, List.getD_cons_zero] <;> rfl)) (by rfl) ?_
          (simp only [Act.put, List.setIfInBounds_toArray, List.set_cons_zero, List.set_cons_succ])
          refine plan_alloc _ Z (by rfl) (by rfl) (by rfl) AL.out (D2.out.alloc D2.out.size _) ?_
          have D3 : Hid (Below w1.heap.size w1 (z2.alloc (.cells Z 35))) := Lib.hid (D2.out.alloc D2.out.size _)
          have hal : Below z2.heap.size z2 (z2.alloc (.cells Z 35)) := (Below.refl _ _).alloc (Nat.le_refl _) _
          have AG3 := Lib.hid (at_new z2 Z 35)
          have GL3 : Hid (w1.heap.size ≤ z2.heap.size) := Lib.hid D2.out.size
          have NG3 : Hid (¬ F1 z2.heap.size) := Lib.hid (fun hf => Nat.lt_irrefl _ (BK2'.out.lt _ hf))
          have HS3 : Hid (SlB (fun k => ¬ F1 k ∧ k ≠ z2.heap.size) (z2.alloc (.cells Z 35)) v7 L) := Lib.hid ((HS2.out.mono fun k hk hlt => ⟨hk, Nat.ne_of_lt hlt⟩).below hal)
          have BK3' := Lib.hid (BK2'.out.below hal)
          clear hal
          (simp only [Act.put, List.setIfInBounds_toArray, List.set_cons_zero, List.set_cons_succ])
          (first | (refine plan_move _ _ (by rfl) (by rfl) (.inl (by rfl)) (by first | (with_reducible exact Mem.ev_const _ _) | (with_reducible exact Mem.ev_zero _ _ _) | (with_reducible (apply Eq.trans (Mem.ev_tmp _ _ _)); simp only [List.getD_cons_succ, List.getD_cons_zero] <;> rfl)) ?_) | (refine plan_move _ _ (by rfl) (by rfl) (.inr (by rfl)) (by first | (with_reducible exact Mem.ev_const _ _) | (with_reducible exact Mem.ev_zero _ _ _) | (with_reducible (apply Eq.trans (Mem.ev_tmp _ _ _)); simp only [List.getD_cons_succ, List.getD_cons_zero] <;> rfl)) ?_) | (refine plan_pick_t _ _ _ _ (by rfl) (by rfl) (by rfl) (by first | (with_reducible exact Mem.ev_const _ _) | (with_reducible exact Mem.ev_zero _ _ _) | (with_reducible (apply Eq.trans (Mem.ev_tmp _ _ _)); simp only [List.getD_cons_succ, List.getD_cons_zero] <;> rfl)) (by first | (with_reducible exact Mem.ev_const _ _) | (with_reducible exact Mem.ev_zero _ _ _) | (with_reducible (apply Eq.trans (Mem.ev_tmp _ _ _)); simp only [List.getD_cons_succ, List.getD_cons_zero] <;> rfl)) ?_) | (refine plan_pick_f _ _ _ _ (by rfl) (by rfl) (by rfl) (by first | (with_reducible exact Mem.ev_const _ _) | (with_reducible exact Mem.ev_zero _ _ _) | (with_reducible (apply Eq.trans (Mem.ev_tmp _ _ _)); simp only [List.getD_cons_succ, List.getD_cons_zero] <;> rfl)) (by first | (with_reducible exact Mem.ev_const _ _) | (with_reducible exact Mem.ev_zero _ _ _) | (with_reducible (apply Eq.trans (Mem.ev_tmp _ _ _)); simp only [List.getD_cons_succ, List.getD_cons_zero] <;> rfl)) ?_))
          (simp only [Act.put, List.setIfInBounds_toArray, List.set_cons_zero, List.set_cons_succ])
          refine plan_store 35 _ _ (z2.heap.size) X Z 35 (by rfl) (by rfl) (by rfl) (by rfl) (by first | (with_reducible exact Mem.ev_const _ _) | (with_reducible exact Mem.ev_zero _ _ _) | (with_reducible (apply Eq.trans (Mem.ev_tmp _ _ _)); simp only [List.getD_cons_succ, List.getD_cons_zero] <;> rfl)) (by first | (with_reducible exact Mem.ev_const _ _) | (with_reducible exact Mem.ev_zero _ _ _) | (with_reducible (apply Eq.trans (Mem.ev_tmp _ _ _)); simp only [List.getD_cons_succ, List.getD_cons_zero] <;> rfl)) (by rw [XS.out]; exact infoRfP) AG3.out (by rw [XS.out, ZS.out]) XO.out (below_row D3.out GL3.out X) ?_
          (first | (refine plan_move _ _ (by rfl) (by rfl) (.inl (by rfl)) (by first | (with_reducible exact Mem.ev_const _ _) | (with_reducible exact Mem.ev_zero _ _ _) | (with_reducible (apply Eq.trans (Mem.ev_tmp _ _ _)); simp only [List.getD_cons_succ, List.getD_cons_zero] <;> rfl)) ?_) | (refine plan_move _ _ (by rfl) (by rfl) (.inr (by rfl)) (by first | (with_reducible exact Mem.ev_const _ _) | (with_reducible exact Mem.ev_zero _ _ _) | (with_reducible (apply Eq.trans (Mem.ev_tmp _ _ _)); simp only [List.getD_cons_succ, List.getD_cons_zero] <;> rfl)) ?_) | (refine plan_pick_t _ _ _ _ (by rfl) (by rfl) (by rfl) (by first | (with_reducible exact Mem.ev_const _ _) | (with_reducible exact Mem.ev_zero _ _ _) | (with_reducible (apply Eq.trans (Mem.ev_tmp _ _ _)); simp only [List.getD_cons_succ, List.getD_cons_zero] <;> rfl)) (by first | (with_reducible exact Mem.ev_const _ _) | (with_reducible exact Mem.ev_zero _ _ _) | (with_reducible (apply Eq.trans (Mem.ev_tmp _ _ _)); simp only [List.getD_cons_succ, List.getD_cons_zero] <;> rfl)) ?_) | (refine plan_pick_f _ _ _ _ (by rfl) (by rfl) (by rfl) (by first | (with_reducible exact Mem.ev_const _ _) | (with_reducible exact Mem.ev_zero _ _ _) | (with_reducible (apply Eq.trans (Mem.ev_tmp _ _ _)); simp only [List.getD_cons_succ, List.getD_cons_zero] <;> rfl)) (by first | (with_reducible exact Mem.ev_const _ _) | (with_reducible exact Mem.ev_zero _ _ _) | (with_reducible (apply Eq.trans (Mem.ev_tmp _ _ _)); simp only [List.getD_cons_succ, List.getD_cons_zero] <;> rfl)) ?_))
          (simp only [Act.put, List.setIfInBounds_toArray, List.set_cons_zero, List.set_cons_succ])
          refine plan_nil ?_
          go_wp2_with fail
          go_meet
          obtain ⟨q1, q2, q3, q4⟩ := kept4 AG3.out HS3.out BK3'.out NG3.out D3.out GL3.out X
          exact ⟨_, _, _, rfl, rfl, rfl, q1, NG3.out, GL3.out, q2, q3, EX2.out, q4⟩
        · refine plan_alloc _ Z (by rfl) (by rfl) (by rfl) AL.out (D1.out.alloc D1.out.size _) ?_
          have D2 : Hid (Below w1.heap.size w1 (z1.alloc (.cells Z 35))) := Lib.hid (D1.out.alloc D1.out.size _)
          have hal : Below z1.heap.size z1 (z1.alloc (.cells Z 35)) := (Below.refl _ _).alloc (Nat.le_refl _) _
          have AG2 := Lib.hid (at_new z1 Z 35)
          have GL2 : Hid (w1.heap.size ≤ z1.heap.size) := Lib.hid D1.out.size
          have GG2 : Hid (w1.heap.size < z1.heap.size) := Lib.hid (BK1'.out.lt _ rfl)
          have PS2 := Lib.hid (PS1.out.below hal)
          have BK2' := Lib.hid (BK1'.out.below hal)
          clear hal
          (simp only [Act.put, List.setIfInBounds_toArray, List.set_cons_zero, List.set_cons_succ])
          refine plan_call 13 _ _ _ (by kernel_rfl) (by rfl) (by rfl) (by rfl) (by first | exact Mem.ev_none _ | (simp only [List.map_toArray, List.map_cons, List.map_nil, Mem.ev_tmp, List.getD_cons_succ, List.getD_cons_zero] <;> rfl)) ?_
          refine (HI.out _ _ _ _ BK2'.out PS2.out D2.out (fun k hk => Nat.le_of_eq hk.symm)).mono ?_
          rintro o' z3 ⟨v7, F1, rfl, hs, hbk, hex, hc⟩
          have hlk : w1.heap.size < (z1.alloc (.cells Z 35)).heap.size := BK2'.out.lt _ rfl
          have D3 : Hid (Below w1.heap.size w1 z3) := Lib.hid (hc.below D2.out (fun k hk => Nat.le_of_eq hk.symm) D2.out.size)
          have EX3 : Hid (∀ k, F1 k → w1.heap.size ≤ k) := Lib.hid (fun k hk => (hex k hk).elim (fun e => Nat.le_of_eq e.symm) (fun e => Nat.le_trans (Nat.le_of_lt hlk) e))
          have BK3' := Lib.hid hbk
          have NG3 : Hid (¬ F1 z1.heap.size) := Lib.hid (fun hf => (hex _ hf).elim (fun e => by have := GG2.out; omega) (fun e => by have := AG2.out.lt; omega))
          have AG3 := Lib.hid (AG2.out.chg hc (fun e => by have := GG2.out; omega))
          have HS3 : Hid (SlB (fun k => ¬ F1 k ∧ k ≠ z1.heap.size) z3 v7 L) := Lib.hid (hs.mono fun k hk _ => ⟨hk.2, fun e => by have := hk.1; have := AG2.out.lt; omega⟩)
          clear hs hbk hex hc hlk
          refine ⟨_, rfl, D3.out, ?_⟩
          (simp only [Act.put, List.setIfInBounds_toArray, List.set_cons_zero, List.set_cons_succ])
          (first | (refine plan_move _ _ (by rfl) (by rfl) (.inl (by rfl)) (by first | (with_reducible exact Mem.ev_const _ _) | (with_reducible exact Mem.ev_zero _ _ _) | (with_reducible (apply Eq.trans (Mem.ev_tmp _ _ _)); simp only [List.getD_cons_succ, List.getD_cons_zero] <;> rfl)) ?_) | (refine plan_move _ _ (by rfl) (by rfl) (.inr (by rfl)) (by first | (with_reducible exact Mem.ev_const _ _) | (with_reducible exact Mem.ev_zero _ _ _) | (with_reducible (apply Eq.trans (Mem.ev_tmp _ _ _)); simp only [List.getD_cons_succ, List.getD_cons_zero] <;> rfl)) ?_) | (refine plan_pick_t _ _ _ _ (by rfl) (by rfl) (by rfl) (by first | (with_reducible exact Mem.ev_const _ _) | (with_reducible exact Mem.ev_zero _ _ _) | (with_reducible (apply Eq.trans (Mem.ev_tmp _ _ _)); simp only [List.getD_cons_succ, List.getD_cons_zero] <;> rfl)) (by first | (with_reducible exact Mem.ev_const _ _) | (with_reducible exact Mem.ev_zero _ _ _) | (with_reducible (apply Eq.trans (Mem.ev_tmp _ _ _)); simp only [List.getD_cons_succ, List.getD_cons_zero] <;> rfl)) ?_) | (refine plan_pick_f _ _ _ _ (by rfl) (by rfl) (by rfl) (by first | (with_reducible exact Mem.ev_const _ _) | (with_reducible exact Mem.ev_zero _ _ _) | (with_reducible (apply Eq.trans (Mem.ev_tmp _ _ _)); simp only [List.getD_cons_succ, List.getD_cons_zero] <;> rfl)) (by first | (with_reducible exact Mem.ev_const _ _) | (with_reducible exact Mem.ev_zero _ _ _) | (with_reducible (apply Eq.trans (Mem.ev_tmp _ _ _)); simp only [List.getD_cons_succ, List.getD_cons_zero] <;> rfl)) ?_))
          (simp only [Act.put, List.setIfInBounds_toArray, List.set_cons_zero, List.set_cons_succ])
          refine plan_extract _ _ #[v7, (.agg X), (.int .i64 0)] v7 (by rfl) (by rfl) (by rfl) (by first | (with_reducible exact Mem.ev_const _ _) | (with_reducible exact Mem.ev_zero _ _ _) | (with_reducible (apply Eq.trans (Mem.ev_tmp _ _ _)); simp only [List.getD_cons_succ, List.getD_cons_zero] <;> rfl)) (by rfl) ?_
          (simp only [Act.put, List.setIfInBounds_toArray, List.set_cons_zero, List.set_cons_succ])
          refine plan_extract _ _ #[v7, (.agg X), (.int .i64 0)] (.agg X) (by rfl) (by rfl) (by rfl) (by first | (with_reducible exact Mem.ev_const _ _) | (with_reducible exact Mem.ev_zero _ _ _) | (with_reducible (apply Eq.trans (Mem.ev_tmp _ _ _)); simp only [List.getD_cons_succ, List.getD_cons_zero] <;> rfl)) (by rfl) ?_
          (simp only [Act.put, List.setIfInBounds_toArray, List.set_cons_zero, List.set_cons_succ])
          refine plan_extract _ _ #[v7, (.agg X), (.int .i64 0)] (.int .i64 0) (by rfl) (by rfl) (by rfl) (by first | (with_reducible exact Mem.ev_const _ _) | (with_reducible exact Mem.ev_zero _ _ _) | (with_reducible (apply Eq.trans (Mem.ev_tmp _ _ _)); simp only [List.getD_cons_succ, List.getD_cons_zero] <;> rfl)) (by rfl) ?_
          (simp only [Act.put, List.setIfInBounds_toArray, List.set_cons_zero, List.set_cons_succ])
          (first | (refine plan_move _ _ (by rfl) (by rfl) (.inl (by rfl)) (by first | (with_reducible exact Mem.ev_const _ _) | (with_reducible exact Mem.ev_zero _ _ _) | (with_reducible (apply Eq.trans (Mem.ev_tmp _ _ _)); simp only [List.getD_cons_succ, List.getD_cons_zero] <;> rfl)) ?_) | (refine plan_move _ _ (by rfl) (by rfl) (.inr (by rfl)) (by first | (with_reducible exact Mem.ev_const _ _) | (with_reducible exact Mem.ev_zero _ _ _) | (with_reducible (apply Eq.trans (Mem.ev_tmp _ _ _)); simp only [List.getD_cons_succ, List.getD_cons_zero] <;> rfl)) ?_) | (refine plan_pick_t _ _ _ _ (by rfl) (by rfl) (by rfl) (by first | (with_reducible exact Mem.ev_const _ _) | (with_reducible exact Mem.ev_zero _ _ _) | (with_reducible (apply Eq.trans (Mem.ev_tmp _ _ _)); simp only [List.getD_cons_succ, List.getD_cons_zero] <;> rfl)) (by first | (with_reducible exact Mem.ev_const _ _) | (with_reducible exact Mem.ev_zero _ _ _) | (with_reducible (apply Eq.trans (Mem.ev_tmp _ _ _)); simp only [List.getD_cons_succ, List.getD_cons_zero] <;> rfl)) ?_) | (refine plan_pick_f _ _ _ _ (by rfl) (by rfl) (by rfl) (by first | (with_reducible exact Mem.ev_const _ _) | (with_reducible exact Mem.ev_zero _ _ _) | (with_reducible (apply Eq.trans (Mem.ev_tmp _ _ _)); simp only [List.getD_cons_succ, List.getD_cons_zero] <;> rfl)) (by first | (with_reducible exact Mem.ev_const _ _) | (with_reducible exact Mem.ev_zero _ _ _) | (with_reducible (apply Eq.trans (Mem.ev_tmp _ _ _)); simp only [List.getD_cons_succ, List.getD_cons_zero] <;> rfl)) ?_))
          (simp only [Act.put, List.setIfInBounds_toArray, List.set_cons_zero, List.set_cons_succ])
          refine plan_store 35 _ _ (z1.heap.size) X Z 35 (by rfl) (by rfl) (by rfl) (by rfl) (by first | (with_reducible exact Mem.ev_const _ _) | (with_reducible exact Mem.ev_zero _ _ _) | (with_reducible (apply Eq.trans (Mem.ev_tmp _ _ _)); simp only [List.getD_cons_succ, List.getD_cons_zero] <;> rfl)) (by first | (with_reducible exact Mem.ev_const _ _) | (with_reducible exact Mem.ev_zero _ _ _) | (with_reducible (apply Eq.trans (Mem.ev_tmp _ _ _)); simp only [List.getD_cons_succ, List.getD_cons_zero] <;> rfl)) (by rw [XS.out]; exact infoRfP) AG3.out (by rw [XS.out, ZS.out]) XO.out (below_row D3.out GL2.out X) ?_
          (first | (refine plan_move _ _ (by rfl) (by rfl) (.inl (by rfl)) (by first | (with_reducible exact Mem.ev_const _ _) | (with_reducible exact Mem.ev_zero _ _ _) | (with_reducible (apply Eq.trans (Mem.ev_tmp _ _ _)); simp only [List.getD_cons_succ, List.getD_cons_zero] <;> rfl)) ?_) | (refine plan_move _ _ (by rfl) (by rfl) (.inr (by rfl)) (by first | (with_reducible exact Mem.ev_const _ _) | (with_reducible exact Mem.ev_zero _ _ _) | (with_reducible (apply Eq.trans (Mem.ev_tmp _ _ _)); simp only [List.getD_cons_succ, List.getD_cons_zero] <;> rfl)) ?_) | (refine plan_pick_t _ _ _ _ (by rfl) (by rfl) (by rfl) (by first | (with_reducible exact Mem.ev_const _ _) | (with_reducible exact Mem.ev_zero _ _ _) | (with_reducible (apply Eq.trans (Mem.ev_tmp _ _ _)); simp only [List.getD_cons_succ, List.getD_cons_zero] <;> rfl)) (by first | (with_reducible exact Mem.ev_const _ _) | (with_reducible exact Mem.ev_zero _ _ _) | (with_reducible (apply Eq.trans (Mem.ev_tmp _ _ _)); simp only [List.getD_cons_succ, List.getD_cons_zero] <;> rfl)) ?_) | (refine plan_pick_f _ _ _ _ (by rfl) (by rfl) (by rfl) (by first | (with_reducible exact Mem.ev_const _ _) | (with_reducible exact Mem.ev_zero _ _ _) | (with_reducible (apply Eq.trans (Mem.ev_tmp _ _ _)); simp only [List.getD_cons_succ, List.getD_cons_zero] <;> rfl)) (by first | (with_reducible exact Mem.ev_const _ _) | (with_reducible exact Mem.ev_zero _ _ _) | (with_reducible (apply Eq.trans (Mem.ev_tmp _ _ _)); simp only [List.getD_cons_succ, List.getD_cons_zero] <;> rfl)) ?_))
          (simp only [Act.put, List.setIfInBounds_toArray, List.set_cons_zero, List.set_cons_succ])
          refine plan_nil ?_
          go_wp2_with fail
          go_meet
          obtain ⟨q1, q2, q3, q4⟩ := kept4 AG3.out HS3.out BK3'.out NG3.out D3.out GL2.out X
          exact ⟨_, _, _, rfl, rfl, rfl, q1, NG3.out, GL2.out, q2, q3, EX3.out, q4⟩
      · refine plan_alloc _ Z (by rfl) (by rfl) (by rfl) AL.out (D0.out.alloc D0.out.size _) ?_
        have D1 : Hid (Below w1.heap.size w1 (w2.drew.alloc (.cells Z 35))) := Lib.hid (D0.out.alloc D0.out.size _)
        have hal : Below w2.drew.heap.size w2.drew (w2.drew.alloc (.cells Z 35)) := (Below.refl _ _).alloc (Nat.le_refl _) _
        have AG1 := Lib.hid (at_new w2.drew Z 35)
        have GL1 : Hid (w1.heap.size ≤ w2.drew.heap.size) := Lib.hid D0.out.size
        have GG1 : Hid (w1.heap.size < w2.drew.heap.size) := Lib.hid (BD.out.lt _ rfl)
        have BK1' := Lib.hid (BD.out.below hal)
        clear hal
        (simp only [Act.put, List.setIfInBounds_toArray, List.set_cons_zero, List.set_cons_succ])
        refine plan_call 10 _ _ _ (by kernel_rfl) (by rfl) (by rfl) (by rfl) (by first | exact Mem.ev_none _ | (simp only [List.map_toArray, List.map_cons, List.map_nil, Mem.ev_tmp, List.getD_cons_succ, List.getD_cons_zero] <;> rfl)) ?_
        refine (PG.out _ (S0.out.below D1.out)).mono ?_
        rintro o' z2 ⟨gp, rfl, hga, hgl, hb⟩
        have PS2 := Lib.hid (at_sl hga rfl)
        rw [PLL.out] at PS2 ⊢
        have D2 : Hid (Below w1.heap.size w1 z2) := Lib.hid (D1.out.trans (hb.mono D1.out.size))
        have AG2 := Lib.hid (AG1.out.below hb AG1.out.lt)
        have BK2' := Lib.hid (BK1'.out.below hb)
        clear hga hgl hb
        refine ⟨_, rfl, D2.out, ?_⟩
        (simp only [Act.put, List.setIfInBounds_toArray, List.set_cons_zero, List.set_cons_succ])
        refine plan_call 13 _ _ _ (by kernel_rfl) (by rfl) (by rfl) (by rfl) (by first | exact Mem.ev_none _ | (simp only [List.map_toArray, List.map_cons, List.map_nil, Mem.ev_tmp, List.getD_cons_succ, List.getD_cons_zero] <;> rfl)) ?_
        refine (HI.out _ _ _ _ BK2'.out PS2.out D2.out (fun k hk => Nat.le_of_eq hk.symm)).mono ?_
        rintro o' z3 ⟨v7, F1, rfl, hs, hbk, hex, hc⟩
        have hlk : w1.heap.size < z2.heap.size := BK2'.out.lt _ rfl
        have D3 : Hid (Below w1.heap.size w1 z3) := Lib.hid (hc.below D2.out (fun k hk => Nat.le_of_eq hk.symm) D2.out.size)
        have EX3 : Hid (∀ k, F1 k → w1.heap.size ≤ k) := Lib.hid (fun k hk => (hex k hk).elim (fun e => Nat.le_of_eq e.symm) (fun e => Nat.le_trans (Nat.le_of_lt hlk) e))
        have BK3' := Lib.hid hbk
        have NG3 : Hid (¬ F1 w2.drew.heap.size) := Lib.hid (fun hf => (hex _ hf).elim (fun e => by have := GG1.out; omega) (fun e => by have := AG2.out.lt; omega))
        have AG3 := Lib.hid (AG2.out.chg hc (fun e => by have := GG1.out; omega))
        have HS3 : Hid (SlB (fun k => ¬ F1 k ∧ k ≠ w2.drew.heap.size) z3 v7 L) := Lib.hid (hs.mono fun k hk _ => ⟨hk.2, fun e => by have := hk.1; have := AG2.out.lt; omega⟩)
        clear hs hbk hex hc hlk
        refine ⟨_, rfl, D3.out, ?_⟩
        (simp only [Act.put, List.setIfInBounds_toArray, List.set_cons_zero, List.set_cons_succ])
        (first | (refine plan_move _ _ (by rfl) (by rfl) (.inl (by rfl)) (by first | (with_reducible exact Mem.ev_const _ _) | (with_reducible exact Mem.ev_zero _ _ _) | (with_reducible (apply Eq.trans (Mem.ev_tmp _ _ _)); simp only [List.getD_cons_succ, List.getD_cons_zero] <;> rfl)) ?_) | (refine plan_move _ _ (by rfl) (by rfl) (.inr (by rfl)) (by first | (with_reducible exact Mem.ev_const _ _) | (with_reducible exact Mem.ev_zero _ _ _) | (with_reducible (apply Eq.trans (Mem.ev_tmp _ _ _)); simp only [List.getD_cons_succ, List.getD_cons_zero] <;> rfl)) ?_) | (refine plan_pick_t _ _ _ _ (by rfl) (by rfl) (by rfl) (by first | (with_reducible exact Mem.ev_const _ _) | (with_reducible exact Mem.ev_zero _ _ _) | (with_reducible (apply Eq.trans (Mem.ev_tmp _ _ _)); simp only [List.getD_cons_succ, List.getD_cons_zero] <;> rfl)) (by first | (with_reducible exact Mem.ev_const _ _) | (with_reducible exact Mem.ev_zero _ _ _) | (with_reducible (apply Eq.trans (Mem.ev_tmp _ _ _)); simp only [List.getD_cons_succ, List.getD_cons_zero] <;> rfl)) ?_) | (refine plan_pick_f _ _ _ _ (by rfl) (by rfl) (by rfl) (by first | (with_reducible exact Mem.ev_const _ _) | (with_reducible exact Mem.ev_zero _ _ _) | (with_reducible (apply Eq.trans (Mem.ev_tmp _ _ _)); simp only [List.getD_cons_succ, List.getD_cons_zero] <;> rfl)) (by first | (with_reducible exact Mem.ev_const _ _) | (with_reducible exact Mem.ev_zero _ _ _) | (with_reducible (apply Eq.trans (Mem.ev_tmp _ _ _)); simp only [List.getD_cons_succ, List.getD_cons_zero] <;> rfl)) ?_))
        (simp only [Act.put, List.setIfInBounds_toArray, List.set_cons_zero, List.set_cons_succ])
        refine plan_extract _ _ #[v7, (.agg X), (.int .i64 0)] v7 (by rfl) (by rfl) (by rfl) (by first | (with_reducible exact Mem.ev_const _ _) | (with_reducible exact Mem.ev_zero _ _ _) | (with_reducible (apply Eq.trans (Mem.ev_tmp _ _ _)); simp only [List.getD_cons_succ, List.getD_cons_zero] <;> rfl)) (by rfl) ?_
        (simp only [Act.put, List.setIfInBounds_toArray, List.set_cons_zero, List.set_cons_succ])
        refine plan_extract _ _ #[v7, (.agg X), (.int .i64 0)] (.agg X) (by rfl) (by rfl) (by rfl) (by first | (with_reducible exact Mem.ev_const _ _) | (with_reducible exact Mem.ev_zero _ _ _) | (with_reducible (apply Eq.trans (Mem.ev_tmp _ _ _)); simp only [List.getD_cons_succ, List.getD_cons_zero] <;> rfl)) (by rfl) ?_
        (simp only [Act.put, List.setIfInBounds_toArray, List.set_cons_zero, List.set_cons_succ])
        refine plan_extract _ _ #[v7, (.agg X), (.int .i64 0)] (.int .i64 0) (by rfl) (by rfl) (by rfl) (by first | (with_reducible exact Mem.ev_const _ _) | (with_reducible exact Mem.ev_zero _ _ _) | (with_reducible (apply Eq.trans (Mem.ev_tmp _ _ _)); simp only [List.getD_cons_succ, List.getD_cons_zero] <;> rfl)) (by rfl) ?_
        (simp only [Act.put, List.setIfInBounds_toArray, List.set_cons_zero, List.set_cons_succ])
        (first | (refine plan_move _ _ (by rfl) (by rfl) (.inl (by rfl)) (by first | (with_reducible exact Mem.ev_const _ _) | (with_reducible exact Mem.ev_zero _ _ _) | (with_reducible (apply Eq.trans (Mem.ev_tmp _ _ _)); simp only [List.getD_cons_succ, List.getD_cons_zero] <;> rfl)) ?_) | (refine plan_move _ _ (by rfl) (by rfl) (.inr (by rfl)) (by first | (with_reducible exact Mem.ev_const _ _) | (with_reducible exact Mem.ev_zero _ _ _) | (with_reducible (apply Eq.trans (Mem.ev_tmp _ _ _)); simp only [List.getD_cons_succ, List.getD_cons_zero] <;> rfl)) ?_) | (refine plan_pick_t _ _ _ _ (by rfl) (by rfl) (by rfl) (by first | (with_reducible exact Mem.ev_const _ _) | (with_reducible exact Mem.ev_zero _ _ _) | (with_reducible (apply Eq.trans (Mem.ev_tmp _ _ _)); simp only [List.getD_cons_succ, List.getD_cons_zero] <;> rfl)) (by first | (with_reducible exact Mem.ev_const _ _) | (with_reducible exact Mem.ev_zero _ _ _) | (with_reducible (apply Eq.trans (Mem.ev_tmp _ _ _)); simp only [List.getD_cons_succ, List.getD_cons_zero] <;> rfl)) ?_) | (refine plan_pick_f _ _ _ _ (by rfl) (by rfl) (by rfl) (by first | (with_reducible exact Mem.ev_const _ _) | (with_reducible exact Mem.ev_zero _ _ _) | (with_reducible (apply Eq.trans (Mem.ev_tmp _ _ _)); simp only [List.getD_cons_succ, List.getD_cons_zero] <;> rfl)) (by first | (with_reducible exact Mem.ev_const _ _) | (with_reducible exact Mem.ev_zero _ _ _) | (with_reducible (apply Eq.trans (Mem.ev_tmp _ _ _)); simp only [List.getD_cons_succ, List.getD_cons_zero] <;> rfl)) ?_))
        (simp only [Act.put, List.setIfInBounds_toArray, List.set_cons_zero, List.set_cons_succ])
        refine plan_store 35 _ _ (w2.drew.heap.size) X Z 35 (by rfl) (by rfl) (by rfl) (by rfl) (by first | (with_reducible exact Mem.ev_const _ _) | (with_reducible exact Mem.ev_zero _ _ _) | (with_reducible (apply Eq.trans (Mem.ev_tmp _ _ _)); simp only [List.getD_cons_succ, List.getD_cons_zero] <;> rfl)) (by first | (with_reducible exact Mem.ev_const _ _) | (with_reducible exact Mem.ev_zero _ _ _) | (with_reducible (apply Eq.trans (Mem.ev_tmp _ _ _)); simp only [List.getD_cons_succ, List.getD_cons_zero] <;> rfl)) (by rw [XS.out]; exact infoRfP) AG3.out (by rw [XS.out, ZS.out]) XO.out (below_row D3.out GL1.out X) ?_
        (first | (refine plan_move _ _ (by rfl) (by rfl) (.inl (by rfl)) (by first | (with_reducible exact Mem.ev_const _ _) | (with_reducible exact Mem.ev_zero _ _ _) | (with_reducible (apply Eq.trans (Mem.ev_tmp _ _ _)); simp only [List.getD_cons_succ, List.getD_cons_zero] <;> rfl)) ?_) | (refine plan_move _ _ (by rfl) (by rfl) (.inr (by rfl)) (by first | (with_reducible exact Mem.ev_const _ _) | (with_reducible exact Mem.ev_zero _ _ _) | (with_reducible (apply Eq.trans (Mem.ev_tmp _ _ _)); simp only [List.getD_cons_succ, List.getD_cons_zero] <;> rfl)) ?_) | (refine plan_pick_t _ _ _ _ (by rfl) (by rfl) (by rfl) (by first | (with_reducible exact Mem.ev_const _ _) | (with_reducible exact Mem.ev_zero _ _ _) | (with_reducible (apply Eq.trans (Mem.ev_tmp _ _ _)); simp only [List.getD_cons_succ, List.getD_cons_zero] <;> rfl)) (by first | (with_reducible exact Mem.ev_const _ _) | (with_reducible exact Mem.ev_zero _ _ _) | (with_reducible (apply Eq.trans (Mem.ev_tmp _ _ _)); simp only [List.getD_cons_succ, List.getD_cons_zero] <;> rfl)) ?_) | (refine plan_pick_f _ _ _ _ (by rfl) (by rfl) (by rfl) (by first | (with_reducible exact Mem.ev_const _ _) | (with_reducible exact Mem.ev_zero _ _ _) | (with_reducible (apply Eq.trans (Mem.ev_tmp _ _ _)); simp only [List.getD_cons_succ, List.getD_cons_zero] <;> rfl)) (by first | (with_reducible exact Mem.ev_const _ _) | (with_reducible exact Mem.ev_zero _ _ _) | (with_reducible (apply Eq.trans (Mem.ev_tmp _ _ _)); simp only [List.getD_cons_succ, List.getD_cons_zero] <;> rfl)) ?_))
        (simp only [Act.put, List.setIfInBounds_toArray, List.set_cons_zero, List.set_cons_succ])
        refine plan_nil ?_
        go_wp2_with fail
        go_meet
        obtain ⟨q1, q2, q3, q4⟩ := kept4 AG3.out HS3.out BK3'.out NG3.out D3.out GL1.out X
        exact ⟨_, _, _, rfl, rfl, rfl, q1, NG3.out, GL1.out, q2, q3, EX3.out, q4⟩
    case rest =>
      clear BK0 B20
      obtain ⟨g, v3, F1, rfl, rfl, rfl, hga, hng, hgl, hgs, hbk1, hex, hgb⟩ := hcut
      have GA := Lib.hid hga; have NG := Lib.hid hng; have GS := Lib.hid hgs; have BK1 := Lib.hid hbk1; have EX := Lib.hid hex; have GB := Lib.hid hgb
      clear hga hng hgl hgs hbk1 hex hgb
      have D0 : Hid (Below w1.heap.size w1 wc.drew ∧ At wc.drew g X 35) := Lib.hid ⟨GB.out.drew, GA.out.drew⟩
      go_wp2_with fail
      refine wp_region_plan_in (fun x' => Below w1.heap.size w1 x' ∧ At x' g X 35) (.take 0 (.take 1 (.take 2 (.take 3 (.take 4 (.take 5 (.sole 6 (.sole 7 (.take 8 (.take 9 (.take 10 (.take 11 (.take 12 .done))))))))))))) (by kernel_rfl) (by kernel_rfl) (by kernel_rfl) D0.out ?_
      refine plan_field 25 _ 0 bx 0 ⟨bx, 0, none⟩ (by rfl) (by rfl) (by rfl) (by first | (with_reducible exact Mem.ev_const _ _) | (with_reducible exact Mem.ev_zero _ _ _) | (with_reducible (apply Eq.trans (Mem.ev_tmp _ _ _)); simp only [List.getD_cons_succ, List.getD_cons_zero] <;> rfl)) (fun wx => by go_simp) ?_
      (simp only [Act.put, List.setIfInBounds_toArray, List.set_cons_zero, List.set_cons_succ])
      refine plan_row_at 22 _ bx 0 32 _ AA K 25 (by rfl) (by rfl) (by rfl) (by first | (with_reducible exact Mem.ev_const _ _) | (with_reducible exact Mem.ev_zero _ _ _) | (with_reducible (apply Eq.trans (Mem.ev_tmp _ _ _)); simp only [List.getD_cons_succ, List.getD_cons_zero] <;> rfl)) (fun w' hw' => AX0.out.below hw'.1 AX0.out.lt) Tryd.underlying22 (by rfl) infoDg (by rw [MS.out]; decide) KK.out ?_
      (simp only [Act.put, List.setIfInBounds_toArray, List.set_cons_zero, List.set_cons_succ])
      refine plan_row 35 _ g _ X 35 (by rfl) (by rfl) (by rfl) (by first | (with_reducible exact Mem.ev_const _ _) | (with_reducible exact Mem.ev_zero _ _ _) | (with_reducible (apply Eq.trans (Mem.ev_tmp _ _ _)); simp only [List.getD_cons_succ, List.getD_cons_zero] <;> rfl)) (fun w' hw' => hw'.2) Tryd.underlying35 (by rfl) (by rw [XS.out]; exact infoRfP) ?_
      (simp only [Act.put, List.setIfInBounds_toArray, List.set_cons_zero, List.set_cons_succ])
      refine plan_field 25 _ 3 bx 0 ⟨bx, 34, none⟩ (by rfl) (by rfl) (by rfl) (by first | (with_reducible exact Mem.ev_const _ _) | (with_reducible exact Mem.ev_zero _ _ _) | (with_reducible (apply Eq.trans (Mem.ev_tmp _ _ _)); simp only [List.getD_cons_succ, List.getD_cons_zero] <;> rfl)) (fun wx => by go_simp) ?_
      (simp only [Act.put, List.setIfInBounds_toArray, List.set_cons_zero, List.set_cons_succ])
      refine plan_cell 3 _ _ (.int .i64 bl) _ (by rfl) (by rfl) (by rfl) (by first | (with_reducible exact Mem.ev_const _ _) | (with_reducible exact Mem.ev_zero _ _ _) | (with_reducible (apply Eq.trans (Mem.ev_tmp _ _ _)); simp only [List.getD_cons_succ, List.getD_cons_zero] <;> rfl)) (fun w' hw' => by rw [(AX0.out.below hw'.1 AX0.out.lt).cell]; exact K34.out) Tryd.underlying3 (by rfl) ?_
      (simp only [Act.put, List.setIfInBounds_toArray, List.set_cons_zero, List.set_cons_succ])
      (first | (refine plan_move _ _ (by rfl) (by rfl) (.inl (by rfl)) (by first | (with_reducible exact Mem.ev_const _ _) | (with_reducible exact Mem.ev_zero _ _ _) | (with_reducible (apply Eq.trans (Mem.ev_tmp _ _ _)); simp only [List.getD_cons_succ, List.getD_cons_zero] <;> rfl)) ?_) | (refine plan_move _ _ (by rfl) (by rfl) (.inr (by rfl)) (by first | (with_reducible exact Mem.ev_const _ _) | (with_reducible exact Mem.ev_zero _ _ _) | (with_reducible (apply Eq.trans (Mem.ev_tmp _ _ _)); simp only [List.getD_cons_succ, List.getD_cons_zero] <;> rfl)) ?_) | (refine plan_pick_t _ _ _ _ (by rfl) (by rfl) (by rfl) (by first | (with_reducible exact Mem.ev_const _ _) | (with_reducible exact Mem.ev_zero _ _ _) | (with_reducible (apply Eq.trans (Mem.ev_tmp _ _ _)); simp only [List.getD_cons_succ, List.getD_cons_zero] <;> rfl)) (by first | (with_reducible exact Mem.ev_const _ _) | (with_reducible exact Mem.ev_zero _ _ _) | (with_reducible (apply Eq.trans (Mem.ev_tmp _ _ _)); simp only [List.getD_cons_succ, List.getD_cons_zero] <;> rfl)) ?_) | (refine plan_pick_f _ _ _ _ (by rfl) (by rfl) (by rfl) (by first | (with_reducible exact Mem.ev_const _ _) | (with_reducible exact Mem.ev_zero _ _ _) | (with_reducible (apply Eq.trans (Mem.ev_tmp _ _ _)); simp only [List.getD_cons_succ, List.getD_cons_zero] <;> rfl)) (by first | (with_reducible exact Mem.ev_const _ _) | (with_reducible exact Mem.ev_zero _ _ _) | (with_reducible (apply Eq.trans (Mem.ev_tmp _ _ _)); simp only [List.getD_cons_succ, List.getD_cons_zero] <;> rfl)) ?_))
      (simp only [Act.put, List.setIfInBounds_toArray, List.set_cons_zero, List.set_cons_succ])
      refine plan_call 10 _ _ _ (by kernel_rfl) (by rfl) (by rfl) (by rfl) (by first | exact Mem.ev_none _ | (simp only [List.map_toArray, List.map_cons, List.map_nil, Mem.ev_tmp, List.getD_cons_succ, List.getD_cons_zero] <;> rfl)) ?_
      refine (PGO.out _ (O0.out.below D0.out.1)).mono ?_
      rintro o' y1 ⟨gq, rfl, hga, hgl, hb⟩
      have PS : Hid (SlB (fun k => wc.heap.size ≤ k) y1 (.slice (some ⟨gq, 0, none⟩) PO.length PO.length) PO) := Lib.hid (at_slB hga rfl hgl)
      rw [POL.out] at PS ⊢
      have D1 : Hid (Below w1.heap.size w1 y1 ∧ At y1 g X 35) := Lib.hid ⟨D0.out.1.trans (hb.mono D0.out.1.size), D0.out.2.below hb D0.out.2.lt⟩
      have BKA := Lib.hid ((BK1.out.below (Below.refl _ _).drew).below hb)
      have GSA : Hid (SlB (fun k => ¬ F1 k) y1 v3 L) := Lib.hid ((GS.out.below (Below.refl _ _).drew).below hb)
      have hpf : ∀ k, wc.heap.size ≤ k → ¬ F1 k := fun k hk hf => by have := BK1.out.lt k hf; omega
      have PF := Lib.hid hpf
      clear hga hgl hb hpf
      refine ⟨_, rfl, D1.out, ?_⟩
      (simp only [Act.put, List.setIfInBounds_toArray, List.set_cons_zero, List.set_cons_succ])
      refine plan_call 17 _ _ _ (by kernel_rfl) (by rfl) (by rfl) (by rfl) (by first | exact Mem.ev_none _ | (simp only [List.map_toArray, List.map_cons, List.map_nil, Mem.ev_tmp, List.getD_cons_succ, List.getD_cons_zero] <;> rfl)) ?_
      refine (OP.out F1 _ _ _ _ BKA.out PS.out PF.out D1.out.1 EX.out).mono ?_
      rintro o' y2 ⟨v5, F2, rfl, hs5, hbk2, hex2, hc⟩
      have hgbt : Below w1.heap.size w1 y2 := hc.below D1.out.1 EX.out D1.out.1.size
      have BK2 := Lib.hid hbk2; have VS2 : Hid (Sl y2 v5 ol) := Lib.hid hs5.sl; have XV2 : Hid (Sl y2 v3 L) := Lib.hid (SlB.sl (GSA.out.keep hc.size fun k hk hlt => hc.block k hlt hk))
      have GA2 := D1.out.2.chg hc NG.out
      clear hs5 hbk2 hex2 hc BKA GSA PS PF BK1 GS GA GB EX NG
      refine ⟨_, rfl, ⟨hgbt, GA2⟩, ?_⟩
      clear GA2
      (simp only [Act.put, List.setIfInBounds_toArray, List.set_cons_zero, List.set_cons_succ])
      (first | (refine plan_move _ _ (by rfl) (by rfl) (.inl (by rfl)) (by first | (with_reducible exact Mem.ev_const _ _) | (with_reducible exact Mem.ev_zero _ _ _) | (with_reducible (apply Eq.trans (Mem.ev_tmp _ _ _)); simp only [List.getD_cons_succ, List.getD_cons_zero] <;> rfl)) ?_) | (refine plan_move _ _ (by rfl) (by rfl) (.inr (by rfl)) (by first | (with_reducible exact Mem.ev_const _ _) | (with_reducible exact Mem.ev_zero _ _ _) | (with_reducible (apply Eq.trans (Mem.ev_tmp _ _ _)); simp only [List.getD_cons_succ, List.getD_cons_zero] <;> rfl)) ?_) | (refine plan_pick_t _ _ _ _ (by rfl) (by rfl) (by rfl) (by first | (with_reducible exact Mem.ev_const _ _) | (with_reducible exact Mem.ev_zero _ _ _) | (with_reducible (apply Eq.trans (Mem.ev_tmp _ _ _)); simp only [List.getD_cons_succ, List.getD_cons_zero] <;> rfl)) (by first | (with_reducible exact Mem.ev_const _ _) | (with_reducible exact Mem.ev_zero _ _ _) | (with_reducible (apply Eq.trans (Mem.ev_tmp _ _ _)); simp only [List.getD_cons_succ, List.getD_cons_zero] <;> rfl)) ?_) | (refine plan_pick_f _ _ _ _ (by rfl) (by rfl) (by rfl) (by first | (with_reducible exact Mem.ev_const _ _) | (with_reducible exact Mem.ev_zero _ _ _) | (with_reducible (apply Eq.trans (Mem.ev_tmp _ _ _)); simp only [List.getD_cons_succ, List.getD_cons_zero] <;> rfl)) (by first | (with_reducible exact Mem.ev_const _ _) | (with_reducible exact Mem.ev_zero _ _ _) | (with_reducible (apply Eq.trans (Mem.ev_tmp _ _ _)); simp only [List.getD_cons_succ, List.getD_cons_zero] <;> rfl)) ?_))
      (simp only [Act.put, List.setIfInBounds_toArray, List.set_cons_zero, List.set_cons_succ])
      refine plan_extract _ _ #[v5, (.int .i64 on)] v5 (by rfl) (by rfl) (by rfl) (by first | (with_reducible exact Mem.ev_const _ _) | (with_reducible exact Mem.ev_zero _ _ _) | (with_reducible (apply Eq.trans (Mem.ev_tmp _ _ _)); simp only [List.getD_cons_succ, List.getD_cons_zero] <;> rfl)) (by rfl) ?_
      (simp only [Act.put, List.setIfInBounds_toArray, List.set_cons_zero, List.set_cons_succ])
      refine plan_extract _ _ #[v5, (.int .i64 on)] (.int .i64 on) (by rfl) (by rfl) (by rfl) (by first | (with_reducible exact Mem.ev_const _ _) | (with_reducible exact Mem.ev_zero _ _ _) | (with_reducible (apply Eq.trans (Mem.ev_tmp _ _ _)); simp only [List.getD_cons_succ, List.getD_cons_zero] <;> rfl)) (by rfl) ?_
      (simp only [Act.put, List.setIfInBounds_toArray, List.set_cons_zero, List.set_cons_succ])
      (first | (refine plan_move _ _ (by rfl) (by rfl) (.inl (by rfl)) (by first | (with_reducible exact Mem.ev_const _ _) | (with_reducible exact Mem.ev_zero _ _ _) | (with_reducible (apply Eq.trans (Mem.ev_tmp _ _ _)); simp only [List.getD_cons_succ, List.getD_cons_zero] <;> rfl)) ?_) | (refine plan_move _ _ (by rfl) (by rfl) (.inr (by rfl)) (by first | (with_reducible exact Mem.ev_const _ _) | (with_reducible exact Mem.ev_zero _ _ _) | (with_reducible (apply Eq.trans (Mem.ev_tmp _ _ _)); simp only [List.getD_cons_succ, List.getD_cons_zero] <;> rfl)) ?_) | (refine plan_pick_t _ _ _ _ (by rfl) (by rfl) (by rfl) (by first | (with_reducible exact Mem.ev_const _ _) | (with_reducible exact Mem.ev_zero _ _ _) | (with_reducible (apply Eq.trans (Mem.ev_tmp _ _ _)); simp only [List.getD_cons_succ, List.getD_cons_zero] <;> rfl)) (by first | (with_reducible exact Mem.ev_const _ _) | (with_reducible exact Mem.ev_zero _ _ _) | (with_reducible (apply Eq.trans (Mem.ev_tmp _ _ _)); simp only [List.getD_cons_succ, List.getD_cons_zero] <;> rfl)) ?_) | (refine plan_pick_f _ _ _ _ (by rfl) (by rfl) (by rfl) (by first | (with_reducible exact Mem.ev_const _ _) | (with_reducible exact Mem.ev_zero _ _ _) | (with_reducible (apply Eq.trans (Mem.ev_tmp _ _ _)); simp only [List.getD_cons_succ, List.getD_cons_zero] <;> rfl)) (by first | (with_reducible exact Mem.ev_const _ _) | (with_reducible exact Mem.ev_zero _ _ _) | (with_reducible (apply Eq.trans (Mem.ev_tmp _ _ _)); simp only [List.getD_cons_succ, List.getD_cons_zero] <;> rfl)) ?_))
      (simp only [Act.put, List.setIfInBounds_toArray, List.set_cons_zero, List.set_cons_succ])
      (first | (refine plan_move _ _ (by rfl) (by rfl) (.inl (by rfl)) (by first | (with_reducible exact Mem.ev_const _ _) | (with_reducible exact Mem.ev_zero _ _ _) | (with_reducible (apply Eq.trans (Mem.ev_tmp _ _ _)); simp only [List.getD_cons_succ, List.getD_cons_zero] <;> rfl)) ?_) | (refine plan_move _ _ (by rfl) (by rfl) (.inr (by rfl)) (by first | (with_reducible exact Mem.ev_const _ _) | (with_reducible exact Mem.ev_zero _ _ _) | (with_reducible (apply Eq.trans (Mem.ev_tmp _ _ _)); simp only [List.getD_cons_succ, List.getD_cons_zero] <;> rfl)) ?_) | (refine plan_pick_t _ _ _ _ (by rfl) (by rfl) (by rfl) (by first | (with_reducible exact Mem.ev_const _ _) | (with_reducible exact Mem.ev_zero _ _ _) | (with_reducible (apply Eq.trans (Mem.ev_tmp _ _ _)); simp only [List.getD_cons_succ, List.getD_cons_zero] <;> rfl)) (by first | (with_reducible exact Mem.ev_const _ _) | (with_reducible exact Mem.ev_zero _ _ _) | (with_reducible (apply Eq.trans (Mem.ev_tmp _ _ _)); simp only [List.getD_cons_succ, List.getD_cons_zero] <;> rfl)) ?_) | (refine plan_pick_f _ _ _ _ (by rfl) (by rfl) (by rfl) (by first | (with_reducible exact Mem.ev_const _ _) | (with_reducible exact Mem.ev_zero _ _ _) | (with_reducible (apply Eq.trans (Mem.ev_tmp _ _ _)); simp only [List.getD_cons_succ, List.getD_cons_zero] <;> rfl)) (by first | (with_reducible exact Mem.ev_const _ _) | (with_reducible exact Mem.ev_zero _ _ _) | (with_reducible (apply Eq.trans (Mem.ev_tmp _ _ _)); simp only [List.getD_cons_succ, List.getD_cons_zero] <;> rfl)) ?_))
      (simp only [Act.put, List.setIfInBounds_toArray, List.set_cons_zero, List.set_cons_succ])
      refine plan_nil ?_
      go_wp2_with fail
      refine (ptexts_any y2 BK2.out.bk (by simp) (fun t ht => by
        rcases List.mem_cons.1 ht with rfl | ht
        · rw [LL.out]; decide
        · rw [List.mem_singleton.1 ht, POL.out]; decide)).mono ?_
      rintro e w6 ⟨v6, rfl, hs6, hb6⟩
      obtain ⟨a6, c6, rfl⟩ : ∃ a c, v6 = .slice a 2 c := by
        obtain ⟨a6, c6, e, _⟩ := id hs6
        exact ⟨a6, c6, e⟩
      obtain ⟨pb, po, q0, rfl, hpb, hc0, hq0⟩ := sls_at hs6 (i := 0) (by simp)
      obtain ⟨pb', po', q1, ea, _, hc1, hq1⟩ := sls_at hs6 (i := 1) (by simp)
      have e7 : pb = pb' ∧ po = po' := by simpa using ea
      obtain ⟨rfl, rfl⟩ := e7
      clear ea
      have hq0 : Sl w6 q0 L := hq0
      have hq1 : Sl w6 q1 PO := hq1
      obtain ⟨a2, c2, rfl⟩ := sl_inv hq0
      obtain ⟨a3, c3, rfl⟩ := sl_inv hq1
      rw [LL.out] at hc0 hq0
      rw [POL.out] at hc1 hq1
      have hb6' := hgbt.trans (hb6.mono hgbt.size)
      have S6 := Lib.hid hs6; have PB := Lib.hid hpb; have C0 := Lib.hid hc0; have C1 := Lib.hid hc1; have Q0 := Lib.hid hq0; have Q1 := Lib.hid hq1; have V6 := Lib.hid (VS2.out.below hb6); have X6 := Lib.hid (XV2.out.below hb6)
      have BK6 := Lib.hid (((BK2.out.below hb6).below (Below.refl _ _).drew).bk); have B6 : Hid (Below w1.heap.size w1 w6) := Lib.hid hb6'
      clear hs6 hpb hc0 hc1 hq0 hq1 hb6 hb6' hgbt BK2 VS2 XV2
      have E0 : Hid (Below w6.heap.size w6 w6.drew) := Lib.hid (Below.refl _ _).drew
      go_wp2_with fail
      refine wp_region_plan_in (fun x' => Below w6.heap.size w6 x') (.take 0 (.take 1 (.take 2 (.take 3 (.take 4 (.take 5 (.take 6 (.take 7 (.sole 8 (.take 9 (.take 10 (.take 11 (.take 12 (.take 13 (.take 14 (.take 15 (.sole 16 (.take 17 (.take 18 (.take 19 (.take 20 (.take 21 (.take 22 (.take 23 (.sole 24 (.sole 25 (.take 26 (.take 27 .done)))))))))))))))))))))))))))) (by kernel_rfl) (by kernel_rfl) (by kernel_rfl) E0.out ?_
      (first | (refine plan_move _ _ (by rfl) (by rfl) (.inl (by rfl)) (by first | (with_reducible exact Mem.ev_const _ _) | (with_reducible exact Mem.ev_zero _ _ _) | (with_reducible (apply Eq.trans (Mem.ev_tmp _ _ _)); simp only [List.getD_cons_succ, List.getD_cons_zero] <;> rfl)) ?_) | (refine plan_move _ _ (by rfl) (by rfl) (.inr (by rfl)) (by first | (with_reducible exact Mem.ev_const _ _) | (with_reducible exact Mem.ev_zero _ _ _) | (with_reducible (apply Eq.trans (Mem.ev_tmp _ _ _)); simp only [List.getD_cons_succ, List.getD_cons_zero] <;> rfl)) ?_) | (refine plan_pick_t _ _ _ _ (by rfl) (by rfl) (by rfl) (by first | (with_reducible exact Mem.ev_const _ _) | (with_reducible exact Mem.ev_zero _ _ _) | (with_reducible (apply Eq.trans (Mem.ev_tmp _ _ _)); simp only [List.getD_cons_succ, List.getD_cons_zero] <;> rfl)) (by first | (with_reducible exact Mem.ev_const _ _) | (with_reducible exact Mem.ev_zero _ _ _) | (with_reducible (apply Eq.trans (Mem.ev_tmp _ _ _)); simp only [List.getD_cons_succ, List.getD_cons_zero] <;> rfl)) ?_) | (refine plan_pick_f _ _ _ _ (by rfl) (by rfl) (by rfl) (by first | (with_reducible exact Mem.ev_const _ _) | (with_reducible exact Mem.ev_zero _ _ _) | (with_reducible (apply Eq.trans (Mem.ev_tmp _ _ _)); simp only [List.getD_cons_succ, List.getD_cons_zero] <;> rfl)) (by first | (with_reducible exact Mem.ev_const _ _) | (with_reducible exact Mem.ev_zero _ _ _) | (with_reducible (apply Eq.trans (Mem.ev_tmp _ _ _)); simp only [List.getD_cons_succ, List.getD_cons_zero] <;> rfl)) ?_))
      (simp only [Act.put, List.setIfInBounds_toArray, List.set_cons_zero, List.set_cons_succ])
      refine plan_bin _ _ _ _ _ _ _ (.bool false) (by rfl) (by rfl) (by rfl) (by first | (with_reducible exact Mem.ev_const _ _) | (with_reducible exact Mem.ev_zero _ _ _) | (with_reducible (apply Eq.trans (Mem.ev_tmp _ _ _)); simp only [List.getD_cons_succ, List.getD_cons_zero] <;> rfl)) (by rfl) (fun wx => k_neqI _ _ _ _ _ wx) ?_
      (simp only [Act.put, List.setIfInBounds_toArray, List.set_cons_zero, List.set_cons_succ])
      (first | (refine plan_move _ _ (by rfl) (by rfl) (.inl (by rfl)) (by first | (with_reducible exact Mem.ev_const _ _) | (with_reducible exact Mem.ev_zero _ _ _) | (with_reducible (apply Eq.trans (Mem.ev_tmp _ _ _)); simp only [List.getD_cons_succ, List.getD_cons_zero] <;> rfl)) ?_) | (refine plan_move _ _ (by rfl) (by rfl) (.inr (by rfl)) (by first | (with_reducible exact Mem.ev_const _ _) | (with_reducible exact Mem.ev_zero _ _ _) | (with_reducible (apply Eq.trans (Mem.ev_tmp _ _ _)); simp only [List.getD_cons_succ, List.getD_cons_zero] <;> rfl)) ?_) | (refine plan_pick_t _ _ _ _ (by rfl) (by rfl) (by rfl) (by first | (with_reducible exact Mem.ev_const _ _) | (with_reducible exact Mem.ev_zero _ _ _) | (with_reducible (apply Eq.trans (Mem.ev_tmp _ _ _)); simp only [List.getD_cons_succ, List.getD_cons_zero] <;> rfl)) (by first | (with_reducible exact Mem.ev_const _ _) | (with_reducible exact Mem.ev_zero _ _ _) | (with_reducible (apply Eq.trans (Mem.ev_tmp _ _ _)); simp only [List.getD_cons_succ, List.getD_cons_zero] <;> rfl)) ?_) | (refine plan_pick_f _ _ _ _ (by rfl) (by rfl) (by rfl) (by first | (with_reducible exact Mem.ev_const _ _) | (with_reducible exact Mem.ev_zero _ _ _) | (with_reducible (apply Eq.trans (Mem.ev_tmp _ _ _)); simp only [List.getD_cons_succ, List.getD_cons_zero] <;> rfl)) (by first | (with_reducible exact Mem.ev_const _ _) | (with_reducible exact Mem.ev_zero _ _ _) | (with_reducible (apply Eq.trans (Mem.ev_tmp _ _ _)); simp only [List.getD_cons_succ, List.getD_cons_zero] <;> rfl)) ?_))
      (simp only [Act.put, List.setIfInBounds_toArray, List.set_cons_zero, List.set_cons_succ])
      (first | (refine plan_move _ _ (by rfl) (by rfl) (.inl (by rfl)) (by first | (with_reducible exact Mem.ev_const _ _) | (with_reducible exact Mem.ev_zero _ _ _) | (with_reducible (apply Eq.trans (Mem.ev_tmp _ _ _)); simp only [List.getD_cons_succ, List.getD_cons_zero] <;> rfl)) ?_) | (refine plan_move _ _ (by rfl) (by rfl) (.inr (by rfl)) (by first | (with_reducible exact Mem.ev_const _ _) | (with_reducible exact Mem.ev_zero _ _ _) | (with_reducible (apply Eq.trans (Mem.ev_tmp _ _ _)); simp only [List.getD_cons_succ, List.getD_cons_zero] <;> rfl)) ?_) | (refine plan_pick_t _ _ _ _ (by rfl) (by rfl) (by rfl) (by first | (with_reducible exact Mem.ev_const _ _) | (with_reducible exact Mem.ev_zero _ _ _) | (with_reducible (apply Eq.trans (Mem.ev_tmp _ _ _)); simp only [List.getD_cons_succ, List.getD_cons_zero] <;> rfl)) (by first | (with_reducible exact Mem.ev_const _ _) | (with_reducible exact Mem.ev_zero _ _ _) | (with_reducible (apply Eq.trans (Mem.ev_tmp _ _ _)); simp only [List.getD_cons_succ, List.getD_cons_zero] <;> rfl)) ?_) | (refine plan_pick_f _ _ _ _ (by rfl) (by rfl) (by rfl) (by first | (with_reducible exact Mem.ev_const _ _) | (with_reducible exact Mem.ev_zero _ _ _) | (with_reducible (apply Eq.trans (Mem.ev_tmp _ _ _)); simp only [List.getD_cons_succ, List.getD_cons_zero] <;> rfl)) (by first | (with_reducible exact Mem.ev_const _ _) | (with_reducible exact Mem.ev_zero _ _ _) | (with_reducible (apply Eq.trans (Mem.ev_tmp _ _ _)); simp only [List.getD_cons_succ, List.getD_cons_zero] <;> rfl)) ?_))
      (simp only [Act.put, List.setIfInBounds_toArray, List.set_cons_zero, List.set_cons_succ])
      refine plan_len _ _ _ _ 2 _ (by rfl) (by rfl) (by rfl) (by rfl) (by first | (with_reducible exact Mem.ev_const _ _) | (with_reducible exact Mem.ev_zero _ _ _) | (with_reducible (apply Eq.trans (Mem.ev_tmp _ _ _)); simp only [List.getD_cons_succ, List.getD_cons_zero] <;> rfl)) (fun wx => by go_simp) ?_
      (simp only [Act.put, List.setIfInBounds_toArray, List.set_cons_zero, List.set_cons_succ])
      refine plan_bin _ _ _ _ _ _ _ (.bool false) (by rfl) (by rfl) (by rfl) (by first | (with_reducible exact Mem.ev_const _ _) | (with_reducible exact Mem.ev_zero _ _ _) | (with_reducible (apply Eq.trans (Mem.ev_tmp _ _ _)); simp only [List.getD_cons_succ, List.getD_cons_zero] <;> rfl)) (by rfl) (fun wx => k_neqI _ _ _ _ _ wx) ?_
      (simp only [Act.put, List.setIfInBounds_toArray, List.set_cons_zero, List.set_cons_succ])
      refine plan_pick_f _ _ _ _ (by rfl) (by rfl) (by rfl) (by first | (with_reducible exact Mem.ev_const _ _) | (with_reducible exact Mem.ev_zero _ _ _) | (with_reducible (apply Eq.trans (Mem.ev_tmp _ _ _)); simp only [List.getD_cons_succ, List.getD_cons_zero] <;> rfl)) (by first | (with_reducible exact Mem.ev_const _ _) | (with_reducible exact Mem.ev_zero _ _ _) | (with_reducible (apply Eq.trans (Mem.ev_tmp _ _ _)); simp only [List.getD_cons_succ, List.getD_cons_zero] <;> rfl)) ?_
      (simp only [Act.put, List.setIfInBounds_toArray, List.set_cons_zero, List.set_cons_succ])
      (first | (refine plan_move _ _ (by rfl) (by rfl) (.inl (by rfl)) (by first | (with_reducible exact Mem.ev_const _ _) | (with_reducible exact Mem.ev_zero _ _ _) | (with_reducible (apply Eq.trans (Mem.ev_tmp _ _ _)); simp only [List.getD_cons_succ, List.getD_cons_zero] <;> rfl)) ?_) | (refine plan_move _ _ (by rfl) (by rfl) (.inr (by rfl)) (by first | (with_reducible exact Mem.ev_const _ _) | (with_reducible exact Mem.ev_zero _ _ _) | (with_reducible (apply Eq.trans (Mem.ev_tmp _ _ _)); simp only [List.getD_cons_succ, List.getD_cons_zero] <;> rfl)) ?_) | (refine plan_pick_t _ _ _ _ (by rfl) (by rfl) (by rfl) (by first | (with_reducible exact Mem.ev_const _ _) | (with_reducible exact Mem.ev_zero _ _ _) | (with_reducible (apply Eq.trans (Mem.ev_tmp _ _ _)); simp only [List.getD_cons_succ, List.getD_cons_zero] <;> rfl)) (by first | (with_reducible exact Mem.ev_const _ _) | (with_reducible exact Mem.ev_zero _ _ _) | (with_reducible (apply Eq.trans (Mem.ev_tmp _ _ _)); simp only [List.getD_cons_succ, List.getD_cons_zero] <;> rfl)) ?_) | (refine plan_pick_f _ _ _ _ (by rfl) (by rfl) (by rfl) (by first | (with_reducible exact Mem.ev_const _ _) | (with_reducible exact Mem.ev_zero _ _ _) | (with_reducible (apply Eq.trans (Mem.ev_tmp _ _ _)); simp only [List.getD_cons_succ, List.getD_cons_zero] <;> rfl)) (by first | (with_reducible exact Mem.ev_const _ _) | (with_reducible exact Mem.ev_zero _ _ _) | (with_reducible (apply Eq.trans (Mem.ev_tmp _ _ _)); simp only [List.getD_cons_succ, List.getD_cons_zero] <;> rfl)) ?_))
      (simp only [Act.put, List.setIfInBounds_toArray, List.set_cons_zero, List.set_cons_succ])
      refine plan_call 25 _ _ _ (by kernel_rfl) (by rfl) (by rfl) (by rfl) (by first | exact Mem.ev_none _ | (simp only [List.map_toArray, List.map_cons, List.map_nil, Mem.ev_tmp, List.getD_cons_succ, List.getD_cons_zero] <;> rfl)) ?_
      refine (plen9_any _ BK6.out).mono ?_
      rintro o' y3 ⟨rfl, rfl⟩
      refine ⟨_, rfl, E0.out, ?_⟩
      (simp only [Act.put, List.setIfInBounds_toArray, List.set_cons_zero, List.set_cons_succ])
      refine plan_bin _ _ _ _ _ _ _ (.bool false) (by rfl) (by rfl) (by rfl) (by first | (with_reducible exact Mem.ev_const _ _) | (with_reducible exact Mem.ev_zero _ _ _) | (with_reducible (apply Eq.trans (Mem.ev_tmp _ _ _)); simp only [List.getD_cons_succ, List.getD_cons_zero] <;> rfl)) (by rfl) (fun wx => k_neqI _ _ _ _ _ wx) ?_
      (simp only [Act.put, List.setIfInBounds_toArray, List.set_cons_zero, List.set_cons_succ])
      refine plan_pick_f _ _ _ _ (by rfl) (by rfl) (by rfl) (by first | (with_reducible exact Mem.ev_const _ _) | (with_reducible exact Mem.ev_zero _ _ _) | (with_reducible (apply Eq.trans (Mem.ev_tmp _ _ _)); simp only [List.getD_cons_succ, List.getD_cons_zero] <;> rfl)) (by first | (with_reducible exact Mem.ev_const _ _) | (with_reducible exact Mem.ev_zero _ _ _) | (with_reducible (apply Eq.trans (Mem.ev_tmp _ _ _)); simp only [List.getD_cons_succ, List.getD_cons_zero] <;> rfl)) ?_
      (simp only [Act.put, List.setIfInBounds_toArray, List.set_cons_zero, List.set_cons_succ])
      (first | (refine plan_move _ _ (by rfl) (by rfl) (.inl (by rfl)) (by first | (with_reducible exact Mem.ev_const _ _) | (with_reducible exact Mem.ev_zero _ _ _) | (with_reducible (apply Eq.trans (Mem.ev_tmp _ _ _)); simp only [List.getD_cons_succ, List.getD_cons_zero] <;> rfl)) ?_) | (refine plan_move _ _ (by rfl) (by rfl) (.inr (by rfl)) (by first | (with_reducible exact Mem.ev_const _ _) | (with_reducible exact Mem.ev_zero _ _ _) | (with_reducible (apply Eq.trans (Mem.ev_tmp _ _ _)); simp only [List.getD_cons_succ, List.getD_cons_zero] <;> rfl)) ?_) | (refine plan_pick_t _ _ _ _ (by rfl) (by rfl) (by rfl) (by first | (with_reducible exact Mem.ev_const _ _) | (with_reducible exact Mem.ev_zero _ _ _) | (with_reducible (apply Eq.trans (Mem.ev_tmp _ _ _)); simp only [List.getD_cons_succ, List.getD_cons_zero] <;> rfl)) (by first | (with_reducible exact Mem.ev_const _ _) | (with_reducible exact Mem.ev_zero _ _ _) | (with_reducible (apply Eq.trans (Mem.ev_tmp _ _ _)); simp only [List.getD_cons_succ, List.getD_cons_zero] <;> rfl)) ?_) | (refine plan_pick_f _ _ _ _ (by rfl) (by rfl) (by rfl) (by first | (with_reducible exact Mem.ev_const _ _) | (with_reducible exact Mem.ev_zero _ _ _) | (with_reducible (apply Eq.trans (Mem.ev_tmp _ _ _)); simp only [List.getD_cons_succ, List.getD_cons_zero] <;> rfl)) (by first | (with_reducible exact Mem.ev_const _ _) | (with_reducible exact Mem.ev_zero _ _ _) | (with_reducible (apply Eq.trans (Mem.ev_tmp _ _ _)); simp only [List.getD_cons_succ, List.getD_cons_zero] <;> rfl)) ?_))
      (simp only [Act.put, List.setIfInBounds_toArray, List.set_cons_zero, List.set_cons_succ])
      (first | (refine plan_move _ _ (by rfl) (by rfl) (.inl (by rfl)) (by first | (with_reducible exact Mem.ev_const _ _) | (with_reducible exact Mem.ev_zero _ _ _) | (with_reducible (apply Eq.trans (Mem.ev_tmp _ _ _)); simp only [List.getD_cons_succ, List.getD_cons_zero] <;> rfl)) ?_) | (refine plan_move _ _ (by rfl) (by rfl) (.inr (by rfl)) (by first | (with_reducible exact Mem.ev_const _ _) | (with_reducible exact Mem.ev_zero _ _ _) | (with_reducible (apply Eq.trans (Mem.ev_tmp _ _ _)); simp only [List.getD_cons_succ, List.getD_cons_zero] <;> rfl)) ?_) | (refine plan_pick_t _ _ _ _ (by rfl) (by rfl) (by rfl) (by first | (with_reducible exact Mem.ev_const _ _) | (with_reducible exact Mem.ev_zero _ _ _) | (with_reducible (apply Eq.trans (Mem.ev_tmp _ _ _)); simp only [List.getD_cons_succ, List.getD_cons_zero] <;> rfl)) (by first | (with_reducible exact Mem.ev_const _ _) | (with_reducible exact Mem.ev_zero _ _ _) | (with_reducible (apply Eq.trans (Mem.ev_tmp _ _ _)); simp only [List.getD_cons_succ, List.getD_cons_zero] <;> rfl)) ?_) | (refine plan_pick_f _ _ _ _ (by rfl) (by rfl) (by rfl) (by first | (with_reducible exact Mem.ev_const _ _) | (with_reducible exact Mem.ev_zero _ _ _) | (with_reducible (apply Eq.trans (Mem.ev_tmp _ _ _)); simp only [List.getD_cons_succ, List.getD_cons_zero] <;> rfl)) (by first | (with_reducible exact Mem.ev_const _ _) | (with_reducible exact Mem.ev_zero _ _ _) | (with_reducible (apply Eq.trans (Mem.ev_tmp _ _ _)); simp only [List.getD_cons_succ, List.getD_cons_zero] <;> rfl)) ?_))
      (simp only [Act.put, List.setIfInBounds_toArray, List.set_cons_zero, List.set_cons_succ])
      refine plan_index 44 26 _ _ pb po 2 c6 0 (by rfl) (by rfl) (by rfl) (by first | (with_reducible exact Mem.ev_const _ _) | (with_reducible exact Mem.ev_zero _ _ _) | (with_reducible (apply Eq.trans (Mem.ev_tmp _ _ _)); simp only [List.getD_cons_succ, List.getD_cons_zero] <;> rfl)) (by rfl) (by decide) Tryd.underlying44 (by kernel_rfl) ?_
      (simp only [Act.put, List.setIfInBounds_toArray, List.set_cons_zero, List.set_cons_succ])
      refine plan_cell 26 _ _ (.slice a2 256 c2) _ (by rfl) (by rfl) (by rfl) (by first | (with_reducible exact Mem.ev_const _ _) | (with_reducible exact Mem.ev_zero _ _ _) | (with_reducible (apply Eq.trans (Mem.ev_tmp _ _ _)); simp only [List.getD_cons_succ, List.getD_cons_zero] <;> rfl)) (fun w' hw' => by rw [(hw' : Below w6.heap.size w6 w').cell (p := ⟨pb, po + 0, none⟩) PB.out]; exact C0.out) Tryd.underlying26 (by rfl) ?_
      (simp only [Act.put, List.setIfInBounds_toArray, List.set_cons_zero, List.set_cons_succ])
      (first | (refine plan_move _ _ (by rfl) (by rfl) (.inl (by rfl)) (by first | (with_reducible exact Mem.ev_const _ _) | (with_reducible exact Mem.ev_zero _ _ _) | (with_reducible (apply Eq.trans (Mem.ev_tmp _ _ _)); simp only [List.getD_cons_succ, List.getD_cons_zero] <;> rfl)) ?_) | (refine plan_move _ _ (by rfl) (by rfl) (.inr (by rfl)) (by first | (with_reducible exact Mem.ev_const _ _) | (with_reducible exact Mem.ev_zero _ _ _) | (with_reducible (apply Eq.trans (Mem.ev_tmp _ _ _)); simp only [List.getD_cons_succ, List.getD_cons_zero] <;> rfl)) ?_) | (refine plan_pick_t _ _ _ _ (by rfl) (by rfl) (by rfl) (by first | (with_reducible exact Mem.ev_const _ _) | (with_reducible exact Mem.ev_zero _ _ _) | (with_reducible (apply Eq.trans (Mem.ev_tmp _ _ _)); simp only [List.getD_cons_succ, List.getD_cons_zero] <;> rfl)) (by first | (with_reducible exact Mem.ev_const _ _) | (with_reducible exact Mem.ev_zero _ _ _) | (with_reducible (apply Eq.trans (Mem.ev_tmp _ _ _)); simp only [List.getD_cons_succ, List.getD_cons_zero] <;> rfl)) ?_) | (refine plan_pick_f _ _ _ _ (by rfl) (by rfl) (by rfl) (by first | (with_reducible exact Mem.ev_const _ _) | (with_reducible exact Mem.ev_zero _ _ _) | (with_reducible (apply Eq.trans (Mem.ev_tmp _ _ _)); simp only [List.getD_cons_succ, List.getD_cons_zero] <;> rfl)) (by first | (with_reducible exact Mem.ev_const _ _) | (with_reducible exact Mem.ev_zero _ _ _) | (with_reducible (apply Eq.trans (Mem.ev_tmp _ _ _)); simp only [List.getD_cons_succ, List.getD_cons_zero] <;> rfl)) ?_))
      (simp only [Act.put, List.setIfInBounds_toArray, List.set_cons_zero, List.set_cons_succ])
      refine plan_call 15 _ _ _ (by kernel_rfl) (by rfl) (by rfl) (by rfl) (by first | exact Mem.ev_none _ | (simp only [List.map_toArray, List.map_cons, List.map_nil, Mem.ev_tmp, List.getD_cons_succ, List.getD_cons_zero] <;> rfl)) ?_
      refine (same_any L L _ _ _ (Q0.out.below E0.out) (X6.out.below E0.out) (by rw [LL.out]; decide) (by rw [LL.out]; decide)).mono ?_
      rw [sameB_self]
      rintro o' y3 ⟨rfl, hb⟩
      have E1 : Hid (Below w6.heap.size w6 y3) := Lib.hid (E0.out.trans (hb.mono E0.out.size))
      clear hb
      refine ⟨_, rfl, E1.out, ?_⟩
      (simp only [Act.put, List.setIfInBounds_toArray, List.set_cons_zero, List.set_cons_succ])
      refine plan_not_t _ _ (by rfl) (by rfl) (by rfl) (by first | (with_reducible exact Mem.ev_const _ _) | (with_reducible exact Mem.ev_zero _ _ _) | (with_reducible (apply Eq.trans (Mem.ev_tmp _ _ _)); simp only [List.getD_cons_succ, List.getD_cons_zero] <;> rfl)) ?_
      (simp only [Act.put, List.setIfInBounds_toArray, List.set_cons_zero, List.set_cons_succ])
      refine plan_pick_f _ _ _ _ (by rfl) (by rfl) (by rfl) (by first | (with_reducible exact Mem.ev_const _ _) | (with_reducible exact Mem.ev_zero _ _ _) | (with_reducible (apply Eq.trans (Mem.ev_tmp _ _ _)); simp only [List.getD_cons_succ, List.getD_cons_zero] <;> rfl)) (by first | (with_reducible exact Mem.ev_const _ _) | (with_reducible exact Mem.ev_zero _ _ _) | (with_reducible (apply Eq.trans (Mem.ev_tmp _ _ _)); simp only [List.getD_cons_succ, List.getD_cons_zero] <;> rfl)) ?_
      (simp only [Act.put, List.setIfInBounds_toArray, List.set_cons_zero, List.set_cons_succ])
      (first | (refine plan_move _ _ (by rfl) (by rfl) (.inl (by rfl)) (by first | (with_reducible exact Mem.ev_const _ _) | (with_reducible exact Mem.ev_zero _ _ _) | (with_reducible (apply Eq.trans (Mem.ev_tmp _ _ _)); simp only [List.getD_cons_succ, List.getD_cons_zero] <;> rfl)) ?_) | (refine plan_move _ _ (by rfl) (by rfl) (.inr (by rfl)) (by first | (with_reducible exact Mem.ev_const _ _) | (with_reducible exact Mem.ev_zero _ _ _) | (with_reducible (apply Eq.trans (Mem.ev_tmp _ _ _)); simp only [List.getD_cons_succ, List.getD_cons_zero] <;> rfl)) ?_) | (refine plan_pick_t _ _ _ _ (by rfl) (by rfl) (by rfl) (by first | (with_reducible exact Mem.ev_const _ _) | (with_reducible exact Mem.ev_zero _ _ _) | (with_reducible (apply Eq.trans (Mem.ev_tmp _ _ _)); simp only [List.getD_cons_succ, List.getD_cons_zero] <;> rfl)) (by first | (with_reducible exact Mem.ev_const _ _) | (with_reducible exact Mem.ev_zero _ _ _) | (with_reducible (apply Eq.trans (Mem.ev_tmp _ _ _)); simp only [List.getD_cons_succ, List.getD_cons_zero] <;> rfl)) ?_) | (refine plan_pick_f _ _ _ _ (by rfl) (by rfl) (by rfl) (by first | (with_reducible exact Mem.ev_const _ _) | (with_reducible exact Mem.ev_zero _ _ _) | (with_reducible (apply Eq.trans (Mem.ev_tmp _ _ _)); simp only [List.getD_cons_succ, List.getD_cons_zero] <;> rfl)) (by first | (with_reducible exact Mem.ev_const _ _) | (with_reducible exact Mem.ev_zero _ _ _) | (with_reducible (apply Eq.trans (Mem.ev_tmp _ _ _)); simp only [List.getD_cons_succ, List.getD_cons_zero] <;> rfl)) ?_))
      (simp only [Act.put, List.setIfInBounds_toArray, List.set_cons_zero, List.set_cons_succ])
      (first | (refine plan_move _ _ (by rfl) (by rfl) (.inl (by rfl)) (by first | (with_reducible exact Mem.ev_const _ _) | (with_reducible exact Mem.ev_zero _ _ _) | (with_reducible (apply Eq.trans (Mem.ev_tmp _ _ _)); simp only [List.getD_cons_succ, List.getD_cons_zero] <;> rfl)) ?_) | (refine plan_move _ _ (by rfl) (by rfl) (.inr (by rfl)) (by first | (with_reducible exact Mem.ev_const _ _) | (with_reducible exact Mem.ev_zero _ _ _) | (with_reducible (apply Eq.trans (Mem.ev_tmp _ _ _)); simp only [List.getD_cons_succ, List.getD_cons_zero] <;> rfl)) ?_) | (refine plan_pick_t _ _ _ _ (by rfl) (by rfl) (by rfl) (by first | (with_reducible exact Mem.ev_const _ _) | (with_reducible exact Mem.ev_zero _ _ _) | (with_reducible (apply Eq.trans (Mem.ev_tmp _ _ _)); simp only [List.getD_cons_succ, List.getD_cons_zero] <;> rfl)) (by first | (with_reducible exact Mem.ev_const _ _) | (with_reducible exact Mem.ev_zero _ _ _) | (with_reducible (apply Eq.trans (Mem.ev_tmp _ _ _)); simp only [List.getD_cons_succ, List.getD_cons_zero] <;> rfl)) ?_) | (refine plan_pick_f _ _ _ _ (by rfl) (by rfl) (by rfl) (by first | (with_reducible exact Mem.ev_const _ _) | (with_reducible exact Mem.ev_zero _ _ _) | (with_reducible (apply Eq.trans (Mem.ev_tmp _ _ _)); simp only [List.getD_cons_succ, List.getD_cons_zero] <;> rfl)) (by first | (with_reducible exact Mem.ev_const _ _) | (with_reducible exact Mem.ev_zero _ _ _) | (with_reducible (apply Eq.trans (Mem.ev_tmp _ _ _)); simp only [List.getD_cons_succ, List.getD_cons_zero] <;> rfl)) ?_))
      (simp only [Act.put, List.setIfInBounds_toArray, List.set_cons_zero, List.set_cons_succ])
      refine plan_index 44 26 _ _ pb po 2 c6 1 (by rfl) (by rfl) (by rfl) (by first | (with_reducible exact Mem.ev_const _ _) | (with_reducible exact Mem.ev_zero _ _ _) | (with_reducible (apply Eq.trans (Mem.ev_tmp _ _ _)); simp only [List.getD_cons_succ, List.getD_cons_zero] <;> rfl)) (by rfl) (by decide) Tryd.underlying44 (by kernel_rfl) ?_
      (simp only [Act.put, List.setIfInBounds_toArray, List.set_cons_zero, List.set_cons_succ])
      refine plan_cell 26 _ _ (.slice a3 256 c3) _ (by rfl) (by rfl) (by rfl) (by first | (with_reducible exact Mem.ev_const _ _) | (with_reducible exact Mem.ev_zero _ _ _) | (with_reducible (apply Eq.trans (Mem.ev_tmp _ _ _)); simp only [List.getD_cons_succ, List.getD_cons_zero] <;> rfl)) (fun w' hw' => by rw [(hw' : Below w6.heap.size w6 w').cell (p := ⟨pb, po + 1, none⟩) PB.out]; exact C1.out) Tryd.underlying26 (by rfl) ?_
      (simp only [Act.put, List.setIfInBounds_toArray, List.set_cons_zero, List.set_cons_succ])
      (first | (refine plan_move _ _ (by rfl) (by rfl) (.inl (by rfl)) (by first | (with_reducible exact Mem.ev_const _ _) | (with_reducible exact Mem.ev_zero _ _ _) | (with_reducible (apply Eq.trans (Mem.ev_tmp _ _ _)); simp only [List.getD_cons_succ, List.getD_cons_zero] <;> rfl)) ?_) | (refine plan_move _ _ (by rfl) (by rfl) (.inr (by rfl)) (by first | (with_reducible exact Mem.ev_const _ _) | (with_reducible exact Mem.ev_zero _ _ _) | (with_reducible (apply Eq.trans (Mem.ev_tmp _ _ _)); simp only [List.getD_cons_succ, List.getD_cons_zero] <;> rfl)) ?_) | (refine plan_pick_t _ _ _ _ (by rfl) (by rfl) (by rfl) (by first | (with_reducible exact Mem.ev_const _ _) | (with_reducible exact Mem.ev_zero _ _ _) | (with_reducible (apply Eq.trans (Mem.ev_tmp _ _ _)); simp only [List.getD_cons_succ, List.getD_cons_zero] <;> rfl)) (by first | (with_reducible exact Mem.ev_const _ _) | (with_reducible exact Mem.ev_zero _ _ _) | (with_reducible (apply Eq.trans (Mem.ev_tmp _ _ _)); simp only [List.getD_cons_succ, List.getD_cons_zero] <;> rfl)) ?_) | (refine plan_pick_f _ _ _ _ (by rfl) (by rfl) (by rfl) (by first | (with_reducible exact Mem.ev_const _ _) | (with_reducible exact Mem.ev_zero _ _ _) | (with_reducible (apply Eq.trans (Mem.ev_tmp _ _ _)); simp only [List.getD_cons_succ, List.getD_cons_zero] <;> rfl)) (by first | (with_reducible exact Mem.ev_const _ _) | (with_reducible exact Mem.ev_zero _ _ _) | (with_reducible (apply Eq.trans (Mem.ev_tmp _ _ _)); simp only [List.getD_cons_succ, List.getD_cons_zero] <;> rfl)) ?_))
      (simp only [Act.put, List.setIfInBounds_toArray, List.set_cons_zero, List.set_cons_succ])
      refine plan_call 10 _ _ _ (by kernel_rfl) (by rfl) (by rfl) (by rfl) (by first | exact Mem.ev_none _ | (simp only [List.map_toArray, List.map_cons, List.map_nil, Mem.ev_tmp, List.getD_cons_succ, List.getD_cons_zero] <;> rfl)) ?_
      refine (PGO.out _ (O0.out.below (B6.out.trans (E1.out.mono B6.out.size)))).mono ?_
      rintro o' y4 ⟨gr, rfl, hga, hgl, hb⟩
      have PR := Lib.hid (at_sl hga rfl)
      rw [POL.out] at PR ⊢
      have E2 : Hid (Below w6.heap.size w6 y4) := Lib.hid (E1.out.trans (hb.mono E1.out.size))
      clear hga hgl hb
      refine ⟨_, rfl, E2.out, ?_⟩
      (simp only [Act.put, List.setIfInBounds_toArray, List.set_cons_zero, List.set_cons_succ])
      refine plan_call 15 _ _ _ (by kernel_rfl) (by rfl) (by rfl) (by rfl) (by first | exact Mem.ev_none _ | (simp only [List.map_toArray, List.map_cons, List.map_nil, Mem.ev_tmp, List.getD_cons_succ, List.getD_cons_zero] <;> rfl)) ?_
      refine (same_any PO PO _ _ _ (Q1.out.below E2.out) (PR.out) (by rw [POL.out]; decide) (by rw [POL.out]; decide)).mono ?_
      rw [sameB_self]
      rintro o' y5 ⟨rfl, hb⟩
      have E3 : Hid (Below w6.heap.size w6 y5) := Lib.hid (E2.out.trans (hb.mono E2.out.size))
      clear hb
      refine ⟨_, rfl, E3.out, ?_⟩
      (simp only [Act.put, List.setIfInBounds_toArray, List.set_cons_zero, List.set_cons_succ])
      refine plan_not_t _ _ (by rfl) (by rfl) (by rfl) (by first | (with_reducible exact Mem.ev_const _ _) | (with_reducible exact Mem.ev_zero _ _ _) | (with_reducible (apply Eq.trans (Mem.ev_tmp _ _ _)); simp only [List.getD_cons_succ, List.getD_cons_zero] <;> rfl)) ?_
      (simp only [Act.put, List.setIfInBounds_toArray, List.set_cons_zero, List.set_cons_succ])
      refine plan_pick_f _ _ _ _ (by rfl) (by rfl) (by rfl) (by first | (with_reducible exact Mem.ev_const _ _) | (with_reducible exact Mem.ev_zero _ _ _) | (with_reducible (apply Eq.trans (Mem.ev_tmp _ _ _)); simp only [List.getD_cons_succ, List.getD_cons_zero] <;> rfl)) (by first | (with_reducible exact Mem.ev_const _ _) | (with_reducible exact Mem.ev_zero _ _ _) | (with_reducible (apply Eq.trans (Mem.ev_tmp _ _ _)); simp only [List.getD_cons_succ, List.getD_cons_zero] <;> rfl)) ?_
      (simp only [Act.put, List.setIfInBounds_toArray, List.set_cons_zero, List.set_cons_succ])
      refine plan_nil ?_
      go_wp2_with fail
      refine (rclash_any [L, PO] _ y5 (S6.out.below E3.out) (by simp) (fun p hp => by
        rcases List.mem_cons.1 hp with rfl | hp
        · rw [LL.out]; decide
        · rw [List.mem_singleton.1 hp, POL.out]; decide)).mono ?_
      rintro e y6 ⟨ca, cc, ok, rfl, hcl, hb⟩
      have CL := Lib.hid hcl
      have F6 : Hid (Below w6.heap.size w6 y6) := Lib.hid (E3.out.trans (hb.mono E3.out.size))
      have V7 := Lib.hid (V6.out.below F6.out); have G6 : Hid (Below w1.heap.size w1 y6) := Lib.hid (B6.out.trans (F6.out.mono B6.out.size))
      clear hcl hb E0 E1 E2 E3 S6 PB C0 C1 Q0 Q1 V6 X6 PR F6 B6 BK6
      rcases EC.out with h9 | ⟨h0, hp⟩ | ⟨h0, hl, hs, hd, hne⟩
      · subst h9
        go_wp2_with fail
        refine (ALV.out y6 (T0.out.below G6.out)).mono ?_
        rintro e y7 ⟨rfl, hb⟩
        have G7 := Lib.hid (G6.out.trans (hb.mono G6.out.size))
        clear hb
        go_wp2_with fail
        go_ret
        exact ⟨rfl, BX0.out.trans (G7.out.mono BX0.out.size)⟩
      · subst h0
        rw [hp] at V7
        clear hp
        go_wp2_with fail
        refine (PG.out _ (S0.out.below G6.out)).mono ?_
        rintro o' y7 ⟨gr, rfl, hga, hgl, hb⟩
        have PR := Lib.hid (at_sl hga rfl)
        rw [PLL.out] at PR ⊢
        have V8 := Lib.hid (V7.out.below hb); have G7 := Lib.hid (G6.out.trans (hb.mono G6.out.size))
        clear hga hgl hb V7 G6
        go_wp2_with fail
        refine (same_any P P _ _ y7 V8.out PR.out (by rw [PLL.out]; decide) (by rw [PLL.out]; decide)).mono ?_
        rw [sameB_self]
        rintro e y8 ⟨rfl, hb⟩
        have G8 := Lib.hid (G7.out.trans (hb.mono G7.out.size))
        clear hb G7 V8 PR
        go_wp2_with fail
        refine (ALV.out y8 (T0.out.below G8.out)).mono ?_
        rintro e y9 ⟨rfl, hb⟩
        have G9 := Lib.hid (G8.out.trans (hb.mono G8.out.size))
        clear hb
        go_wp2_with fail
        go_ret
        exact ⟨rfl, BX0.out.trans (G9.out.mono BX0.out.size)⟩
      · subst h0
        have hok := clash_two hd hne CL.out
        subst hok
        have HL := Lib.hid hl; have HSM := Lib.hid hs
        clear hl hs hd hne
        go_wp2_with fail
        refine (PG.out _ (S0.out.below G6.out)).mono ?_
        rintro o' y7 ⟨gr, rfl, hga, hgl, hb⟩
        have PR := Lib.hid (at_sl hga rfl)
        rw [PLL.out] at PR ⊢
        have V8 := Lib.hid (V7.out.below hb); have G7 := Lib.hid (G6.out.trans (hb.mono G6.out.size))
        clear hga hgl hb V7 G6
        go_wp2_with fail
        refine (same_any ol P _ _ y7 V8.out PR.out (by rw [HL.out]; decide) (by rw [PLL.out]; decide)).mono ?_
        rw [HSM.out]
        rintro e y8 ⟨rfl, hb⟩
        have G8 := Lib.hid (G7.out.trans (hb.mono G7.out.size))
        clear hb G7 V8 PR
        go_wp2_with fail
        refine (ALV.out y8 (T0.out.below G8.out)).mono ?_
        rintro e y9 ⟨rfl, hb⟩
        have G9 := Lib.hid (G8.out.trans (hb.mono G8.out.size))
        clear hb
        go_wp2_with fail
        go_ret
        exact ⟨rfl, BX0.out.trans (G9.out.mono BX0.out.size)⟩
end Sha
end Go.Proofs.YtmfgimkopddcgaaDoor
namespace Go.Proofs.YtmfgimkopddcgaaDoor
namespace Sha
open Go.ChangeShapes Go.WideShapes Go.ChangeAt Go.WideMaps Go.WideElems Go.RowKit Mem
set_option maxRecDepth 100000

set_option maxRecDepth 100000 in
theorem sealKept_lifted (os : Os) (started : os.Started) (H : Type) (enc : TypeId × Value → H) :
    ReturnsInHanded {} Tryd.checked os 7 .any (fun w args => (Rows.sealKeptSpec.pre enc Tryd.prog Tryd.f7 [] false w args ∧ laidMetH Tryd.prog laidL w) ∧ sizedMet enc Tryd.prog Tryd.f7 (OpenSpec.ofChange Rows.sealKeptSpec) false w args)
      (Rows.sealKeptSpec.post enc Tryd.prog Tryd.f7 false true false false) := by
  refine law_lift rfl rfl (by kernel_rfl) (fun H ds hl => ?_) (by kernel_rfl) Tryd.func7 os started H enc #[.agg (askC ⟨List.replicate 32 0, 0, 0, 0⟩), .slice none 0 0, .slice none 0 0] 8 (by kernel_rfl) (by kernel_rfl) (by kernel_rfl) (World.shaped_of_RefB (by kernel_rfl) (by kernel_rfl)) (door_met os _) rfl ?_
  · have hl' : ds.length = 3 := hl
    match ds, hl' with
    | [_, _, _], _ => rfl
  · intro W base args ds p hval hA hT
    rw [Tryd.params7] at hA hval
    obtain ⟨v0, vs0, d0, ds0, p0, q0, hargs, rfl, rfl, h0, r0⟩ := trodAll_cons hA
    obtain ⟨v1, vs1, d1, ds1, p1, q1, rfl, rfl, rfl, h1, r1⟩ := trodAll_cons r0
    obtain ⟨v2, vs2, d2, ds2, p2, q2, rfl, rfl, rfl, h2, r2⟩ := trodAll_cons r1
    obtain ⟨rfl, rfl, rfl⟩ := trodAll_nil r2
    obtain rfl : args = #[v0, v1, v2] := by cases args; simp_all
    have k0 := hval 0 25 v0 rfl rfl
    have k1 := hval 1 26 v1 rfl rfl
    have k2 := hval 2 26 v2 rfl rfl
    clear hval
    obtain ⟨a, rfl, ha⟩ := open_ask9 k0 h0
    obtain ⟨b, sb, lb⟩ := open_sl k1 h1
    obtain ⟨o, so, lo⟩ := open_sl k2 h2
    exact kept_core sealP9 a ha b o v1 v2 W sb so lb lo hT
theorem sealKept_holds : Rows.SealKeptSaid :=
  OpenClaim.holds_of_wide 7 Tryd.f7 rfl rfl rfl rfl rfl rfl rfl ⟨rfl, rfl, rfl, rfl, rfl⟩ rfl rfl rfl rfl rfl (by kernel_rfl) Tryd.func7 (by kernel_rfl)
    (of_decide_eq_true (by kernel_rfl)) (by unfold Func.isWrapper; first | (rw [if_pos (by decide +kernel)]; kernel_rfl) | (rw [if_neg (by decide +kernel)]; exact ⟨rfl, rfl⟩))
    (fun os started H enc _ => sealKept_lifted os started H enc)
theorem sealKept_card : Rows.SealKeptCardSaid :=
  Claim7.holds_tied_plain_at .later [] [.data, .data, .data, .data] true (true, "7c2a96d1b893a63d5f7b31ce1bc3e010c6a1c609f653f8130d4722b647222005") false
    sealKept_holds (fun _ h => by cases h) (by kernel_rfl) (fun _ h => by cases h) sealKept_row_tie rfl ⟨rfl, rfl⟩ (by kernel_rfl) rfl
    (fun f fn hf hfn => by
      obtain rfl : f = 7 := Option.some.inj ((show Tryd.prog.funcNamed "carling/carlinglaw09.SealKept" = some 7 by kernel_rfl).symm.trans hf) |>.symm
      obtain rfl : fn = Tryd.f7 := (Option.some.inj (Tryd.func7.symm.trans hfn)).symm
      exact ⟨by kernel_rfl, fun j t ht => by
        rw [Tryd.params7] at ht
        have hm : t ∈ [25, 26, 26] := by simpa using Array.mem_of_getElem? ht
        have hall : ([25, 26, 26].all fun u => !Tryd.prog.wantsStandIn u) = true := by kernel_rfl
        exact (show Tryd.prog.wantsStandIn t = false by simpa using List.all_eq_true.1 hall t hm)⟩)
    (by kernel_rfl)
#print axioms sealKept_card
end Sha
end Go.Proofs.YtmfgimkopddcgaaDoor
