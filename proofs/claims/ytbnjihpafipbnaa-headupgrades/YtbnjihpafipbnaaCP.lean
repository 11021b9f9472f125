/- Layer 11, HeadParses: the head of any bytes is the document's, or refused. -/
import Derived.Test.YtbnjihpafipbnaaBF
import Derived.Test.YtbnjihpafipbnaaBA
import Derived.Deep.DeepCutAuto
namespace Go.Proofs.Ytbnjihpafipbnaa
namespace Sha
open Go.RowKit Mem
set_option maxRecDepth 100000
theorem o_beqB (b : Bool) (x y : Operand) (w : World) : (do eqGuard .eql 4 x y (.bool b) (.bool b); binOp .eql 4 (.bool b) (.bool b) : Sem Value).run Try.prog w = .ok (.bool true) w := by
  cases b <;> go_simp
theorem o_eqU32 (q : Int) (x y : Operand) (w : World) : (do eqGuard .eql 47 x y (.int .u32 q) (.int .u32 q); binOp .eql 47 (.int .u32 q) (.int .u32 q) : Sem Value).run Try.prog w = .ok (.bool true) w := by
  go_simp
theorem o_eqE (q : Int) (x y : Operand) (w : World) : (do eqGuard .eql 30 x y (.int .i64 q) (.int .i64 q); binOp .eql 30 (.int .i64 q) (.int .i64 q) : Sem Value).run Try.prog w = .ok (.bool true) w := by
  go_simp
set_option maxHeartbeats 8000000 in
theorem parses11_core (b : List (BitVec 8)) (v : Value) (w : World) (hv : Sl w v b) : Calls Try.prog 4 #[v] w fun e w' => e = .returned (.bool true) ∧ Below w.heap.size w w' := by
  have al := fun wx => alive11_any wx
  obtain ⟨a0, c0, rfl⟩ := sl_hdw hv
  obtain ⟨n, hn⟩ : ∃ n, n = b.length := ⟨_, rfl⟩
  rw [← hn] at hv ⊢
  have AL := Lib.hid al; have G0 := Lib.hid (Below.refl w.heap.size w); have HV := Lib.hid hv
  clear al hv
  by_cases hbig : 600 < n
  · have g : (600 : Int) < (n : Int) := by omega
    clear hn hbig
    go_enter Try.func4, Try.ntmps4
    go_wp2_with fail
    refine (AL.out _).mono ?_
    rintro e x9 ⟨rfl, hb9⟩
    have G9 : Hid (Below w.heap.size w x9) := Lib.hid (G0.out.trans (hb9.mono G0.out.size))
    clear hb9
    go_wp2_with fail
    go_ret
    exact ⟨rfl, G9.out⟩
  · have g : ¬ (600 : Int) < (n : Int) := by omega
    have wf := parseH_wf b
    have hp := fun wx (h : Sl wx (.slice a0 n c0) b) => pparse11_any b (.slice a0 n c0) wx h (by omega)
    have hq := fun wx (h : Sl wx (.slice a0 n c0) b) => rparse11_any b (.slice a0 n c0) wx h (by omega)
    have ou := fun wx => ours11_any (parseH b).1 wf wx
    have eqr := fun x y wx => eqlHR wf wf x y wx
    rw [sameHd_self] at eqr
    obtain ⟨q, hqq⟩ : ∃ q : Int, q = ((parseH b).2 : Int) := ⟨_, rfl⟩
    obtain ⟨X, hX⟩ : ∃ X, X = hdC (parseH b).1 := ⟨_, rfl⟩
    have xs : X.size = 84 := by rw [hX]; exact hdC_size wf
    have xo : X.all (·.oneCell') = true := by rw [hX]; exact hdC_one _
    rw [← hqq, ← hX] at hp hq
    rw [← hX] at ou eqr
    obtain ⟨Z, hZ⟩ : ∃ Z, Z = hdC zhd := ⟨_, rfl⟩
    have zs : Z.size = 84 := by rw [hZ]; exact hdC_size zhd_wf
    have hxp : ∀ w, (zeroValue 35).run Try.prog w = .ok (.agg Z) w := by rw [hZ]; exact zeroHdP
    have hxr : ∀ w, (zeroValue 27).run Try.prog w = .ok (.agg Z) w := by rw [hZ]; exact zeroHdR
    have ZS := Lib.hid zs; have HXP := Lib.hid hxp; have HXR := Lib.hid hxr
    have HP := Lib.hid hp; have HQ := Lib.hid hq; have OU := Lib.hid ou; have EQR := Lib.hid eqr; have XS := Lib.hid xs; have XO := Lib.hid xo
    clear wf hp hq ou eqr xs xo zs hxp hxr hZ hX hqq hn hbig
    go_enter Try.func4, Try.ntmps4
    go_wp2_with fail
    refine (HP.out _ (HV.out.below G0.out)).mono ?_
    rintro e x1 ⟨rfl, hb⟩
    have G1 : Hid (Below w.heap.size w x1) := Lib.hid (G0.out.trans (hb.mono G0.out.size))
    clear hb
    clear G0
    have G2 : Hid (Below w.heap.size w (x1.alloc (.cells X 35))) := Lib.hid (G1.out.alloc G1.out.size _)
    have K3 := Lib.hid (at_new x1 X 35)
    have hz := HXP.out
    go_upto_region 4 with (refine wpList_store_new (by rfl) 35 _ _ (by rfl) (by rfl) X _ _ (by rfl) (by rfl) (by rw [XS.out]; exact infoHdP) (by first | rfl | rw [XS.out, ZS.out]) XO.out ?_)
    clear hz
    obtain ⟨g2, hg⟩ : ∃ g, g = x1.heap.size := ⟨_, rfl⟩
    rw [← hg] at K3 ⊢
    clear hg
    generalize (x1.alloc (.cells X 35)) = y2 at *
    clear G1
    go_wp2_with (first
      | (refine wpList_load_wanted (by rfl) 35 _ (by rfl) g2 (by rfl) _ Try.underlying35 (by rfl) X _ K3.out (by rw [XS.out]; exact infoHdP) ?_))
    refine (HQ.out _ (HV.out.below G2.out)).mono ?_
    rintro e x3 ⟨rfl, hb⟩
    have G3 : Hid (Below w.heap.size w x3) := Lib.hid (G2.out.trans (hb.mono G2.out.size))
    have K3_3 := Lib.hid (K3.out.below hb K3.out.lt)
    clear hb
    clear K3 G2
    have G4 : Hid (Below w.heap.size w (x3.alloc (.cells X 27))) := Lib.hid (G3.out.alloc G3.out.size _)
    have K3_4 := Lib.hid (K3_3.out.alloc (.cells X 27))
    have K5 := Lib.hid (at_new x3 X 27)
    have hz := HXR.out
    go_upto_region 5 with (refine wpList_store_new (by rfl) 27 _ _ (by rfl) (by rfl) X _ _ (by rfl) (by rfl) (by rw [XS.out]; exact infoHdR) (by first | rfl | rw [XS.out, ZS.out]) XO.out ?_)
    clear hz
    obtain ⟨g4, hg⟩ : ∃ g, g = x3.heap.size := ⟨_, rfl⟩
    rw [← hg] at K5 ⊢
    clear hg
    generalize (x3.alloc (.cells X 27)) = y4 at *
    clear K3_3 G3
    have D0 : Hid (Below y4.heap.size y4 y4.drew) := Lib.hid (Below.refl _ _).drew
    refine wp_region_plan_in (fun x' => Below y4.heap.size y4 x') (.take 0 (.take 2 (.sole 1 (.take 3 (.take 4 (.take 5 (.take 6 (.take 7 (.take 8 (.take 9 (.sole 10 (.take 11 (.take 12 .done))))))))))))) (by kernel_rfl) (by kernel_rfl) (by kernel_rfl) D0.out ?_
    refine plan_row 35 _ g2 _ X 35 (by rfl) (by rfl) (by rfl) (by first | (with_reducible exact Mem.ev_const _ _) | (with_reducible exact Mem.ev_zero _ _ _) | (with_reducible (apply Eq.trans (Mem.ev_tmp _ _ _)); simp only [List.getD_cons_succ, List.getD_cons_zero] <;> rfl)) (fun w' hw' => K3_4.out.below hw' K3_4.out.lt) Try.underlying35 (by rfl) (by rw [XS.out]; exact infoHdP) ?_
    (simp only [Act.put, List.setIfInBounds_toArray, List.set_cons_zero, List.set_cons_succ])
    refine plan_row 27 _ g4 _ X 27 (by rfl) (by rfl) (by rfl) (by first | (with_reducible exact Mem.ev_const _ _) | (with_reducible exact Mem.ev_zero _ _ _) | (with_reducible (apply Eq.trans (Mem.ev_tmp _ _ _)); simp only [List.getD_cons_succ, List.getD_cons_zero] <;> rfl)) (fun w' hw' => K5.out.below hw' K5.out.lt) Try.underlying27 (by rfl) (by rw [XS.out]; exact infoHdR) ?_
    (simp only [Act.put, List.setIfInBounds_toArray, List.set_cons_zero, List.set_cons_succ])
    refine plan_call 16 _ _ _ (by kernel_rfl) (by rfl) (by rfl) (by rfl) (by first | exact Mem.ev_none _ | (simp only [List.map_toArray, List.map_cons, List.map_nil, Mem.ev_tmp, List.getD_cons_succ, List.getD_cons_zero] <;> rfl)) ?_
    refine (OU.out _).mono ?_
    rintro e z1 ⟨rfl, hb1⟩
    have E1 : Hid (Below y4.heap.size y4 z1) := Lib.hid (D0.out.trans (hb1.mono D0.out.size))
    clear hb1
    refine ⟨_, rfl, E1.out, ?_⟩
    (simp only [Act.put, List.setIfInBounds_toArray, List.set_cons_zero, List.set_cons_succ])
    refine plan_bin _ _ _ _ _ _ _ (.bool true) (by rfl) (by rfl) (by rfl) (by first | (with_reducible exact Mem.ev_const _ _) | (with_reducible exact Mem.ev_zero _ _ _) | (with_reducible (apply Eq.trans (Mem.ev_tmp _ _ _)); simp only [List.getD_cons_succ, List.getD_cons_zero] <;> rfl)) (by first | (with_reducible exact Mem.ev_const _ _) | (with_reducible exact Mem.ev_zero _ _ _) | (with_reducible (apply Eq.trans (Mem.ev_tmp _ _ _)); simp only [List.getD_cons_succ, List.getD_cons_zero] <;> rfl)) (fun wx => EQR.out _ _ wx) ?_
    (simp only [Act.put, List.setIfInBounds_toArray, List.set_cons_zero, List.set_cons_succ])
    (first | (refine plan_move _ _ (by rfl) (by rfl) (.inl (by rfl)) (by first | (with_reducible exact Mem.ev_const _ _) | (with_reducible exact Mem.ev_zero _ _ _) | (with_reducible (apply Eq.trans (Mem.ev_tmp _ _ _)); simp only [List.getD_cons_succ, List.getD_cons_zero] <;> rfl)) ?_) | (refine plan_move _ _ (by rfl) (by rfl) (.inr (by rfl)) (by first | (with_reducible exact Mem.ev_const _ _) | (with_reducible exact Mem.ev_zero _ _ _) | (with_reducible (apply Eq.trans (Mem.ev_tmp _ _ _)); simp only [List.getD_cons_succ, List.getD_cons_zero] <;> rfl)) ?_) | (refine plan_pick_t _ _ _ _ (by rfl) (by rfl) (by rfl) (by first | (with_reducible exact Mem.ev_const _ _) | (with_reducible exact Mem.ev_zero _ _ _) | (with_reducible (apply Eq.trans (Mem.ev_tmp _ _ _)); simp only [List.getD_cons_succ, List.getD_cons_zero] <;> rfl)) (by first | (with_reducible exact Mem.ev_const _ _) | (with_reducible exact Mem.ev_zero _ _ _) | (with_reducible (apply Eq.trans (Mem.ev_tmp _ _ _)); simp only [List.getD_cons_succ, List.getD_cons_zero] <;> rfl)) ?_) | (refine plan_pick_f _ _ _ _ (by rfl) (by rfl) (by rfl) (by first | (with_reducible exact Mem.ev_const _ _) | (with_reducible exact Mem.ev_zero _ _ _) | (with_reducible (apply Eq.trans (Mem.ev_tmp _ _ _)); simp only [List.getD_cons_succ, List.getD_cons_zero] <;> rfl)) (by first | (with_reducible exact Mem.ev_const _ _) | (with_reducible exact Mem.ev_zero _ _ _) | (with_reducible (apply Eq.trans (Mem.ev_tmp _ _ _)); simp only [List.getD_cons_succ, List.getD_cons_zero] <;> rfl)) ?_))
    (simp only [Act.put, List.setIfInBounds_toArray, List.set_cons_zero, List.set_cons_succ])
    (first | (refine plan_move _ _ (by rfl) (by rfl) (.inl (by rfl)) (by first | (with_reducible exact Mem.ev_const _ _) | (with_reducible exact Mem.ev_zero _ _ _) | (with_reducible (apply Eq.trans (Mem.ev_tmp _ _ _)); simp only [List.getD_cons_succ, List.getD_cons_zero] <;> rfl)) ?_) | (refine plan_move _ _ (by rfl) (by rfl) (.inr (by rfl)) (by first | (with_reducible exact Mem.ev_const _ _) | (with_reducible exact Mem.ev_zero _ _ _) | (with_reducible (apply Eq.trans (Mem.ev_tmp _ _ _)); simp only [List.getD_cons_succ, List.getD_cons_zero] <;> rfl)) ?_) | (refine plan_pick_t _ _ _ _ (by rfl) (by rfl) (by rfl) (by first | (with_reducible exact Mem.ev_const _ _) | (with_reducible exact Mem.ev_zero _ _ _) | (with_reducible (apply Eq.trans (Mem.ev_tmp _ _ _)); simp only [List.getD_cons_succ, List.getD_cons_zero] <;> rfl)) (by first | (with_reducible exact Mem.ev_const _ _) | (with_reducible exact Mem.ev_zero _ _ _) | (with_reducible (apply Eq.trans (Mem.ev_tmp _ _ _)); simp only [List.getD_cons_succ, List.getD_cons_zero] <;> rfl)) ?_) | (refine plan_pick_f _ _ _ _ (by rfl) (by rfl) (by rfl) (by first | (with_reducible exact Mem.ev_const _ _) | (with_reducible exact Mem.ev_zero _ _ _) | (with_reducible (apply Eq.trans (Mem.ev_tmp _ _ _)); simp only [List.getD_cons_succ, List.getD_cons_zero] <;> rfl)) (by first | (with_reducible exact Mem.ev_const _ _) | (with_reducible exact Mem.ev_zero _ _ _) | (with_reducible (apply Eq.trans (Mem.ev_tmp _ _ _)); simp only [List.getD_cons_succ, List.getD_cons_zero] <;> rfl)) ?_))
    (simp only [Act.put, List.setIfInBounds_toArray, List.set_cons_zero, List.set_cons_succ])
    (first | (refine plan_move _ _ (by rfl) (by rfl) (.inl (by rfl)) (by first | (with_reducible exact Mem.ev_const _ _) | (with_reducible exact Mem.ev_zero _ _ _) | (with_reducible (apply Eq.trans (Mem.ev_tmp _ _ _)); simp only [List.getD_cons_succ, List.getD_cons_zero] <;> rfl)) ?_) | (refine plan_move _ _ (by rfl) (by rfl) (.inr (by rfl)) (by first | (with_reducible exact Mem.ev_const _ _) | (with_reducible exact Mem.ev_zero _ _ _) | (with_reducible (apply Eq.trans (Mem.ev_tmp _ _ _)); simp only [List.getD_cons_succ, List.getD_cons_zero] <;> rfl)) ?_) | (refine plan_pick_t _ _ _ _ (by rfl) (by rfl) (by rfl) (by first | (with_reducible exact Mem.ev_const _ _) | (with_reducible exact Mem.ev_zero _ _ _) | (with_reducible (apply Eq.trans (Mem.ev_tmp _ _ _)); simp only [List.getD_cons_succ, List.getD_cons_zero] <;> rfl)) (by first | (with_reducible exact Mem.ev_const _ _) | (with_reducible exact Mem.ev_zero _ _ _) | (with_reducible (apply Eq.trans (Mem.ev_tmp _ _ _)); simp only [List.getD_cons_succ, List.getD_cons_zero] <;> rfl)) ?_) | (refine plan_pick_f _ _ _ _ (by rfl) (by rfl) (by rfl) (by first | (with_reducible exact Mem.ev_const _ _) | (with_reducible exact Mem.ev_zero _ _ _) | (with_reducible (apply Eq.trans (Mem.ev_tmp _ _ _)); simp only [List.getD_cons_succ, List.getD_cons_zero] <;> rfl)) (by first | (with_reducible exact Mem.ev_const _ _) | (with_reducible exact Mem.ev_zero _ _ _) | (with_reducible (apply Eq.trans (Mem.ev_tmp _ _ _)); simp only [List.getD_cons_succ, List.getD_cons_zero] <;> rfl)) ?_))
    (simp only [Act.put, List.setIfInBounds_toArray, List.set_cons_zero, List.set_cons_succ])
    refine plan_bin _ _ _ _ _ _ _ (.bool true) (by rfl) (by rfl) (by rfl) (by first | (with_reducible exact Mem.ev_const _ _) | (with_reducible exact Mem.ev_zero _ _ _) | (with_reducible (apply Eq.trans (Mem.ev_tmp _ _ _)); simp only [List.getD_cons_succ, List.getD_cons_zero] <;> rfl)) (by first | (with_reducible exact Mem.ev_const _ _) | (with_reducible exact Mem.ev_zero _ _ _) | (with_reducible (apply Eq.trans (Mem.ev_tmp _ _ _)); simp only [List.getD_cons_succ, List.getD_cons_zero] <;> rfl)) (fun wx => o_ieq _ _ _ _ _ wx) ?_
    (simp only [Act.put, List.setIfInBounds_toArray, List.set_cons_zero, List.set_cons_succ])
    refine plan_pick_t _ _ _ _ (by rfl) (by rfl) (by rfl) (by first | (with_reducible exact Mem.ev_const _ _) | (with_reducible exact Mem.ev_zero _ _ _) | (with_reducible (apply Eq.trans (Mem.ev_tmp _ _ _)); simp only [List.getD_cons_succ, List.getD_cons_zero] <;> rfl)) (by first | (with_reducible exact Mem.ev_const _ _) | (with_reducible exact Mem.ev_zero _ _ _) | (with_reducible (apply Eq.trans (Mem.ev_tmp _ _ _)); simp only [List.getD_cons_succ, List.getD_cons_zero] <;> rfl)) ?_
    (simp only [Act.put, List.setIfInBounds_toArray, List.set_cons_zero, List.set_cons_succ])
    (first | (refine plan_move _ _ (by rfl) (by rfl) (.inl (by rfl)) (by first | (with_reducible exact Mem.ev_const _ _) | (with_reducible exact Mem.ev_zero _ _ _) | (with_reducible (apply Eq.trans (Mem.ev_tmp _ _ _)); simp only [List.getD_cons_succ, List.getD_cons_zero] <;> rfl)) ?_) | (refine plan_move _ _ (by rfl) (by rfl) (.inr (by rfl)) (by first | (with_reducible exact Mem.ev_const _ _) | (with_reducible exact Mem.ev_zero _ _ _) | (with_reducible (apply Eq.trans (Mem.ev_tmp _ _ _)); simp only [List.getD_cons_succ, List.getD_cons_zero] <;> rfl)) ?_) | (refine plan_pick_t _ _ _ _ (by rfl) (by rfl) (by rfl) (by first | (with_reducible exact Mem.ev_const _ _) | (with_reducible exact Mem.ev_zero _ _ _) | (with_reducible (apply Eq.trans (Mem.ev_tmp _ _ _)); simp only [List.getD_cons_succ, List.getD_cons_zero] <;> rfl)) (by first | (with_reducible exact Mem.ev_const _ _) | (with_reducible exact Mem.ev_zero _ _ _) | (with_reducible (apply Eq.trans (Mem.ev_tmp _ _ _)); simp only [List.getD_cons_succ, List.getD_cons_zero] <;> rfl)) ?_) | (refine plan_pick_f _ _ _ _ (by rfl) (by rfl) (by rfl) (by first | (with_reducible exact Mem.ev_const _ _) | (with_reducible exact Mem.ev_zero _ _ _) | (with_reducible (apply Eq.trans (Mem.ev_tmp _ _ _)); simp only [List.getD_cons_succ, List.getD_cons_zero] <;> rfl)) (by first | (with_reducible exact Mem.ev_const _ _) | (with_reducible exact Mem.ev_zero _ _ _) | (with_reducible (apply Eq.trans (Mem.ev_tmp _ _ _)); simp only [List.getD_cons_succ, List.getD_cons_zero] <;> rfl)) ?_))
    (simp only [Act.put, List.setIfInBounds_toArray, List.set_cons_zero, List.set_cons_succ])
    refine plan_call 7 _ _ _ (by kernel_rfl) (by rfl) (by rfl) (by rfl) (by first | exact Mem.ev_none _ | (simp only [List.map_toArray, List.map_cons, List.map_nil, Mem.ev_tmp, List.getD_cons_succ, List.getD_cons_zero] <;> rfl)) ?_
    refine (AL.out _).mono ?_
    rintro e z10 ⟨rfl, hb10⟩
    have E10 : Hid (Below y4.heap.size y4 z10) := Lib.hid (E1.out.trans (hb10.mono E1.out.size))
    clear hb10
    refine ⟨_, rfl, E10.out, ?_⟩
    (simp only [Act.put, List.setIfInBounds_toArray, List.set_cons_zero, List.set_cons_succ])
    refine plan_pick_t _ _ _ _ (by rfl) (by rfl) (by rfl) (by first | (with_reducible exact Mem.ev_const _ _) | (with_reducible exact Mem.ev_zero _ _ _) | (with_reducible (apply Eq.trans (Mem.ev_tmp _ _ _)); simp only [List.getD_cons_succ, List.getD_cons_zero] <;> rfl)) (by first | (with_reducible exact Mem.ev_const _ _) | (with_reducible exact Mem.ev_zero _ _ _) | (with_reducible (apply Eq.trans (Mem.ev_tmp _ _ _)); simp only [List.getD_cons_succ, List.getD_cons_zero] <;> rfl)) ?_
    (simp only [Act.put, List.setIfInBounds_toArray, List.set_cons_zero, List.set_cons_succ])
    (first | (refine plan_move _ _ (by rfl) (by rfl) (.inl (by rfl)) (by first | (with_reducible exact Mem.ev_const _ _) | (with_reducible exact Mem.ev_zero _ _ _) | (with_reducible (apply Eq.trans (Mem.ev_tmp _ _ _)); simp only [List.getD_cons_succ, List.getD_cons_zero] <;> rfl)) ?_) | (refine plan_move _ _ (by rfl) (by rfl) (.inr (by rfl)) (by first | (with_reducible exact Mem.ev_const _ _) | (with_reducible exact Mem.ev_zero _ _ _) | (with_reducible (apply Eq.trans (Mem.ev_tmp _ _ _)); simp only [List.getD_cons_succ, List.getD_cons_zero] <;> rfl)) ?_) | (refine plan_pick_t _ _ _ _ (by rfl) (by rfl) (by rfl) (by first | (with_reducible exact Mem.ev_const _ _) | (with_reducible exact Mem.ev_zero _ _ _) | (with_reducible (apply Eq.trans (Mem.ev_tmp _ _ _)); simp only [List.getD_cons_succ, List.getD_cons_zero] <;> rfl)) (by first | (with_reducible exact Mem.ev_const _ _) | (with_reducible exact Mem.ev_zero _ _ _) | (with_reducible (apply Eq.trans (Mem.ev_tmp _ _ _)); simp only [List.getD_cons_succ, List.getD_cons_zero] <;> rfl)) ?_) | (refine plan_pick_f _ _ _ _ (by rfl) (by rfl) (by rfl) (by first | (with_reducible exact Mem.ev_const _ _) | (with_reducible exact Mem.ev_zero _ _ _) | (with_reducible (apply Eq.trans (Mem.ev_tmp _ _ _)); simp only [List.getD_cons_succ, List.getD_cons_zero] <;> rfl)) (by first | (with_reducible exact Mem.ev_const _ _) | (with_reducible exact Mem.ev_zero _ _ _) | (with_reducible (apply Eq.trans (Mem.ev_tmp _ _ _)); simp only [List.getD_cons_succ, List.getD_cons_zero] <;> rfl)) ?_))
    (simp only [Act.put, List.setIfInBounds_toArray, List.set_cons_zero, List.set_cons_succ])
    refine plan_nil ?_
    go_wp2_with fail
    go_ret
    exact ⟨rfl, G4.out.trans (E10.out.mono G4.out.size)⟩
end Sha
end Go.Proofs.Ytbnjihpafipbnaa
