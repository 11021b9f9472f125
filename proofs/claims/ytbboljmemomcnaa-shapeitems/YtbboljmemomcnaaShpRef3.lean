/- The document's shape: Path, Under: walks (written by shpref3.py). -/
import Derived.Test.YtbboljmemomcnaaShpRef2
namespace Go.Proofs.Ytbboljmemomcnaa
namespace Sha
open Go.RowKit Mem
set_option maxRecDepth 100000
/-- How a call ends that tells ints in a slice of its own. -/
def OIEnd (w : World) (L : List Int) (e : Ending) (w' : World) : Prop := ∃ v, e = .returned v ∧ OwnV w' w.heap.size 3 v (iz L) ∧ Below w.heap.size w w'
theorem own_liti {w : World} {B : Nat} (u : Int) (hB : B ≤ w.heap.size) : OwnV (w.alloc (.cells #[.int .i64 u] 3)) B 3 (.slice (some ⟨w.heap.size, 0, none⟩) 1 1) (iz [u]) :=
  ⟨by simp [iz], .inr ⟨w.heap.size, 1, #[.int .i64 u], rfl, hB, at_new w _ _, by simp [iz], by simp [maxLen], by simp, by simp [iz]⟩⟩
theorem ownV_low {w : World} {B B' : Nat} {e : TypeId} {v : Value} {l : List Value} (h : OwnV w B' e v l) (hB : B ≤ B') : OwnV w B e v l := ownsRow_base h hB
set_option maxHeartbeats 2000000 in
theorem rpath_none (p : Nat) (vL vF : Value) (z : Int) (w : World) (h : ¬ (0 ≤ z ∧ z < (p : Int))) : Calls Try.prog 27 #[.agg (rsC p vL vF), .int .i64 z] w (OIEnd w []) := by
  have hA := at_new w (rsC p vL vF) 29
  have hb : Below w.heap.size w (w.alloc (.cells (rsC p vL vF) 29)) := (Below.refl _ _).alloc (Nat.le_refl _) _
  have c0 : (w.alloc (.cells (rsC p vL vF) 29)).cell? ⟨w.heap.size, 0, none⟩ = some (.int .i64 (p : Int)) := (hA.cell 0).trans rfl
  obtain ⟨M, hM⟩ : ∃ M, M = rsC p vL vF := ⟨_, rfl⟩
  rw [← hM] at hA hb c0 ⊢
  obtain ⟨w1, hw1⟩ : ∃ w1, w1 = w.alloc (.cells M 29) := ⟨_, rfl⟩
  rw [← hw1] at hb c0
  have HB := Lib.hid hb
  clear hA hb hM
  by_cases h0 : 0 ≤ z
  · have g : ¬ z < (p : Int) := fun h1 => h ⟨h0, h1⟩
    clear h
    go_enter Try.func27, Try.ntmps27
    go_upto_region 1 with fail
    rw [← hw1]
    clear hw1
    go_wp2_with fail
    go_ret
    exact ⟨_, rfl, OwnV.nil _ _ _, HB.out⟩
  · clear h
    go_enter Try.func27, Try.ntmps27
    go_upto_region 1 with fail
    rw [← hw1]
    clear hw1
    go_wp2_with fail
    go_ret
    exact ⟨_, rfl, OwnV.nil _ _ _, HB.out⟩
set_option maxHeartbeats 4000000 in
theorem rpath_some (p : Nat) (vL vF : Value) (x : Nat) (w : World) (hR : RS w p vL vF) (h0 : 1 ≤ p) (h1 : p ≤ 216) (hx : x < p) : Calls Try.prog 27 #[.agg (rsC p vL vF), .int .i64 (x : Int)] w (OIEnd w (pathZ p x (topn p + 1))) := by
  have hpar := fun (z : Int) wx h => rparent_any p vL vF z wx h h0 h1
  have hmore := fun k hk => itp_par p x k h0 h1 hx hk
  have hend := itp_end p x h0 h1 hx
  have htop := top_le p
  have hA := at_new w (rsC p vL vF) 29
  have hb : Below w.heap.size w (w.alloc (.cells (rsC p vL vF) 29)) := (Below.refl _ _).alloc (Nat.le_refl _) _
  have c0 : (w.alloc (.cells (rsC p vL vF) 29)).cell? ⟨w.heap.size, 0, none⟩ = some (.int .i64 (p : Int)) := (hA.cell 0).trans rfl
  have hR1 := hR.below hb
  have ms : (rsC p vL vF).size = 3 := rfl
  obtain ⟨M, hM⟩ : ∃ M, M = rsC p vL vF := ⟨_, rfl⟩
  rw [← hM] at hpar hA hb c0 hR1 ms ⊢
  obtain ⟨w1, hw1⟩ : ∃ w1, w1 = w.alloc (.cells M 29) := ⟨_, rfl⟩
  rw [← hw1] at hA hb c0 hR1
  have hp0 : pathZ p x 1 = [(x : Int)] := rfl
  have hps := fun n => pathZ_succ p x n
  have hpl := fun n => pathZ_length p x n
  have hpg := fun n => pathZ_get p x (n + 1) n (Nat.lt_succ_self n)
  obtain ⟨PP, hPP⟩ : ∃ P, P = pathZ p x := ⟨_, rfl⟩
  rw [← hPP] at hp0 hps hpl hpg ⊢
  obtain ⟨m, hm⟩ : ∃ m, m = topn p := ⟨_, rfl⟩
  rw [← hm] at hmore hend htop ⊢
  have hx0 : ¬ (x : Int) < 0 := by omega
  have hxp : (x : Int) < (p : Int) := by omega
  have o1 := own_liti (w := w1) (B := w1.heap.size) (x : Int) (Nat.le_refl _)
  have b1 : Below w1.heap.size w1 (w1.alloc (.cells #[.int .i64 (x : Int)] 3)) := (Below.refl _ _).alloc (Nat.le_refl _) _
  have PARZ := Lib.hid hpar; have AX := Lib.hid hA; have HB := Lib.hid hb; have MS := Lib.hid ms; have R1 := Lib.hid hR1; have MORE := Lib.hid hmore; have END := Lib.hid hend; have P0 := Lib.hid hp0; have PS := Lib.hid hps; have PL := Lib.hid hpl; have PG := Lib.hid hpg; have LT0 := Lib.hid hA.lt; have O1 := Lib.hid o1; have B1 := Lib.hid b1
  clear hpar hA hb ms hR1 hmore hend hp0 hps hpl hpg hPP hm hM hR h0 h1 hx o1 b1
  go_enter Try.func27, Try.ntmps27
  go_upto_region 1 with fail
  rw [← hw1]
  clear hw1
  go_wp2_with fail
  generalize w1.alloc (.cells #[.int .i64 (x : Int)] 3) = w2 at *
  obtain ⟨v0, hv0⟩ : ∃ v, v = Value.slice (some ⟨w1.heap.size, 0, none⟩) 1 1 := ⟨_, rfl⟩
  rw [← hv0] at O1 ⊢
  clear hv0
  go_loopw [5, 6] (fun vo v wr => ∃ k : Nat, k ≤ m ∧ v = .int .i64 k ∧ OwnV wr w1.heap.size 3 vo (iz (PP (k + 1))) ∧ Below w1.heap.size w1 wr) (fun _ v _ => m + 1 - (intOf v).toNat)
  case atStart => exact ⟨0, by omega, rfl, by rw [P0.out]; exact O1.out, B1.out⟩
  case round =>
    obtain ⟨k, hk, rfl, ho, hbw⟩ := hrel
    obtain ⟨a5, c5, e5, _, hr5⟩ := OwnV.open ho
    obtain ⟨g5, e6, _, hlt5, hc5⟩ := hr5 (by intro e; have h := PL.out (k + 1); rw [show PP (k + 1) = [] by simpa [iz] using e] at h; simp at h)
    rw [iz_length, PL.out] at e5
    subst e6 e5
    have cy := hc5 k _ (iz_get (PP (k + 1)) k (by rw [PL.out]; omega))
    rw [PG.out] at cy
    have hk10 : (k : Int) < 10 := by omega
    have AW := Lib.hid (AX.out.below hbw AX.out.lt); have RW := Lib.hid (R1.out.below hbw)
    have SUB := Lib.hid (fun (t t2 : TypeId) (a b : Operand) (wx : World) => o_isub (P := Try.prog) t t2 a b ((k + 1 : Nat) : Int) 1 (k : Int) (by omega) (by omega) (by omega) wx)
    have D0 : Hid (Below wr.heap.size wr wr.drew) := Lib.hid (Below.refl _ _).drew
    have OO := Lib.hid ho; have BW := Lib.hid hbw; have LG := Lib.hid hlt5
    by_cases hlt : k < m
    · have hpz := MORE.out k hlt
      have hsn := PS.out (k + 1)
      obtain ⟨y, hy⟩ : ∃ y : Int, y = (itp p x k : Int) := ⟨_, rfl⟩
      obtain ⟨y2, hy2⟩ : ∃ y : Int, y = (itp p x (k + 1) : Int) := ⟨_, rfl⟩
      obtain ⟨y3, hy3⟩ : ∃ y : Int, y = ((parN p (itp p x k)).2 : Int) := ⟨_, rfl⟩
      rw [← hy, ← hy2, ← hy3] at hpz
      rw [← hy] at cy
      rw [← hy2] at hsn
      have par : ∀ wx, RS wx p vL vF → Calls Try.prog 21 #[.agg M, .int .i64 y] wx fun e w' => e = .returned (.tuple #[.int .i64 y2, .int .i64 y3, .bool true]) ∧ Below wx.heap.size wx w' := fun wx h => by
        have hh := PARZ.out y wx h
        rw [hpz] at hh
        exact hh
      have PAR := Lib.hid par; have CY := Lib.hid cy; have SN := Lib.hid hsn
      clear hpz hy hy2 hy3 par cy hsn ho hbw hlt5 hr5 hc5
      go_wp2_with fail
      refine wp_region_plan_in (fun x' => Below wr.heap.size wr x') (.take 0 (.take 1 (.take 2 (.take 3 (.take 4 (.take 5 (.take 6 (.sole 7 (.take 8 (.take 9 (.take 10 (.take 11 (.take 12 (.take 13 (.take 14 .done))))))))))))))) (by kernel_rfl) (by kernel_rfl) (by kernel_rfl) D0.out ?_
      refine plan_row 29 _ w.heap.size _ M 29 (by rfl) (by rfl) (by rfl) (by first | (with_reducible exact Mem.ev_const _ _) | (with_reducible exact Mem.ev_zero _ _ _) | (with_reducible (apply Eq.trans (Mem.ev_tmp _ _ _)); simp only [List.getD_cons_succ, List.getD_cons_zero] <;> rfl)) (fun w' hw' => AW.out.below hw' AW.out.lt) Try.underlying29 (by rfl) (by rw [MS.out]; exact infoRS) ?_
      (simp only [Act.put, List.setIfInBounds_toArray, List.set_cons_zero, List.set_cons_succ])
      (first | (refine plan_move _ _ (by rfl) (by rfl) (.inl (by rfl)) (by first | (with_reducible exact Mem.ev_const _ _) | (with_reducible exact Mem.ev_zero _ _ _) | (with_reducible (apply Eq.trans (Mem.ev_tmp _ _ _)); simp only [List.getD_cons_succ, List.getD_cons_zero] <;> rfl)) ?_) | (refine plan_move _ _ (by rfl) (by rfl) (.inr (by rfl)) (by first | (with_reducible exact Mem.ev_const _ _) | (with_reducible exact Mem.ev_zero _ _ _) | (with_reducible (apply Eq.trans (Mem.ev_tmp _ _ _)); simp only [List.getD_cons_succ, List.getD_cons_zero] <;> rfl)) ?_) | (refine plan_pick_t _ _ _ _ (by rfl) (by rfl) (by rfl) (by first | (with_reducible exact Mem.ev_const _ _) | (with_reducible exact Mem.ev_zero _ _ _) | (with_reducible (apply Eq.trans (Mem.ev_tmp _ _ _)); simp only [List.getD_cons_succ, List.getD_cons_zero] <;> rfl)) (by first | (with_reducible exact Mem.ev_const _ _) | (with_reducible exact Mem.ev_zero _ _ _) | (with_reducible (apply Eq.trans (Mem.ev_tmp _ _ _)); simp only [List.getD_cons_succ, List.getD_cons_zero] <;> rfl)) ?_) | (refine plan_pick_f _ _ _ _ (by rfl) (by rfl) (by rfl) (by first | (with_reducible exact Mem.ev_const _ _) | (with_reducible exact Mem.ev_zero _ _ _) | (with_reducible (apply Eq.trans (Mem.ev_tmp _ _ _)); simp only [List.getD_cons_succ, List.getD_cons_zero] <;> rfl)) (by first | (with_reducible exact Mem.ev_const _ _) | (with_reducible exact Mem.ev_zero _ _ _) | (with_reducible (apply Eq.trans (Mem.ev_tmp _ _ _)); simp only [List.getD_cons_succ, List.getD_cons_zero] <;> rfl)) ?_))
      (simp only [Act.put, List.setIfInBounds_toArray, List.set_cons_zero, List.set_cons_succ])
      (first | (refine plan_move _ _ (by rfl) (by rfl) (.inl (by rfl)) (by first | (with_reducible exact Mem.ev_const _ _) | (with_reducible exact Mem.ev_zero _ _ _) | (with_reducible (apply Eq.trans (Mem.ev_tmp _ _ _)); simp only [List.getD_cons_succ, List.getD_cons_zero] <;> rfl)) ?_) | (refine plan_move _ _ (by rfl) (by rfl) (.inr (by rfl)) (by first | (with_reducible exact Mem.ev_const _ _) | (with_reducible exact Mem.ev_zero _ _ _) | (with_reducible (apply Eq.trans (Mem.ev_tmp _ _ _)); simp only [List.getD_cons_succ, List.getD_cons_zero] <;> rfl)) ?_) | (refine plan_pick_t _ _ _ _ (by rfl) (by rfl) (by rfl) (by first | (with_reducible exact Mem.ev_const _ _) | (with_reducible exact Mem.ev_zero _ _ _) | (with_reducible (apply Eq.trans (Mem.ev_tmp _ _ _)); simp only [List.getD_cons_succ, List.getD_cons_zero] <;> rfl)) (by first | (with_reducible exact Mem.ev_const _ _) | (with_reducible exact Mem.ev_zero _ _ _) | (with_reducible (apply Eq.trans (Mem.ev_tmp _ _ _)); simp only [List.getD_cons_succ, List.getD_cons_zero] <;> rfl)) ?_) | (refine plan_pick_f _ _ _ _ (by rfl) (by rfl) (by rfl) (by first | (with_reducible exact Mem.ev_const _ _) | (with_reducible exact Mem.ev_zero _ _ _) | (with_reducible (apply Eq.trans (Mem.ev_tmp _ _ _)); simp only [List.getD_cons_succ, List.getD_cons_zero] <;> rfl)) (by first | (with_reducible exact Mem.ev_const _ _) | (with_reducible exact Mem.ev_zero _ _ _) | (with_reducible (apply Eq.trans (Mem.ev_tmp _ _ _)); simp only [List.getD_cons_succ, List.getD_cons_zero] <;> rfl)) ?_))
      (simp only [Act.put, List.setIfInBounds_toArray, List.set_cons_zero, List.set_cons_succ])
      refine plan_len _ _ _ (some ⟨g5, 0, none⟩) (k + 1) c5 (by rfl) (by rfl) (by rfl) (by rfl) (by first | (with_reducible exact Mem.ev_const _ _) | (with_reducible exact Mem.ev_zero _ _ _) | (with_reducible (apply Eq.trans (Mem.ev_tmp _ _ _)); simp only [List.getD_cons_succ, List.getD_cons_zero] <;> rfl)) (fun w' => by first | rfl | go_simp) ?_
      (simp only [Act.put, List.setIfInBounds_toArray, List.set_cons_zero, List.set_cons_succ])
      refine plan_bin _ _ _ _ _ _ _ (.int .i64 (k : Int)) (by rfl) (by rfl) (by rfl) (by first | (with_reducible exact Mem.ev_const _ _) | (with_reducible exact Mem.ev_zero _ _ _) | (with_reducible (apply Eq.trans (Mem.ev_tmp _ _ _)); simp only [List.getD_cons_succ, List.getD_cons_zero] <;> rfl)) (by rfl) (fun wx => SUB.out _ _ _ _ wx) ?_
      (simp only [Act.put, List.setIfInBounds_toArray, List.set_cons_zero, List.set_cons_succ])
      refine plan_index 27 3 _ _ g5 0 (k + 1) c5 k (by rfl) (by rfl) (by rfl) (by first | (with_reducible exact Mem.ev_const _ _) | (with_reducible exact Mem.ev_zero _ _ _) | (with_reducible (apply Eq.trans (Mem.ev_tmp _ _ _)); simp only [List.getD_cons_succ, List.getD_cons_zero] <;> rfl)) (by first | (with_reducible exact Mem.ev_const _ _) | (with_reducible exact Mem.ev_zero _ _ _) | (with_reducible (apply Eq.trans (Mem.ev_tmp _ _ _)); simp only [List.getD_cons_succ, List.getD_cons_zero] <;> rfl)) (by omega) Try.underlying27 (by kernel_rfl) ?_
      rw [Nat.zero_add]
      (simp only [Act.put, List.setIfInBounds_toArray, List.set_cons_zero, List.set_cons_succ])
      refine plan_cell 3 _ ⟨g5, k, none⟩ (.int .i64 y) _ (by rfl) (by rfl) (by rfl) (by first | (with_reducible exact Mem.ev_const _ _) | (with_reducible exact Mem.ev_zero _ _ _) | (with_reducible (apply Eq.trans (Mem.ev_tmp _ _ _)); simp only [List.getD_cons_succ, List.getD_cons_zero] <;> rfl)) (fun w' hw' => (Below.cell hw' (p := ⟨g5, k, none⟩) LG.out).trans CY.out) Try.underlying3 (by rfl) ?_
      (simp only [Act.put, List.setIfInBounds_toArray, List.set_cons_zero, List.set_cons_succ])
      refine plan_call 21 _ _ _ (by kernel_rfl) (by rfl) (by rfl) (by rfl) (by first | exact Mem.ev_none _ | (simp only [List.map_toArray, List.map_cons, List.map_nil, Mem.ev_tmp, List.getD_cons_succ, List.getD_cons_zero] <;> rfl)) ?_
      refine (PAR.out _ (RW.out.below D0.out)).mono ?_
      rintro e z7 ⟨rfl, hb7⟩
      have E7 : Hid (Below wr.heap.size wr z7) := Lib.hid (D0.out.trans (hb7.mono D0.out.size))
      clear hb7
      refine ⟨_, rfl, E7.out, ?_⟩
      (simp only [Act.put, List.setIfInBounds_toArray, List.set_cons_zero, List.set_cons_succ])
      (first | (refine plan_move _ _ (by rfl) (by rfl) (.inl (by rfl)) (by first | (with_reducible exact Mem.ev_const _ _) | (with_reducible exact Mem.ev_zero _ _ _) | (with_reducible (apply Eq.trans (Mem.ev_tmp _ _ _)); simp only [List.getD_cons_succ, List.getD_cons_zero] <;> rfl)) ?_) | (refine plan_move _ _ (by rfl) (by rfl) (.inr (by rfl)) (by first | (with_reducible exact Mem.ev_const _ _) | (with_reducible exact Mem.ev_zero _ _ _) | (with_reducible (apply Eq.trans (Mem.ev_tmp _ _ _)); simp only [List.getD_cons_succ, List.getD_cons_zero] <;> rfl)) ?_) | (refine plan_pick_t _ _ _ _ (by rfl) (by rfl) (by rfl) (by first | (with_reducible exact Mem.ev_const _ _) | (with_reducible exact Mem.ev_zero _ _ _) | (with_reducible (apply Eq.trans (Mem.ev_tmp _ _ _)); simp only [List.getD_cons_succ, List.getD_cons_zero] <;> rfl)) (by first | (with_reducible exact Mem.ev_const _ _) | (with_reducible exact Mem.ev_zero _ _ _) | (with_reducible (apply Eq.trans (Mem.ev_tmp _ _ _)); simp only [List.getD_cons_succ, List.getD_cons_zero] <;> rfl)) ?_) | (refine plan_pick_f _ _ _ _ (by rfl) (by rfl) (by rfl) (by first | (with_reducible exact Mem.ev_const _ _) | (with_reducible exact Mem.ev_zero _ _ _) | (with_reducible (apply Eq.trans (Mem.ev_tmp _ _ _)); simp only [List.getD_cons_succ, List.getD_cons_zero] <;> rfl)) (by first | (with_reducible exact Mem.ev_const _ _) | (with_reducible exact Mem.ev_zero _ _ _) | (with_reducible (apply Eq.trans (Mem.ev_tmp _ _ _)); simp only [List.getD_cons_succ, List.getD_cons_zero] <;> rfl)) ?_))
      (simp only [Act.put, List.setIfInBounds_toArray, List.set_cons_zero, List.set_cons_succ])
      refine plan_extract _ _ #[(.int .i64 y2), (.int .i64 y3), (.bool true)] (.int .i64 y2) (by rfl) (by rfl) (by rfl) (by first | (with_reducible exact Mem.ev_const _ _) | (with_reducible exact Mem.ev_zero _ _ _) | (with_reducible (apply Eq.trans (Mem.ev_tmp _ _ _)); simp only [List.getD_cons_succ, List.getD_cons_zero] <;> rfl)) (by rfl) ?_
      (simp only [Act.put, List.setIfInBounds_toArray, List.set_cons_zero, List.set_cons_succ])
      refine plan_extract _ _ #[(.int .i64 y2), (.int .i64 y3), (.bool true)] (.int .i64 y3) (by rfl) (by rfl) (by rfl) (by first | (with_reducible exact Mem.ev_const _ _) | (with_reducible exact Mem.ev_zero _ _ _) | (with_reducible (apply Eq.trans (Mem.ev_tmp _ _ _)); simp only [List.getD_cons_succ, List.getD_cons_zero] <;> rfl)) (by rfl) ?_
      (simp only [Act.put, List.setIfInBounds_toArray, List.set_cons_zero, List.set_cons_succ])
      refine plan_extract _ _ #[(.int .i64 y2), (.int .i64 y3), (.bool true)] (.bool true) (by rfl) (by rfl) (by rfl) (by first | (with_reducible exact Mem.ev_const _ _) | (with_reducible exact Mem.ev_zero _ _ _) | (with_reducible (apply Eq.trans (Mem.ev_tmp _ _ _)); simp only [List.getD_cons_succ, List.getD_cons_zero] <;> rfl)) (by rfl) ?_
      (simp only [Act.put, List.setIfInBounds_toArray, List.set_cons_zero, List.set_cons_succ])
      (first | (refine plan_move _ _ (by rfl) (by rfl) (.inl (by rfl)) (by first | (with_reducible exact Mem.ev_const _ _) | (with_reducible exact Mem.ev_zero _ _ _) | (with_reducible (apply Eq.trans (Mem.ev_tmp _ _ _)); simp only [List.getD_cons_succ, List.getD_cons_zero] <;> rfl)) ?_) | (refine plan_move _ _ (by rfl) (by rfl) (.inr (by rfl)) (by first | (with_reducible exact Mem.ev_const _ _) | (with_reducible exact Mem.ev_zero _ _ _) | (with_reducible (apply Eq.trans (Mem.ev_tmp _ _ _)); simp only [List.getD_cons_succ, List.getD_cons_zero] <;> rfl)) ?_) | (refine plan_pick_t _ _ _ _ (by rfl) (by rfl) (by rfl) (by first | (with_reducible exact Mem.ev_const _ _) | (with_reducible exact Mem.ev_zero _ _ _) | (with_reducible (apply Eq.trans (Mem.ev_tmp _ _ _)); simp only [List.getD_cons_succ, List.getD_cons_zero] <;> rfl)) (by first | (with_reducible exact Mem.ev_const _ _) | (with_reducible exact Mem.ev_zero _ _ _) | (with_reducible (apply Eq.trans (Mem.ev_tmp _ _ _)); simp only [List.getD_cons_succ, List.getD_cons_zero] <;> rfl)) ?_) | (refine plan_pick_f _ _ _ _ (by rfl) (by rfl) (by rfl) (by first | (with_reducible exact Mem.ev_const _ _) | (with_reducible exact Mem.ev_zero _ _ _) | (with_reducible (apply Eq.trans (Mem.ev_tmp _ _ _)); simp only [List.getD_cons_succ, List.getD_cons_zero] <;> rfl)) (by first | (with_reducible exact Mem.ev_const _ _) | (with_reducible exact Mem.ev_zero _ _ _) | (with_reducible (apply Eq.trans (Mem.ev_tmp _ _ _)); simp only [List.getD_cons_succ, List.getD_cons_zero] <;> rfl)) ?_))
      (simp only [Act.put, List.setIfInBounds_toArray, List.set_cons_zero, List.set_cons_succ])
      (first | (refine plan_move _ _ (by rfl) (by rfl) (.inl (by rfl)) (by first | (with_reducible exact Mem.ev_const _ _) | (with_reducible exact Mem.ev_zero _ _ _) | (with_reducible (apply Eq.trans (Mem.ev_tmp _ _ _)); simp only [List.getD_cons_succ, List.getD_cons_zero] <;> rfl)) ?_) | (refine plan_move _ _ (by rfl) (by rfl) (.inr (by rfl)) (by first | (with_reducible exact Mem.ev_const _ _) | (with_reducible exact Mem.ev_zero _ _ _) | (with_reducible (apply Eq.trans (Mem.ev_tmp _ _ _)); simp only [List.getD_cons_succ, List.getD_cons_zero] <;> rfl)) ?_) | (refine plan_pick_t _ _ _ _ (by rfl) (by rfl) (by rfl) (by first | (with_reducible exact Mem.ev_const _ _) | (with_reducible exact Mem.ev_zero _ _ _) | (with_reducible (apply Eq.trans (Mem.ev_tmp _ _ _)); simp only [List.getD_cons_succ, List.getD_cons_zero] <;> rfl)) (by first | (with_reducible exact Mem.ev_const _ _) | (with_reducible exact Mem.ev_zero _ _ _) | (with_reducible (apply Eq.trans (Mem.ev_tmp _ _ _)); simp only [List.getD_cons_succ, List.getD_cons_zero] <;> rfl)) ?_) | (refine plan_pick_f _ _ _ _ (by rfl) (by rfl) (by rfl) (by first | (with_reducible exact Mem.ev_const _ _) | (with_reducible exact Mem.ev_zero _ _ _) | (with_reducible (apply Eq.trans (Mem.ev_tmp _ _ _)); simp only [List.getD_cons_succ, List.getD_cons_zero] <;> rfl)) (by first | (with_reducible exact Mem.ev_const _ _) | (with_reducible exact Mem.ev_zero _ _ _) | (with_reducible (apply Eq.trans (Mem.ev_tmp _ _ _)); simp only [List.getD_cons_succ, List.getD_cons_zero] <;> rfl)) ?_))
      (simp only [Act.put, List.setIfInBounds_toArray, List.set_cons_zero, List.set_cons_succ])
      (first | (refine plan_move _ _ (by rfl) (by rfl) (.inl (by rfl)) (by first | (with_reducible exact Mem.ev_const _ _) | (with_reducible exact Mem.ev_zero _ _ _) | (with_reducible (apply Eq.trans (Mem.ev_tmp _ _ _)); simp only [List.getD_cons_succ, List.getD_cons_zero] <;> rfl)) ?_) | (refine plan_move _ _ (by rfl) (by rfl) (.inr (by rfl)) (by first | (with_reducible exact Mem.ev_const _ _) | (with_reducible exact Mem.ev_zero _ _ _) | (with_reducible (apply Eq.trans (Mem.ev_tmp _ _ _)); simp only [List.getD_cons_succ, List.getD_cons_zero] <;> rfl)) ?_) | (refine plan_pick_t _ _ _ _ (by rfl) (by rfl) (by rfl) (by first | (with_reducible exact Mem.ev_const _ _) | (with_reducible exact Mem.ev_zero _ _ _) | (with_reducible (apply Eq.trans (Mem.ev_tmp _ _ _)); simp only [List.getD_cons_succ, List.getD_cons_zero] <;> rfl)) (by first | (with_reducible exact Mem.ev_const _ _) | (with_reducible exact Mem.ev_zero _ _ _) | (with_reducible (apply Eq.trans (Mem.ev_tmp _ _ _)); simp only [List.getD_cons_succ, List.getD_cons_zero] <;> rfl)) ?_) | (refine plan_pick_f _ _ _ _ (by rfl) (by rfl) (by rfl) (by first | (with_reducible exact Mem.ev_const _ _) | (with_reducible exact Mem.ev_zero _ _ _) | (with_reducible (apply Eq.trans (Mem.ev_tmp _ _ _)); simp only [List.getD_cons_succ, List.getD_cons_zero] <;> rfl)) (by first | (with_reducible exact Mem.ev_const _ _) | (with_reducible exact Mem.ev_zero _ _ _) | (with_reducible (apply Eq.trans (Mem.ev_tmp _ _ _)); simp only [List.getD_cons_succ, List.getD_cons_zero] <;> rfl)) ?_))
      (simp only [Act.put, List.setIfInBounds_toArray, List.set_cons_zero, List.set_cons_succ])
      refine plan_nil ?_
      have OW := Lib.hid (OwnV.below OO.out E7.out); have BD : Hid (Below w1.heap.size w1 z7) := Lib.hid (BW.out.trans (E7.out.mono BW.out.size))
      have HLN : Hid ((iz (PP (k + 1))).length = k + 1) := Lib.hid (by rw [iz_length, PL.out])
      go_wp2_with (at_builtin; refine wpList_append_lit (by rfl) _ _ 27 (by rfl) (.int .i64 y2) (.int .i64 0) 8 elemInt (by rfl) (by rfl) OW.out (by rfl) (by rfl) (by rw [HLN.out]; omega) (by rw [HLN.out]; omega) (BD.out.size) ?_; intro v6 w6 ho6 _ hb6 _; have O6 : Hid (OwnV w6 w1.heap.size 3 v6 (iz (PP (k + 1 + 1)))) := Lib.hid (by rw [SN.out, iz_snoc]; exact ho6); have B6 : Hid (Below w1.heap.size w1 w6) := Lib.hid (BD.out.trans hb6); clear ho6 hb6)
      go_roundw
      case rel => exact ⟨k + 1, by omega, by go_num, O6.out, B6.out⟩
      case measure => simp [intOf]; omega
    · have hkm : k = m := by omega
      subst hkm
      have hpz := END.out
      obtain ⟨y, hy⟩ : ∃ y : Int, y = (itp p x k : Int) := ⟨_, rfl⟩
      rw [← hy] at hpz cy
      have par : ∀ wx, RS wx p vL vF → Calls Try.prog 21 #[.agg M, .int .i64 y] wx fun e w' => e = .returned (.tuple #[.int .i64 0, .int .i64 0, .bool false]) ∧ Below wx.heap.size wx w' := fun wx h => by
        have hh := PARZ.out y wx h
        rw [hpz] at hh
        exact hh
      have PAR := Lib.hid par; have CY := Lib.hid cy
      clear hpz hy par cy ho hbw hlt5 hr5 hc5
      go_wp2_with fail
      refine wp_region_plan_in (fun x' => Below wr.heap.size wr x') (.take 0 (.take 1 (.take 2 (.take 3 (.take 4 (.take 5 (.take 6 (.sole 7 (.take 8 (.take 9 (.take 10 (.take 11 (.take 12 (.take 13 (.take 14 .done))))))))))))))) (by kernel_rfl) (by kernel_rfl) (by kernel_rfl) D0.out ?_
      refine plan_row 29 _ w.heap.size _ M 29 (by rfl) (by rfl) (by rfl) (by first | (with_reducible exact Mem.ev_const _ _) | (with_reducible exact Mem.ev_zero _ _ _) | (with_reducible (apply Eq.trans (Mem.ev_tmp _ _ _)); simp only [List.getD_cons_succ, List.getD_cons_zero] <;> rfl)) (fun w' hw' => AW.out.below hw' AW.out.lt) Try.underlying29 (by rfl) (by rw [MS.out]; exact infoRS) ?_
      (simp only [Act.put, List.setIfInBounds_toArray, List.set_cons_zero, List.set_cons_succ])
      (first | (refine plan_move _ _ (by rfl) (by rfl) (.inl (by rfl)) (by first | (with_reducible exact Mem.ev_const _ _) | (with_reducible exact Mem.ev_zero _ _ _) | (with_reducible (apply Eq.trans (Mem.ev_tmp _ _ _)); simp only [List.getD_cons_succ, List.getD_cons_zero] <;> rfl)) ?_) | (refine plan_move _ _ (by rfl) (by rfl) (.inr (by rfl)) (by first | (with_reducible exact Mem.ev_const _ _) | (with_reducible exact Mem.ev_zero _ _ _) | (with_reducible (apply Eq.trans (Mem.ev_tmp _ _ _)); simp only [List.getD_cons_succ, List.getD_cons_zero] <;> rfl)) ?_) | (refine plan_pick_t _ _ _ _ (by rfl) (by rfl) (by rfl) (by first | (with_reducible exact Mem.ev_const _ _) | (with_reducible exact Mem.ev_zero _ _ _) | (with_reducible (apply Eq.trans (Mem.ev_tmp _ _ _)); simp only [List.getD_cons_succ, List.getD_cons_zero] <;> rfl)) (by first | (with_reducible exact Mem.ev_const _ _) | (with_reducible exact Mem.ev_zero _ _ _) | (with_reducible (apply Eq.trans (Mem.ev_tmp _ _ _)); simp only [List.getD_cons_succ, List.getD_cons_zero] <;> rfl)) ?_) | (refine plan_pick_f _ _ _ _ (by rfl) (by rfl) (by rfl) (by first | (with_reducible exact Mem.ev_const _ _) | (with_reducible exact Mem.ev_zero _ _ _) | (with_reducible (apply Eq.trans (Mem.ev_tmp _ _ _)); simp only [List.getD_cons_succ, List.getD_cons_zero] <;> rfl)) (by first | (with_reducible exact Mem.ev_const _ _) | (with_reducible exact Mem.ev_zero _ _ _) | (with_reducible (apply Eq.trans (Mem.ev_tmp _ _ _)); simp only [List.getD_cons_succ, List.getD_cons_zero] <;> rfl)) ?_))
      (simp only [Act.put, List.setIfInBounds_toArray, List.set_cons_zero, List.set_cons_succ])
      (first | (refine plan_move _ _ (by rfl) (by rfl) (.inl (by rfl)) (by first | (with_reducible exact Mem.ev_const _ _) | (with_reducible exact Mem.ev_zero _ _ _) | (with_reducible (apply Eq.trans (Mem.ev_tmp _ _ _)); simp only [List.getD_cons_succ, List.getD_cons_zero] <;> rfl)) ?_) | (refine plan_move _ _ (by rfl) (by rfl) (.inr (by rfl)) (by first | (with_reducible exact Mem.ev_const _ _) | (with_reducible exact Mem.ev_zero _ _ _) | (with_reducible (apply Eq.trans (Mem.ev_tmp _ _ _)); simp only [List.getD_cons_succ, List.getD_cons_zero] <;> rfl)) ?_) | (refine plan_pick_t _ _ _ _ (by rfl) (by rfl) (by rfl) (by first | (with_reducible exact Mem.ev_const _ _) | (with_reducible exact Mem.ev_zero _ _ _) | (with_reducible (apply Eq.trans (Mem.ev_tmp _ _ _)); simp only [List.getD_cons_succ, List.getD_cons_zero] <;> rfl)) (by first | (with_reducible exact Mem.ev_const _ _) | (with_reducible exact Mem.ev_zero _ _ _) | (with_reducible (apply Eq.trans (Mem.ev_tmp _ _ _)); simp only [List.getD_cons_succ, List.getD_cons_zero] <;> rfl)) ?_) | (refine plan_pick_f _ _ _ _ (by rfl) (by rfl) (by rfl) (by first | (with_reducible exact Mem.ev_const _ _) | (with_reducible exact Mem.ev_zero _ _ _) | (with_reducible (apply Eq.trans (Mem.ev_tmp _ _ _)); simp only [List.getD_cons_succ, List.getD_cons_zero] <;> rfl)) (by first | (with_reducible exact Mem.ev_const _ _) | (with_reducible exact Mem.ev_zero _ _ _) | (with_reducible (apply Eq.trans (Mem.ev_tmp _ _ _)); simp only [List.getD_cons_succ, List.getD_cons_zero] <;> rfl)) ?_))
      (simp only [Act.put, List.setIfInBounds_toArray, List.set_cons_zero, List.set_cons_succ])
      refine plan_len _ _ _ (some ⟨g5, 0, none⟩) (k + 1) c5 (by rfl) (by rfl) (by rfl) (by rfl) (by first | (with_reducible exact Mem.ev_const _ _) | (with_reducible exact Mem.ev_zero _ _ _) | (with_reducible (apply Eq.trans (Mem.ev_tmp _ _ _)); simp only [List.getD_cons_succ, List.getD_cons_zero] <;> rfl)) (fun w' => by first | rfl | go_simp) ?_
      (simp only [Act.put, List.setIfInBounds_toArray, List.set_cons_zero, List.set_cons_succ])
      refine plan_bin _ _ _ _ _ _ _ (.int .i64 (k : Int)) (by rfl) (by rfl) (by rfl) (by first | (with_reducible exact Mem.ev_const _ _) | (with_reducible exact Mem.ev_zero _ _ _) | (with_reducible (apply Eq.trans (Mem.ev_tmp _ _ _)); simp only [List.getD_cons_succ, List.getD_cons_zero] <;> rfl)) (by rfl) (fun wx => SUB.out _ _ _ _ wx) ?_
      (simp only [Act.put, List.setIfInBounds_toArray, List.set_cons_zero, List.set_cons_succ])
      refine plan_index 27 3 _ _ g5 0 (k + 1) c5 k (by rfl) (by rfl) (by rfl) (by first | (with_reducible exact Mem.ev_const _ _) | (with_reducible exact Mem.ev_zero _ _ _) | (with_reducible (apply Eq.trans (Mem.ev_tmp _ _ _)); simp only [List.getD_cons_succ, List.getD_cons_zero] <;> rfl)) (by first | (with_reducible exact Mem.ev_const _ _) | (with_reducible exact Mem.ev_zero _ _ _) | (with_reducible (apply Eq.trans (Mem.ev_tmp _ _ _)); simp only [List.getD_cons_succ, List.getD_cons_zero] <;> rfl)) (by omega) Try.underlying27 (by kernel_rfl) ?_
      rw [Nat.zero_add]
      (simp only [Act.put, List.setIfInBounds_toArray, List.set_cons_zero, List.set_cons_succ])
      refine plan_cell 3 _ ⟨g5, k, none⟩ (.int .i64 y) _ (by rfl) (by rfl) (by rfl) (by first | (with_reducible exact Mem.ev_const _ _) | (with_reducible exact Mem.ev_zero _ _ _) | (with_reducible (apply Eq.trans (Mem.ev_tmp _ _ _)); simp only [List.getD_cons_succ, List.getD_cons_zero] <;> rfl)) (fun w' hw' => (Below.cell hw' (p := ⟨g5, k, none⟩) LG.out).trans CY.out) Try.underlying3 (by rfl) ?_
      (simp only [Act.put, List.setIfInBounds_toArray, List.set_cons_zero, List.set_cons_succ])
      refine plan_call 21 _ _ _ (by kernel_rfl) (by rfl) (by rfl) (by rfl) (by first | exact Mem.ev_none _ | (simp only [List.map_toArray, List.map_cons, List.map_nil, Mem.ev_tmp, List.getD_cons_succ, List.getD_cons_zero] <;> rfl)) ?_
      refine (PAR.out _ (RW.out.below D0.out)).mono ?_
      rintro e z7 ⟨rfl, hb7⟩
      have E7 : Hid (Below wr.heap.size wr z7) := Lib.hid (D0.out.trans (hb7.mono D0.out.size))
      clear hb7
      refine ⟨_, rfl, E7.out, ?_⟩
      (simp only [Act.put, List.setIfInBounds_toArray, List.set_cons_zero, List.set_cons_succ])
      (first | (refine plan_move _ _ (by rfl) (by rfl) (.inl (by rfl)) (by first | (with_reducible exact Mem.ev_const _ _) | (with_reducible exact Mem.ev_zero _ _ _) | (with_reducible (apply Eq.trans (Mem.ev_tmp _ _ _)); simp only [List.getD_cons_succ, List.getD_cons_zero] <;> rfl)) ?_) | (refine plan_move _ _ (by rfl) (by rfl) (.inr (by rfl)) (by first | (with_reducible exact Mem.ev_const _ _) | (with_reducible exact Mem.ev_zero _ _ _) | (with_reducible (apply Eq.trans (Mem.ev_tmp _ _ _)); simp only [List.getD_cons_succ, List.getD_cons_zero] <;> rfl)) ?_) | (refine plan_pick_t _ _ _ _ (by rfl) (by rfl) (by rfl) (by first | (with_reducible exact Mem.ev_const _ _) | (with_reducible exact Mem.ev_zero _ _ _) | (with_reducible (apply Eq.trans (Mem.ev_tmp _ _ _)); simp only [List.getD_cons_succ, List.getD_cons_zero] <;> rfl)) (by first | (with_reducible exact Mem.ev_const _ _) | (with_reducible exact Mem.ev_zero _ _ _) | (with_reducible (apply Eq.trans (Mem.ev_tmp _ _ _)); simp only [List.getD_cons_succ, List.getD_cons_zero] <;> rfl)) ?_) | (refine plan_pick_f _ _ _ _ (by rfl) (by rfl) (by rfl) (by first | (with_reducible exact Mem.ev_const _ _) | (with_reducible exact Mem.ev_zero _ _ _) | (with_reducible (apply Eq.trans (Mem.ev_tmp _ _ _)); simp only [List.getD_cons_succ, List.getD_cons_zero] <;> rfl)) (by first | (with_reducible exact Mem.ev_const _ _) | (with_reducible exact Mem.ev_zero _ _ _) | (with_reducible (apply Eq.trans (Mem.ev_tmp _ _ _)); simp only [List.getD_cons_succ, List.getD_cons_zero] <;> rfl)) ?_))
      (simp only [Act.put, List.setIfInBounds_toArray, List.set_cons_zero, List.set_cons_succ])
      refine plan_extract _ _ #[(.int .i64 0), (.int .i64 0), (.bool false)] (.int .i64 0) (by rfl) (by rfl) (by rfl) (by first | (with_reducible exact Mem.ev_const _ _) | (with_reducible exact Mem.ev_zero _ _ _) | (with_reducible (apply Eq.trans (Mem.ev_tmp _ _ _)); simp only [List.getD_cons_succ, List.getD_cons_zero] <;> rfl)) (by rfl) ?_
      (simp only [Act.put, List.setIfInBounds_toArray, List.set_cons_zero, List.set_cons_succ])
      refine plan_extract _ _ #[(.int .i64 0), (.int .i64 0), (.bool false)] (.int .i64 0) (by rfl) (by rfl) (by rfl) (by first | (with_reducible exact Mem.ev_const _ _) | (with_reducible exact Mem.ev_zero _ _ _) | (with_reducible (apply Eq.trans (Mem.ev_tmp _ _ _)); simp only [List.getD_cons_succ, List.getD_cons_zero] <;> rfl)) (by rfl) ?_
      (simp only [Act.put, List.setIfInBounds_toArray, List.set_cons_zero, List.set_cons_succ])
      refine plan_extract _ _ #[(.int .i64 0), (.int .i64 0), (.bool false)] (.bool false) (by rfl) (by rfl) (by rfl) (by first | (with_reducible exact Mem.ev_const _ _) | (with_reducible exact Mem.ev_zero _ _ _) | (with_reducible (apply Eq.trans (Mem.ev_tmp _ _ _)); simp only [List.getD_cons_succ, List.getD_cons_zero] <;> rfl)) (by rfl) ?_
      (simp only [Act.put, List.setIfInBounds_toArray, List.set_cons_zero, List.set_cons_succ])
      (first | (refine plan_move _ _ (by rfl) (by rfl) (.inl (by rfl)) (by first | (with_reducible exact Mem.ev_const _ _) | (with_reducible exact Mem.ev_zero _ _ _) | (with_reducible (apply Eq.trans (Mem.ev_tmp _ _ _)); simp only [List.getD_cons_succ, List.getD_cons_zero] <;> rfl)) ?_) | (refine plan_move _ _ (by rfl) (by rfl) (.inr (by rfl)) (by first | (with_reducible exact Mem.ev_const _ _) | (with_reducible exact Mem.ev_zero _ _ _) | (with_reducible (apply Eq.trans (Mem.ev_tmp _ _ _)); simp only [List.getD_cons_succ, List.getD_cons_zero] <;> rfl)) ?_) | (refine plan_pick_t _ _ _ _ (by rfl) (by rfl) (by rfl) (by first | (with_reducible exact Mem.ev_const _ _) | (with_reducible exact Mem.ev_zero _ _ _) | (with_reducible (apply Eq.trans (Mem.ev_tmp _ _ _)); simp only [List.getD_cons_succ, List.getD_cons_zero] <;> rfl)) (by first | (with_reducible exact Mem.ev_const _ _) | (with_reducible exact Mem.ev_zero _ _ _) | (with_reducible (apply Eq.trans (Mem.ev_tmp _ _ _)); simp only [List.getD_cons_succ, List.getD_cons_zero] <;> rfl)) ?_) | (refine plan_pick_f _ _ _ _ (by rfl) (by rfl) (by rfl) (by first | (with_reducible exact Mem.ev_const _ _) | (with_reducible exact Mem.ev_zero _ _ _) | (with_reducible (apply Eq.trans (Mem.ev_tmp _ _ _)); simp only [List.getD_cons_succ, List.getD_cons_zero] <;> rfl)) (by first | (with_reducible exact Mem.ev_const _ _) | (with_reducible exact Mem.ev_zero _ _ _) | (with_reducible (apply Eq.trans (Mem.ev_tmp _ _ _)); simp only [List.getD_cons_succ, List.getD_cons_zero] <;> rfl)) ?_))
      (simp only [Act.put, List.setIfInBounds_toArray, List.set_cons_zero, List.set_cons_succ])
      (first | (refine plan_move _ _ (by rfl) (by rfl) (.inl (by rfl)) (by first | (with_reducible exact Mem.ev_const _ _) | (with_reducible exact Mem.ev_zero _ _ _) | (with_reducible (apply Eq.trans (Mem.ev_tmp _ _ _)); simp only [List.getD_cons_succ, List.getD_cons_zero] <;> rfl)) ?_) | (refine plan_move _ _ (by rfl) (by rfl) (.inr (by rfl)) (by first | (with_reducible exact Mem.ev_const _ _) | (with_reducible exact Mem.ev_zero _ _ _) | (with_reducible (apply Eq.trans (Mem.ev_tmp _ _ _)); simp only [List.getD_cons_succ, List.getD_cons_zero] <;> rfl)) ?_) | (refine plan_pick_t _ _ _ _ (by rfl) (by rfl) (by rfl) (by first | (with_reducible exact Mem.ev_const _ _) | (with_reducible exact Mem.ev_zero _ _ _) | (with_reducible (apply Eq.trans (Mem.ev_tmp _ _ _)); simp only [List.getD_cons_succ, List.getD_cons_zero] <;> rfl)) (by first | (with_reducible exact Mem.ev_const _ _) | (with_reducible exact Mem.ev_zero _ _ _) | (with_reducible (apply Eq.trans (Mem.ev_tmp _ _ _)); simp only [List.getD_cons_succ, List.getD_cons_zero] <;> rfl)) ?_) | (refine plan_pick_f _ _ _ _ (by rfl) (by rfl) (by rfl) (by first | (with_reducible exact Mem.ev_const _ _) | (with_reducible exact Mem.ev_zero _ _ _) | (with_reducible (apply Eq.trans (Mem.ev_tmp _ _ _)); simp only [List.getD_cons_succ, List.getD_cons_zero] <;> rfl)) (by first | (with_reducible exact Mem.ev_const _ _) | (with_reducible exact Mem.ev_zero _ _ _) | (with_reducible (apply Eq.trans (Mem.ev_tmp _ _ _)); simp only [List.getD_cons_succ, List.getD_cons_zero] <;> rfl)) ?_))
      (simp only [Act.put, List.setIfInBounds_toArray, List.set_cons_zero, List.set_cons_succ])
      (first | (refine plan_move _ _ (by rfl) (by rfl) (.inl (by rfl)) (by first | (with_reducible exact Mem.ev_const _ _) | (with_reducible exact Mem.ev_zero _ _ _) | (with_reducible (apply Eq.trans (Mem.ev_tmp _ _ _)); simp only [List.getD_cons_succ, List.getD_cons_zero] <;> rfl)) ?_) | (refine plan_move _ _ (by rfl) (by rfl) (.inr (by rfl)) (by first | (with_reducible exact Mem.ev_const _ _) | (with_reducible exact Mem.ev_zero _ _ _) | (with_reducible (apply Eq.trans (Mem.ev_tmp _ _ _)); simp only [List.getD_cons_succ, List.getD_cons_zero] <;> rfl)) ?_) | (refine plan_pick_t _ _ _ _ (by rfl) (by rfl) (by rfl) (by first | (with_reducible exact Mem.ev_const _ _) | (with_reducible exact Mem.ev_zero _ _ _) | (with_reducible (apply Eq.trans (Mem.ev_tmp _ _ _)); simp only [List.getD_cons_succ, List.getD_cons_zero] <;> rfl)) (by first | (with_reducible exact Mem.ev_const _ _) | (with_reducible exact Mem.ev_zero _ _ _) | (with_reducible (apply Eq.trans (Mem.ev_tmp _ _ _)); simp only [List.getD_cons_succ, List.getD_cons_zero] <;> rfl)) ?_) | (refine plan_pick_f _ _ _ _ (by rfl) (by rfl) (by rfl) (by first | (with_reducible exact Mem.ev_const _ _) | (with_reducible exact Mem.ev_zero _ _ _) | (with_reducible (apply Eq.trans (Mem.ev_tmp _ _ _)); simp only [List.getD_cons_succ, List.getD_cons_zero] <;> rfl)) (by first | (with_reducible exact Mem.ev_const _ _) | (with_reducible exact Mem.ev_zero _ _ _) | (with_reducible (apply Eq.trans (Mem.ev_tmp _ _ _)); simp only [List.getD_cons_succ, List.getD_cons_zero] <;> rfl)) ?_))
      (simp only [Act.put, List.setIfInBounds_toArray, List.set_cons_zero, List.set_cons_succ])
      refine plan_nil ?_
      go_wp2_with fail
      go_ret
      exact ⟨_, rfl, ownV_low (OwnV.below OO.out E7.out) HB.out.size, HB.out.trans ((BW.out.trans (E7.out.mono BW.out.size)).mono HB.out.size)⟩
theorem rpath_any (p : Nat) (vL vF : Value) (z : Int) (w : World) (hR : RS w p vL vF) (h0 : 1 ≤ p) (h1 : p ≤ 216) : Calls Try.prog 27 #[.agg (rsC p vL vF), .int .i64 z] w (OIEnd w (WZ p z)) := by
  unfold WZ
  by_cases h : 0 ≤ z ∧ z < (p : Int)
  · rw [if_pos h]
    obtain ⟨x, rfl⟩ : ∃ x : Nat, z = (x : Int) := ⟨z.toNat, by omega⟩
    exact rpath_some p vL vF x w hR h0 h1 (by omega)
  · rw [if_neg h]; exact rpath_none p vL vF z w h
theorem hitsN_le (p x : Nat) (z : Int) (n : Nat) : hitsN p x z n ≤ n := by
  unfold hitsN
  have h := List.length_filter_le (fun y => y == z) (pathZ p x n)
  rw [pathZ_length] at h
  exact h
theorem UZ_len (p : Nat) (z : Int) (n : Nat) : (UZ p z n).length ≤ 4 * n := by
  induction n with
  | zero => simp [UZ]
  | succ n ih =>
    rw [UZ_succ, List.length_append, List.length_replicate]
    have := hitsN_le p n z (topn p + 1)
    have := top_le p
    omega
theorem iz_rep (l : List Int) (n : Nat) (x : Int) : iz (l ++ List.replicate (n + 1) x) = iz (l ++ List.replicate n x) ++ [.int .i64 x] := by
  rw [List.replicate_succ', ← List.append_assoc, iz_snoc]
set_option maxHeartbeats 4000000 in
theorem runder_any (p : Nat) (vL vF : Value) (z : Int) (w : World) (hR : RS w p vL vF) (h0 : 1 ≤ p) (h1 : p ≤ 216) : Calls Try.prog 28 #[.agg (rsC p vL vF), .int .i64 z] w (OIEnd w (UZ p z p)) := by
  have hpa := fun x hx wx h => rpath_some p vL vF x wx h h0 h1 hx
  have htop := top_le p
  have hus := fun n => UZ_succ p z n
  have hul := fun n => UZ_len p z n
  have hhs := fun x n => hitsN_succ p x z n
  have hhl := fun x n => hitsN_le p x z n
  have hA := at_new w (rsC p vL vF) 29
  have hb : Below w.heap.size w (w.alloc (.cells (rsC p vL vF) 29)) := (Below.refl _ _).alloc (Nat.le_refl _) _
  have c0 : (w.alloc (.cells (rsC p vL vF) 29)).cell? ⟨w.heap.size, 0, none⟩ = some (.int .i64 (p : Int)) := (hA.cell 0).trans rfl
  have hR1 := hR.below hb
  have ms : (rsC p vL vF).size = 3 := rfl
  obtain ⟨M, hM⟩ : ∃ M, M = rsC p vL vF := ⟨_, rfl⟩
  rw [← hM] at hpa hA hb c0 hR1 ms ⊢
  obtain ⟨w1, hw1⟩ : ∃ w1, w1 = w.alloc (.cells M 29) := ⟨_, rfl⟩
  rw [← hw1] at hA hb c0 hR1
  have hpl := fun x => pathZ_length p x (topn p + 1)
  have hpg := fun x k hk => pathZ_get p x (topn p + 1) k hk
  obtain ⟨PP, hPP⟩ : ∃ P : Nat → List Int, P = fun x => pathZ p x (topn p + 1) := ⟨_, rfl⟩
  have hpa2 : ∀ x, x < p → ∀ wx, RS wx p vL vF → Calls Try.prog 27 #[.agg M, .int .i64 (x : Int)] wx (OIEnd wx (PP x)) := fun x hx wx h => by rw [hPP]; exact hpa x hx wx h
  have hpl2 : ∀ x, (PP x).length = topn p + 1 := fun x => by rw [hPP]; exact hpl x
  have hpg2 : ∀ x k, k < topn p + 1 → (PP x).getD k 0 = (itp p x k : Int) := fun x k hk => by rw [hPP]; exact hpg x k hk
  obtain ⟨U, hU⟩ : ∃ U, U = UZ p z := ⟨_, rfl⟩
  rw [← hU] at hus hul ⊢
  obtain ⟨m, hm⟩ : ∃ m, m = topn p + 1 := ⟨_, rfl⟩
  rw [← hm] at hus hpl2 hpg2
  have m4 : m ≤ 4 := by omega
  have hu0 : U 0 = [] := by rw [hU]; rfl
  have PA := Lib.hid hpa2; have AX := Lib.hid hA; have HB := Lib.hid hb; have MS := Lib.hid ms; have R1 := Lib.hid hR1; have PL := Lib.hid hpl2; have PG := Lib.hid hpg2; have US := Lib.hid hus; have UL := Lib.hid hul; have HS := Lib.hid hhs; have HL := Lib.hid hhl; have C0 := Lib.hid c0; have LT0 := Lib.hid hA.lt; have U0 := Lib.hid hu0
  clear hpa hpa2 hA hb ms hR1 hpl hpl2 hpg hpg2 hus hul hhs hhl c0 hPP hM hU hm htop hu0 hR h0
  go_enter Try.func28, Try.ntmps28
  go_upto_region 1 with fail
  rw [← hw1]
  clear hw1
  go_wp2_with fail
  go_loopw [5, 6] (fun vo v wr => ∃ u : Value, u = vo ∧ ∃ x : Nat, x ≤ p ∧ v = .int .i64 x ∧ OwnV wr w1.heap.size 3 u (iz (U x)) ∧ Below w1.heap.size w1 wr) (fun _ v _ => p - (intOf v).toNat)
  case atStart => exact ⟨_, rfl, 0, by omega, rfl, by rw [U0.out]; exact OwnV.nil _ _ _, Below.refl _ _⟩
  case round =>
    obtain ⟨vo, rfl, x, hx, rfl, ho, hbw⟩ := hrel
    have cw := (hbw.cell (p := ⟨w.heap.size, 0, none⟩) LT0.out).trans C0.out
    have OO := Lib.hid ho; have BW := Lib.hid hbw
    by_cases hlt : x < p
    · have hlt' : (x : Int) < (p : Int) := by omega
      have AW := Lib.hid (AX.out.below hbw AX.out.lt); have RW := Lib.hid (R1.out.below hbw)
      clear ho hbw
      go_wp2_with (refine wpList_load_all (by rfl) 29 _ (by rfl) w.heap.size (by rfl) _ Try.underlying29 (by rfl) M _ AW.out (by rw [MS.out]; exact infoRS) ?_)
      refine (PA.out x hlt wr RW.out).mono ?_
      rintro e w8 ⟨v7, rfl, ho7, hb8⟩
      have O5 := Lib.hid (OwnV.below OO.out hb8); have B8 : Hid (Below w1.heap.size w1 w8) := Lib.hid (BW.out.trans (hb8.mono BW.out.size))
      have N7 : Hid (∀ g, _root_.Go.Value.ownBlock vo = some g → _root_.Go.Value.ownBlock v7 ≠ some g) := Lib.hid (fun g h1 h2 => by
        have a := (OwnV.lt OO.out g h1).2
        have b := (OwnV.lt ho7 g h2).1
        omega)
      obtain ⟨nB, hnB⟩ : ∃ n, n = wr.heap.size := ⟨_, rfl⟩
      rw [← hnB] at ho7
      have O7 := Lib.hid ho7
      obtain ⟨L, hL⟩ : ∃ L, L = PP x := ⟨_, rfl⟩
      have hlL : L.length = m := by rw [hL]; exact PL.out x
      have hgL : ∀ k, k < m → L.getD k 0 = (itp p x k : Int) := fun k hk => by rw [hL]; exact PG.out x k hk
      rw [← hL] at O7
      have LL := Lib.hid hlL; have GL := Lib.hid hgL
      clear hnB ho7 hb8 AW RW hL hlL hgL OO
      obtain ⟨a7, c7, e7, _⟩ := OwnV.open O7.out
      rw [iz_length, LL.out] at e7
      subst e7
      go_wp2_with fail
      go_loopw [5, 8] (fun vo v wx => ∃ u : Value, u = vo ∧ ∃ j : Nat, j ≤ m ∧ v = .int .i64 j ∧ OwnV wx w1.heap.size 3 u (iz (U x ++ List.replicate (hitsN p x z j) (x : Int))) ∧ OwnV wx nB 3 (.slice a7 m c7) (iz L) ∧ (∀ g, _root_.Go.Value.ownBlock u = some g → _root_.Go.Value.ownBlock (.slice a7 m c7) ≠ some g) ∧ Below w1.heap.size w1 wx) (fun _ v _ => m - (intOf v).toNat)
      case atStart => exact ⟨_, rfl, 0, by omega, rfl, by rw [show hitsN p x z 0 = 0 from rfl, List.replicate_zero, List.append_nil]; exact O5.out, O7.out, N7.out, B8.out⟩
      case round =>
        clear O5 O7 N7 B8
        obtain ⟨u, rfl, j, hj, rfl, ho, ho7, hne, hbx⟩ := hrel
        have O5 := Lib.hid ho; have O7 := Lib.hid ho7; have N7 := Lib.hid hne; have BX := Lib.hid hbx
        clear ho hne hbx
        by_cases hlj : j < m
        · have hlj' : (j : Int) < (m : Int) := by omega
          obtain ⟨b9, o9, e9, _, cx⟩ := sli_at (i := j) (ownV_sli ho7) LL.out.symm hlj
          subst e9
          rw [GL.out j hlj] at cx
          have hh := HS.out x j
          have hlb := HL.out x j
          have hub := UL.out x
          have hlen : (iz (U x ++ List.replicate (hitsN p x z j) (x : Int))).length ≤ 4 * 216 + 4 := by rw [iz_length, List.length_append, List.length_replicate]; omega
          obtain ⟨y, hy⟩ : ∃ y : Int, y = (itp p x j : Int) := ⟨_, rfl⟩
          rw [← hy] at cx hh
          have HLEN := Lib.hid hlen
          clear ho7 hlb hub hlen hy
          by_cases hyz : y = z
          · rw [if_pos hyz] at hh
            have HH := Lib.hid hh
            subst hyz
            clear hh
            go_wp2_with (at_builtin; refine wpList_append_lit (by rfl) _ _ 27 (by rfl) (.int .i64 (x : Int)) (.int .i64 0) 8 elemInt (by rfl) (by rfl) O5.out (by rfl) (by rfl) (by have := HLEN.out; omega) (by have := HLEN.out; omega) (BX.out.size) ?_; intro v6 w6 ho6 hk6 hb6 hf6; have O6 : Hid (OwnV w6 w1.heap.size 3 v6 (iz (U x ++ List.replicate (hitsN p x y (j + 1)) (x : Int)))) := Lib.hid (by rw [HH.out, iz_rep]; exact ho6); have B6 : Hid (Below w1.heap.size w1 w6) := Lib.hid (BX.out.trans hb6); have P6 : Hid (OwnV w6 nB 3 (.slice (some ⟨b9, o9, none⟩) m c7) (iz L)) := Lib.hid (OwnV.keep O7.out (fun g hg => hk6 g (OwnV.lt O7.out g hg).2 (fun e => N7.out g e hg))); have N6 : Hid (∀ g, _root_.Go.Value.ownBlock v6 = some g → _root_.Go.Value.ownBlock (.slice (some ⟨b9, o9, none⟩) m c7) ≠ some g) := Lib.hid (fun g h1 h2 => by rcases hf6 with e | ⟨g', e, hge⟩; (rw [e] at h1; exact N7.out g h1 h2); (rw [e] at h1; injection h1 with h1; subst h1; have := (OwnV.lt O7.out _ h2).2; omega)); clear ho6 hk6 hb6 hf6)
            go_roundw
            case rel => exact ⟨_, rfl, j + 1, by omega, by go_num, O6.out, P6.out, N6.out, B6.out⟩
            case measure => simp [intOf]; omega
          · rw [if_neg hyz, Nat.add_zero] at hh
            have HH := Lib.hid hh
            clear hh
            go_wp2_with fail
            go_roundw
            case rel => exact ⟨_, rfl, j + 1, by omega, by go_num, by rw [HH.out]; exact O5.out, O7.out, N7.out, BX.out⟩
            case measure => simp [intOf]; omega
        · have hjm : j = m := by omega
          subst hjm
          have HU := Lib.hid (US.out x)
          clear ho7 hlj hj
          go_wp2_with fail
          go_roundw
          case rel => exact ⟨_, rfl, x + 1, by omega, by go_num, by rw [HU.out]; exact O5.out, BX.out⟩
          case measure => simp [intOf]; omega
    · have hxp : x = p := by omega
      have hge : ¬ (x : Int) < (p : Int) := by omega
      subst hxp
      clear hlt hx ho hbw
      go_wp2_with fail
      go_ret
      exact ⟨_, rfl, ownV_low OO.out HB.out.size, HB.out.trans (BW.out.mono HB.out.size)⟩
end Sha
end Go.Proofs.Ytbboljmemomcnaa
